/- Dice: a config thrown, told whole. -/
import Derived.Test.YtfojmjgnndlfnaaDiceOn
import Derived.Test.YtfojmjgnndlfnaaConfCheck
import Derived.Deep.RegionHeld3
import Derived.Maps.AppendAt
import Derived.OwnWalk
import Derived.Deep.CutBlock
import Derived.Deep.DeepCutAuto
namespace Go.Proofs.Ytfojmjgnndlfnaa.DiceW
open Go Go.RowKit Conf Dice

theorem blk_lt {w : World} {g : Nat} {o : Obj} (h : w.heap[g]? = some o) : g < w.heap.size := by
  rcases Nat.lt_or_ge g w.heap.size with h1 | h1
  · exact h1
  · rw [Array.getElem?_eq_none h1] at h; cases h
theorem blk_alloc {w : World} {k : Nat} {o o' : Obj} (h : w.heap[k]? = some o) : (w.alloc o').heap[k]? = some o := (Below.heap_alloc _ _ _ (blk_lt h)).trans h
theorem blk_far {w : World} {k j i : Nat} {o : Obj} {v : Value} (h : w.heap[k]? = some o) (hne : k ≠ j) : (w.setCell ⟨j, i, none⟩ v).heap[k]? = some o := (Below.heap_setCell _ _ _ _ hne).trans h
theorem infoB : (Try.prog.info? 4).map (fun i => (i.zero, i.size, i.bytes)) = some (some (.bool false), 1, 1) := by kernel_rfl

/-- While a config is thrown: the dice, the config so far, the answer's box. -/
structure X (w W : World) (g r b : Nat) (st : Int) (c : Cfg) : Prop where
  d : D TD W g st
  box : W.heap[b]? = some (.cells c.cells 25 (0, 0))
  res : W.heap[r]? = some (.cells #[.slice none 0 0, .int .i64 0, .int .i64 0, .int .i64 0, .int .i64 0, .int .i64 0, .int .i64 0, .int .i64 0, .int .i64 0, .int .i64 0, .int .i64 0, .int .u64 0] 25 (0, 0))
  bel : On g w W
  gr : g ≠ r
  gb : g ≠ b
  rb : r ≠ b
section
variable {w W W' : World} {g r b : Nat} {st st' : Int} {c : Cfg}
theorem cfar {W : World} {b u i j : Nat} {x v : Value} (h : W.cell? ⟨b, i, none⟩ = some x) (hne : b ≠ u) : (W.setCell ⟨u, j, none⟩ v).cell? ⟨b, i, none⟩ = some x := by
  have e := Below.heap_setCell W ⟨u, j, none⟩ v b (by exact hne)
  unfold World.cell? at *
  rw [e]
  exact h
theorem X.call (h : X w W g r b st c) (hd : D TD W' g st') (ho : On g W W') : X w W' g r b st' c :=
  ⟨hd, (ho.block _ (blk_lt h.box) h.gb.symm).trans h.box, (ho.block _ (blk_lt h.res) h.gr.symm).trans h.res, h.bel.trans ho, h.gr, h.gb, h.rb⟩
theorem X.set0 (h : X w W g r b st c) (A : Option Addr) (n cap : Nat) (hg : w.heap.size ≤ b) : X w (W.setCell ⟨b, 0, none⟩ (.slice A n cap)) g r b st { c with A := A, n := n, cap := cap } :=
  ⟨blk_far h.d h.gb, by simp [World.setCell, Array.getElem?_modify, h.box, Cfg.cells], blk_far h.res h.rb, h.bel.set hg 0 _, h.gr, h.gb, h.rb⟩
theorem X.set1 (h : X w W g r b st c) (v : Int) (hg : w.heap.size ≤ b) : X w (W.setCell ⟨b, 1, none⟩ (.int .i64 v)) g r b st { c with f1 := v } :=
  ⟨blk_far h.d h.gb, by simp [World.setCell, Array.getElem?_modify, h.box, Cfg.cells], blk_far h.res h.rb, h.bel.set hg 1 _, h.gr, h.gb, h.rb⟩
theorem X.set2 (h : X w W g r b st c) (v : Int) (hg : w.heap.size ≤ b) : X w (W.setCell ⟨b, 2, none⟩ (.int .i64 v)) g r b st { c with f2 := v } :=
  ⟨blk_far h.d h.gb, by simp [World.setCell, Array.getElem?_modify, h.box, Cfg.cells], blk_far h.res h.rb, h.bel.set hg 2 _, h.gr, h.gb, h.rb⟩
theorem X.set3 (h : X w W g r b st c) (v : Int) (hg : w.heap.size ≤ b) : X w (W.setCell ⟨b, 3, none⟩ (.int .i64 v)) g r b st { c with f3 := v } :=
  ⟨blk_far h.d h.gb, by simp [World.setCell, Array.getElem?_modify, h.box, Cfg.cells], blk_far h.res h.rb, h.bel.set hg 3 _, h.gr, h.gb, h.rb⟩
theorem X.set4 (h : X w W g r b st c) (v : Int) (hg : w.heap.size ≤ b) : X w (W.setCell ⟨b, 4, none⟩ (.int .i64 v)) g r b st { c with f4 := v } :=
  ⟨blk_far h.d h.gb, by simp [World.setCell, Array.getElem?_modify, h.box, Cfg.cells], blk_far h.res h.rb, h.bel.set hg 4 _, h.gr, h.gb, h.rb⟩
theorem X.set5 (h : X w W g r b st c) (v : Int) (hg : w.heap.size ≤ b) : X w (W.setCell ⟨b, 5, none⟩ (.int .i64 v)) g r b st { c with f5 := v } :=
  ⟨blk_far h.d h.gb, by simp [World.setCell, Array.getElem?_modify, h.box, Cfg.cells], blk_far h.res h.rb, h.bel.set hg 5 _, h.gr, h.gb, h.rb⟩
theorem X.set6 (h : X w W g r b st c) (v : Int) (hg : w.heap.size ≤ b) : X w (W.setCell ⟨b, 6, none⟩ (.int .i64 v)) g r b st { c with f6 := v } :=
  ⟨blk_far h.d h.gb, by simp [World.setCell, Array.getElem?_modify, h.box, Cfg.cells], blk_far h.res h.rb, h.bel.set hg 6 _, h.gr, h.gb, h.rb⟩
theorem X.set7 (h : X w W g r b st c) (v : Int) (hg : w.heap.size ≤ b) : X w (W.setCell ⟨b, 7, none⟩ (.int .i64 v)) g r b st { c with f7 := v } :=
  ⟨blk_far h.d h.gb, by simp [World.setCell, Array.getElem?_modify, h.box, Cfg.cells], blk_far h.res h.rb, h.bel.set hg 7 _, h.gr, h.gb, h.rb⟩
theorem X.set8 (h : X w W g r b st c) (v : Int) (hg : w.heap.size ≤ b) : X w (W.setCell ⟨b, 8, none⟩ (.int .i64 v)) g r b st { c with f8 := v } :=
  ⟨blk_far h.d h.gb, by simp [World.setCell, Array.getElem?_modify, h.box, Cfg.cells], blk_far h.res h.rb, h.bel.set hg 8 _, h.gr, h.gb, h.rb⟩
theorem X.set9 (h : X w W g r b st c) (v : Int) (hg : w.heap.size ≤ b) : X w (W.setCell ⟨b, 9, none⟩ (.int .i64 v)) g r b st { c with f9 := v } :=
  ⟨blk_far h.d h.gb, by simp [World.setCell, Array.getElem?_modify, h.box, Cfg.cells], blk_far h.res h.rb, h.bel.set hg 9 _, h.gr, h.gb, h.rb⟩
theorem X.set10 (h : X w W g r b st c) (v : Int) (hg : w.heap.size ≤ b) : X w (W.setCell ⟨b, 10, none⟩ (.int .i64 v)) g r b st { c with f10 := v } :=
  ⟨blk_far h.d h.gb, by simp [World.setCell, Array.getElem?_modify, h.box, Cfg.cells], blk_far h.res h.rb, h.bel.set hg 10 _, h.gr, h.gb, h.rb⟩
theorem X.set11 (h : X w W g r b st c) (v : Int) (hg : w.heap.size ≤ b) : X w (W.setCell ⟨b, 11, none⟩ (.int .u64 v)) g r b st { c with f11 := v } :=
  ⟨blk_far h.d h.gb, by simp [World.setCell, Array.getElem?_modify, h.box, Cfg.cells], blk_far h.res h.rb, h.bel.set hg 11 _, h.gr, h.gb, h.rb⟩
theorem X.grown (h : X w W g r b st c) (hg : W.grownBy W' none) : X w W' g r b st c :=
  ⟨(hg.block g (blk_lt h.d) (by simp)).trans h.d, (hg.block b (blk_lt h.box) (by simp)).trans h.box, (hg.block r (blk_lt h.res) (by simp)).trans h.res, h.bel.grown hg (by intro k hk; cases hk), h.gr, h.gb, h.rb⟩
theorem X.far (h : X w W g r b st c) {u i : Nat} {v : Value} (h1 : g ≠ u) (h2 : b ≠ u) (h3 : r ≠ u) (h4 : w.heap.size ≤ u) : X w (W.setCell ⟨u, i, none⟩ v) g r b st c :=
  ⟨blk_far h.d h1, blk_far h.box h2, blk_far h.res h3, h.bel.set h4 i _, h.gr, h.gb, h.rb⟩
theorem X.drew (h : X w W g r b st c) : X w W.drew g r b st c := ⟨h.d, h.box, h.res, h.bel.drew, h.gr, h.gb, h.rb⟩
theorem X.ex (h : X w W g r b st c) : ∃ s', s' = st ∧ X w W g r b s' c := ⟨st, rfl, h⟩
theorem X.cell (h : X w W g r b st c) (i : Nat) : W.cell? ⟨b, i, none⟩ = c.cells[i]? := cell_of_row W b i _ _ (0, 0) h.box
theorem X.free (h : X w W g r b st c) (i : Nat) : W.frozen? ⟨b, i, none⟩ = false := by simp [World.frozen?, h.box]
theorem X.rcell (h : X w W g r b st c) (i : Nat) : W.cell? ⟨r, i, none⟩ = (#[.slice none 0 0, .int .i64 0, .int .i64 0, .int .i64 0, .int .i64 0, .int .i64 0, .int .i64 0, .int .i64 0, .int .i64 0, .int .i64 0, .int .i64 0, .int .u64 0] : Array Value)[i]? := cell_of_row W r i _ _ (0, 0) h.res
theorem X.rfree (h : X w W g r b st c) (i : Nat) : W.frozen? ⟨r, i, none⟩ = false := by simp [World.frozen?, h.res]
end

def c0 : Cfg := ⟨none, 0, 0, 0, 0, 0, 0, 0, 0, 0, 0, 0, 0, 0⟩
/-- A row of Booleans, of which k are thrown. -/
def Row (W : World) (u n k : Nat) (st : Int) : Prop := ∃ cur : Array Value, W.heap[u]? = some (.cells cur 4 (0, 0)) ∧ cur.size = n ∧ ∀ j, j < k → cur[j]? = some (.bool (belZ (it (j + 1) st) 3 == 0))
def w1 (x : Int) : Int := wrap64 (1 + x)
def dn (st : Int) : Nat := (1 + belZ st 3).toNat
def ds0 (st : Int) : Int := it (dn st + 1) st
def ds1 (st : Int) : Int := nxZ (ds0 st) 2
def ds2 (st : Int) : Int := nxZ (ds1 st) 3
def ds3 (st : Int) : Int := nxZ (ds2 st) 5
def ds4 (st : Int) : Int := nxZ (ds3 st) 5
def ds5 (st : Int) : Int := nxZ (ds4 st) 3
def ds6 (st : Int) : Int := nxZ (ds5 st) 3
def ds7 (st : Int) : Int := nxZ (ds6 st) 2
def ds8 (st : Int) : Int := nxZ (ds7 st) 4
def ds9 (st : Int) : Int := nxZ (ds8 st) 5
def ds10 (st : Int) : Int := nxZ (ds9 st) 3
def ds11 (st : Int) : Int := nxZ (ds10 st) 1000
/-- the config that is thrown, its row in A -/
def dcfg (st : Int) (A : Option Addr) : Cfg := ⟨A, dn st, dn st, w1 (belZ (ds0 st) 2), w1 (belZ (ds1 st) 3), w1 (belZ (ds2 st) 5), w1 (belZ (ds3 st) 5), w1 (belZ (ds4 st) 3), w1 (belZ (ds5 st) 3), w1 (belZ (ds6 st) 2), w1 (belZ (ds7 st) 4), w1 (belZ (ds8 st) 5), belZ (ds9 st) 3, IntKind.u64.wrap (belZ (ds10 st) 1000)⟩
/-- the row of Booleans that is thrown -/
def RowB (W : World) (A : Option Addr) (st : Int) : Prop := ∃ u, A = some ⟨u, 0, none⟩ ∧ u < W.heap.size ∧ ∀ j, j < dn st → W.cell? ⟨u, j, none⟩ = some (.bool (belZ (it (j + 1) st) 3 == 0))

theorem row_on {W W' : World} {g u n k : Nat} {st : Int} (h : Row W u n k st) (ho : On g W W') (hu : u ≠ g) : Row W' u n k st := by
  obtain ⟨cur, h1, h2⟩ := h
  exact ⟨cur, (ho.block u (blk_lt h1) hu).trans h1, h2⟩
theorem row_far {W : World} {b i u n k : Nat} {v : Value} {st : Int} (h : Row W u n k st) (hu : u ≠ b) : Row (W.setCell ⟨b, i, none⟩ v) u n k st := by
  obtain ⟨cur, h1, h2⟩ := h
  exact ⟨cur, blk_far h1 hu, h2⟩
theorem far12 {V : World} {r k : Nat} (v0 v1 v2 v3 v4 v5 v6 v7 v8 v9 v10 v11 : Value) (hk : k ≠ r) : ((((((((((((V.setCell ⟨r, 0, none⟩ v0).setCell ⟨r, 1, none⟩ v1).setCell ⟨r, 2, none⟩ v2).setCell ⟨r, 3, none⟩ v3).setCell ⟨r, 4, none⟩ v4).setCell ⟨r, 5, none⟩ v5).setCell ⟨r, 6, none⟩ v6).setCell ⟨r, 7, none⟩ v7).setCell ⟨r, 8, none⟩ v8).setCell ⟨r, 9, none⟩ v9).setCell ⟨r, 10, none⟩ v10).setCell ⟨r, 11, none⟩ v11).heap[k]? = V.heap[k]? := by
  simp only [Below.heap_setCell _ (⟨r, 0, none⟩ : Addr) _ _ hk, Below.heap_setCell _ (⟨r, 1, none⟩ : Addr) _ _ hk, Below.heap_setCell _ (⟨r, 2, none⟩ : Addr) _ _ hk, Below.heap_setCell _ (⟨r, 3, none⟩ : Addr) _ _ hk, Below.heap_setCell _ (⟨r, 4, none⟩ : Addr) _ _ hk, Below.heap_setCell _ (⟨r, 5, none⟩ : Addr) _ _ hk, Below.heap_setCell _ (⟨r, 6, none⟩ : Addr) _ _ hk, Below.heap_setCell _ (⟨r, 7, none⟩ : Addr) _ _ hk, Below.heap_setCell _ (⟨r, 8, none⟩ : Addr) _ _ hk, Below.heap_setCell _ (⟨r, 9, none⟩ : Addr) _ _ hk, Below.heap_setCell _ (⟨r, 10, none⟩ : Addr) _ _ hk, Below.heap_setCell _ (⟨r, 11, none⟩ : Addr) _ _ hk]
theorem on12 {g r : Nat} {w V : World} (v0 v1 v2 v3 v4 v5 v6 v7 v8 v9 v10 v11 : Value) (h : On g w V) (hr : w.heap.size ≤ r) : On g w ((((((((((((V.setCell ⟨r, 0, none⟩ v0).setCell ⟨r, 1, none⟩ v1).setCell ⟨r, 2, none⟩ v2).setCell ⟨r, 3, none⟩ v3).setCell ⟨r, 4, none⟩ v4).setCell ⟨r, 5, none⟩ v5).setCell ⟨r, 6, none⟩ v6).setCell ⟨r, 7, none⟩ v7).setCell ⟨r, 8, none⟩ v8).setCell ⟨r, 9, none⟩ v9).setCell ⟨r, 10, none⟩ v10).setCell ⟨r, 11, none⟩ v11) :=
  ((((((((((((h.set hr 0 _).set hr 1 _).set hr 2 _).set hr 3 _).set hr 4 _).set hr 5 _).set hr 6 _).set hr 7 _).set hr 8 _).set hr 9 _).set hr 10 _).set hr 11 _)
set_option maxRecDepth 20000 in
set_option maxHeartbeats 4000000 in
theorem config_any {w : World} {g : Nat} {st : Int} (h : D TD w g st) : Calls Try.prog 7 #[.pointer (some ⟨g, 0, none⟩)] w fun e w' => ∃ A, e = .returned (.agg (dcfg st A).cells) ∧ RowB w' A st ∧ D TD w' g (ds11 st) ∧ On g w w' ∧ (∀ u, A = some ⟨u, 0, none⟩ → w.heap.size ≤ u) := by
  obtain ⟨i0, hi, hz0, hz1, hz2⟩ := info_parts infoB
  have hg := blk_lt h
  have hX : X w ((w.alloc (.cells #[.slice none 0 0, .int .i64 0, .int .i64 0, .int .i64 0, .int .i64 0, .int .i64 0, .int .i64 0, .int .i64 0, .int .i64 0, .int .i64 0, .int .i64 0, .int .u64 0] 25)).alloc (.cells #[.slice none 0 0, .int .i64 0, .int .i64 0, .int .i64 0, .int .i64 0, .int .i64 0, .int .i64 0, .int .i64 0, .int .i64 0, .int .i64 0, .int .i64 0, .int .u64 0] 25)) g w.heap.size (w.heap.size + 1) st c0 :=
    ⟨blk_alloc (blk_alloc h), by rw [show c0.cells = #[.slice none 0 0, .int .i64 0, .int .i64 0, .int .i64 0, .int .i64 0, .int .i64 0, .int .i64 0, .int .i64 0, .int .i64 0, .int .i64 0, .int .i64 0, .int .u64 0] from rfl]; have := heap_alloc_new (w.alloc (.cells #[.slice none 0 0, .int .i64 0, .int .i64 0, .int .i64 0, .int .i64 0, .int .i64 0, .int .i64 0, .int .i64 0, .int .i64 0, .int .i64 0, .int .i64 0, .int .u64 0] 25)) (.cells #[.slice none 0 0, .int .i64 0, .int .i64 0, .int .i64 0, .int .i64 0, .int .i64 0, .int .i64 0, .int .i64 0, .int .i64 0, .int .i64 0, .int .i64 0, .int .u64 0] 25); simpa using this, blk_alloc (heap_alloc_new w _), ((On.refl _ _).alloc _).alloc _, by omega, by omega, by omega⟩
  have HX := Lib.hid hX
  clear hX
  go_enter Try.func7, Try.ntmps7
  go_wp2_with fail
  refine (below_on HX.out.d (by decide)).mono ?_
  rintro e w1 ⟨rfl, d1, o1⟩
  have X1 := Lib.hid (HX.out.call d1 o1)
  clear d1 o1
  have hn0 : 0 ≤ belZ st 3 ∧ belZ st 3 < 3 := by unfold belZ; rw [if_neg (by decide)]; exact bel_lo (by decide) (by decide)
  obtain ⟨n, hn, hn1, hn3, hnd⟩ : ∃ n : Nat, IntKind.i64.wrap (1 + belZ st 3) = (n : Int) ∧ 1 ≤ n ∧ n ≤ 3 ∧ dn st = n := ⟨(1 + belZ st 3).toNat, by rw [IntWalk.i64_in _ ⟨by omega, by omega⟩]; omega, by omega, by omega, rfl⟩
  have HND := Lib.hid hnd
  clear hnd
  go_wp2_with (at_make; refine wpList_make_full _ rfl _ _ 23 rfl w1.heap.size 4 i0 (.bool false) 1 Try.underlying23 hi hz0 hz1 .i64 .i64 (n : Int) (n : Int) n rfl rfl rfl rfl (by rw [hz2]; omega) (by unfold maxLen; omega) (Nat.le_refl _) ?_)
  intro w2 hown2 hg2
  have hgz : g < w1.heap.size := blk_lt X1.out.d
  have hbz : w.heap.size + 1 < w1.heap.size := blk_lt X1.out.box
  have x2 := X1.out.grown hg2
  have hgb : w.heap.size ≤ w.heap.size + 1 := by omega
  have row2 : Row w2 w1.heap.size n 0 st := by
    rcases hown2.2 with ⟨hv, _⟩ | ⟨k, cap, cur, hv, _, hh, _, _, hs, _⟩
    · cases hv
    · injection hv with h1 _ h2
      injection h1 with h1
      injection h1 with h1
      subst h1 h2
      exact ⟨cur, hh, by omega, fun j hj => absurd hj (by omega)⟩
  have p0 := x2.cell 0
  have p1 := x2.free 0
  simp [Cfg.cells] at p0
  have HL0 := Lib.hid (And.intro (x2.set0 (some ⟨w1.heap.size, 0, none⟩) n n hgb) (show Row (w2.setCell ⟨w.heap.size + 1, 0, none⟩ (.slice (some ⟨w1.heap.size, 0, none⟩) n n)) w1.heap.size n 0 st from by
    obtain ⟨cur, hc, hs⟩ := row2
    exact ⟨cur, blk_far hc (by omega), hs⟩))
  clear x2 row2 hown2 hg2 hn hn0
  go_wp2
  generalize w1.heap.size = u at *
  have hn0 : (0 : Int) ≤ (n : Int) := by omega
  have hnm : (n : Int) ≤ 3 := by omega
  go_loopw [16] (fun i wr => ∃ k : Nat, i = .int .i64 (k : Int) ∧ k ≤ n ∧ X w wr g w.heap.size (w.heap.size + 1) (it (k + 1) st) { c0 with A := some ⟨u, 0, none⟩, n := n, cap := n } ∧ Row wr u n k st) (fun i _ => n - (intOf i).toNat)
  case atStart => exact ⟨0, rfl, Nat.zero_le _, HL0.out⟩
  case round =>
    obtain ⟨k, rfl, hk, hx, hrow⟩ := hrel
    obtain ⟨s, hsE⟩ : ∃ s, s = it (k + 1) st := ⟨_, rfl⟩
    rw [← hsE] at hx
    have HSE := Lib.hid hsE
    clear hsE
    have HL := Lib.hid hx
    have HRow := Lib.hid hrow
    clear hx hrow
    have hk0 : (0 : Int) ≤ (k : Int) := by omega
    by_cases hlt : k < n
    · have hk1 : (k : Int) < (n : Int) := by omega
      have a0 := HL.out.cell 0
      simp [Cfg.cells] at a0
      obtain ⟨cur, hcur, hcs, hcb⟩ := HRow.out
      have HCB := Lib.hid hcb
      clear hcb
      have hxk : wr.cell? ⟨u, k, none⟩ = some (cur[k]'(by omega)) := by rw [cell_of_row wr u k _ _ (0, 0) hcur, Array.getElem?_eq_getElem]
      generalize cur[k]'(by omega) = xk at hxk
      have hgu : g ≠ u := by omega
      have hun : u ≠ w.heap.size + 1 := by omega
      have HB : Hid (∀ W : World, W.heap = wr.heap → X w W g w.heap.size (w.heap.size + 1) s { c0 with A := some ⟨u, 0, none⟩, n := n, cap := n } → Calls Try.prog 19 #[.pointer (some ⟨g, 0, none⟩), .int .i64 3] W fun e w' => e = .returned (.int .i64 (belZ s 3)) ∧ w'.cell? ⟨w.heap.size + 1, 0, none⟩ = some (.slice (some ⟨u, 0, none⟩) n n) ∧ w'.cell? ⟨u, k, none⟩ = some xk ∧ w'.frozen? ⟨u, k, none⟩ = false ∧ (X w w' g w.heap.size (w.heap.size + 1) (nxZ s 3) { c0 with A := some ⟨u, 0, none⟩, n := n, cap := n } ∧ w'.heap[u]? = some (.cells cur 4 (0, 0)))) := Lib.hid fun W hW hx => by
        refine (below_on hx.d (by decide)).mono fun e w' ⟨he, hd, ho⟩ => ?_
        have hx' := hx.call hd ho
        have hu' : w'.heap[u]? = some (.cells cur 4 (0, 0)) := by rw [ho.block u (by rw [hW]; exact blk_lt hcur) hgu.symm, hW]; exact hcur
        have q0 := hx'.cell 0
        simp [Cfg.cells] at q0
        refine ⟨he, q0, ?_, by simp [World.frozen?, hu'], hx', hu'⟩
        have e1 : w'.cell? ⟨u, k, none⟩ = wr.cell? ⟨u, k, none⟩ := by rw [cell_of_row w' u k _ _ (0, 0) hu', cell_of_row wr u k _ _ (0, 0) hcur]
        rw [e1]; exact hxk
      go_wp2_with fail
      go_region_held3 (fun W => W.cell? ⟨w.heap.size + 1, 0, none⟩ = some (.slice (some ⟨u, 0, none⟩) n n))
        (first | assumption | exact a0 | exact z2 | exact cfar z2 hun.symm | exact cfar (W := w3.drew) z2 hun.symm)
        (first
          | (go_at_call 19; (refine (HB.out _ (by rfl) (by first | exact HL.out | exact HL.out.drew | exact HL.out.drew.drew)).mono ?_); rintro e w3 ⟨rfl, z2, z3, z4, z5⟩))
      obtain ⟨z6, z7⟩ := z5
      go_wp2
      refine ⟨⟨k + 1, by go_num, by omega, ?_, cur.setIfInBounds k (.bool (belZ s 3 == 0)), by simp [World.setCell, Array.getElem?_modify, z7], by simp [hcs], fun j hj => ?_⟩, by simp [intOf]; omega⟩
      · rw [show it (k + 1 + 1) st = nxZ s 3 by rw [HSE.out]; rfl]
        exact z6.far (by omega) (by omega) (by omega) (by omega)
      · by_cases hjk : j = k
        · subst hjk
          rw [Array.getElem?_setIfInBounds, if_pos rfl, if_pos (by omega), HSE.out]
        · rw [Array.getElem?_setIfInBounds, if_neg (by omega)]
          exact HCB.out j (by omega)
    · obtain rfl : k = n := by omega
      have HRow9 := HRow
      have hgu9 : u ≠ g := by omega
      have hun9 : u ≠ w.heap.size + 1 := by omega
      clear HRow hlt
      go_wp2_with fail
      refine (below_on HL.out.d (by decide)).mono ?_
      rintro e v1 ⟨rfl, d1, o1⟩
      obtain ⟨s1, hs1, y1⟩ := (HL.out.call d1 o1).ex
      have E1 := Lib.hid hs1
      clear hs1
      have R1 := Lib.hid (row_on (HRow9.out) o1 hgu9)
      have T1 := Lib.hid (fun x => row_far R1.out (i := 1) (v := x) hun9)
      have q1 := y1.cell 1
      have r1 := y1.free 1
      simp [Cfg.cells] at q1
      have S1 := Lib.hid (fun v => y1.set1 v hgb)
      clear y1 d1 o1
      go_wp2_with fail
      refine (below_on (S1.out _).d (by decide)).mono ?_
      rintro e v2 ⟨rfl, d2, o2⟩
      obtain ⟨s2, hs2, y2⟩ := ((S1.out _).call d2 o2).ex
      have E2 := Lib.hid hs2
      clear hs2
      have R2 := Lib.hid (row_on (T1.out _) o2 hgu9)
      have T2 := Lib.hid (fun x => row_far R2.out (i := 2) (v := x) hun9)
      have q2 := y2.cell 2
      have r2 := y2.free 2
      simp [Cfg.cells] at q2
      have S2 := Lib.hid (fun v => y2.set2 v hgb)
      clear y2 d2 o2 q1 r1
      go_wp2_with fail
      refine (below_on (S2.out _).d (by decide)).mono ?_
      rintro e v3 ⟨rfl, d3, o3⟩
      obtain ⟨s3, hs3, y3⟩ := ((S2.out _).call d3 o3).ex
      have E3 := Lib.hid hs3
      clear hs3
      have R3 := Lib.hid (row_on (T2.out _) o3 hgu9)
      have T3 := Lib.hid (fun x => row_far R3.out (i := 3) (v := x) hun9)
      have q3 := y3.cell 3
      have r3 := y3.free 3
      simp [Cfg.cells] at q3
      have S3 := Lib.hid (fun v => y3.set3 v hgb)
      clear y3 d3 o3 q2 r2
      go_wp2_with fail
      refine (below_on (S3.out _).d (by decide)).mono ?_
      rintro e v4 ⟨rfl, d4, o4⟩
      obtain ⟨s4, hs4, y4⟩ := ((S3.out _).call d4 o4).ex
      have E4 := Lib.hid hs4
      clear hs4
      have R4 := Lib.hid (row_on (T3.out _) o4 hgu9)
      have T4 := Lib.hid (fun x => row_far R4.out (i := 4) (v := x) hun9)
      have q4 := y4.cell 4
      have r4 := y4.free 4
      simp [Cfg.cells] at q4
      have S4 := Lib.hid (fun v => y4.set4 v hgb)
      clear y4 d4 o4 q3 r3
      go_wp2_with fail
      refine (below_on (S4.out _).d (by decide)).mono ?_
      rintro e v5 ⟨rfl, d5, o5⟩
      obtain ⟨s5, hs5, y5⟩ := ((S4.out _).call d5 o5).ex
      have E5 := Lib.hid hs5
      clear hs5
      have R5 := Lib.hid (row_on (T4.out _) o5 hgu9)
      have T5 := Lib.hid (fun x => row_far R5.out (i := 5) (v := x) hun9)
      have q5 := y5.cell 5
      have r5 := y5.free 5
      simp [Cfg.cells] at q5
      have S5 := Lib.hid (fun v => y5.set5 v hgb)
      clear y5 d5 o5 q4 r4
      go_wp2_with fail
      refine (below_on (S5.out _).d (by decide)).mono ?_
      rintro e v6 ⟨rfl, d6, o6⟩
      obtain ⟨s6, hs6, y6⟩ := ((S5.out _).call d6 o6).ex
      have E6 := Lib.hid hs6
      clear hs6
      have R6 := Lib.hid (row_on (T5.out _) o6 hgu9)
      have T6 := Lib.hid (fun x => row_far R6.out (i := 6) (v := x) hun9)
      have q6 := y6.cell 6
      have r6 := y6.free 6
      simp [Cfg.cells] at q6
      have S6 := Lib.hid (fun v => y6.set6 v hgb)
      clear y6 d6 o6 q5 r5
      go_wp2_with fail
      refine (below_on (S6.out _).d (by decide)).mono ?_
      rintro e v7 ⟨rfl, d7, o7⟩
      obtain ⟨s7, hs7, y7⟩ := ((S6.out _).call d7 o7).ex
      have E7 := Lib.hid hs7
      clear hs7
      have R7 := Lib.hid (row_on (T6.out _) o7 hgu9)
      have T7 := Lib.hid (fun x => row_far R7.out (i := 7) (v := x) hun9)
      have q7 := y7.cell 7
      have r7 := y7.free 7
      simp [Cfg.cells] at q7
      have S7 := Lib.hid (fun v => y7.set7 v hgb)
      clear y7 d7 o7 q6 r6
      go_wp2_with fail
      refine (below_on (S7.out _).d (by decide)).mono ?_
      rintro e v8 ⟨rfl, d8, o8⟩
      obtain ⟨s8, hs8, y8⟩ := ((S7.out _).call d8 o8).ex
      have E8 := Lib.hid hs8
      clear hs8
      have R8 := Lib.hid (row_on (T7.out _) o8 hgu9)
      have T8 := Lib.hid (fun x => row_far R8.out (i := 8) (v := x) hun9)
      have q8 := y8.cell 8
      have r8 := y8.free 8
      simp [Cfg.cells] at q8
      have S8 := Lib.hid (fun v => y8.set8 v hgb)
      clear y8 d8 o8 q7 r7
      go_wp2_with fail
      refine (below_on (S8.out _).d (by decide)).mono ?_
      rintro e v9 ⟨rfl, d9, o9⟩
      obtain ⟨s9, hs9, y9⟩ := ((S8.out _).call d9 o9).ex
      have E9 := Lib.hid hs9
      clear hs9
      have R9 := Lib.hid (row_on (T8.out _) o9 hgu9)
      have T9 := Lib.hid (fun x => row_far R9.out (i := 9) (v := x) hun9)
      have q9 := y9.cell 9
      have r9 := y9.free 9
      simp [Cfg.cells] at q9
      have S9 := Lib.hid (fun v => y9.set9 v hgb)
      clear y9 d9 o9 q8 r8
      go_wp2_with fail
      refine (below_on (S9.out _).d (by decide)).mono ?_
      rintro e v10 ⟨rfl, d10, o10⟩
      obtain ⟨s10, hs10, y10⟩ := ((S9.out _).call d10 o10).ex
      have E10 := Lib.hid hs10
      clear hs10
      have R10 := Lib.hid (row_on (T9.out _) o10 hgu9)
      have T10 := Lib.hid (fun x => row_far R10.out (i := 10) (v := x) hun9)
      have q10 := y10.cell 10
      have r10 := y10.free 10
      simp [Cfg.cells] at q10
      have S10 := Lib.hid (fun v => y10.set10 v hgb)
      clear y10 d10 o10 q9 r9
      go_wp2_with fail
      refine (below_on (S10.out _).d (by decide)).mono ?_
      rintro e v11 ⟨rfl, d11, o11⟩
      obtain ⟨s11, hs11, y11⟩ := ((S10.out _).call d11 o11).ex
      have E11 := Lib.hid hs11
      clear hs11
      have R11 := Lib.hid (row_on (T10.out _) o11 hgu9)
      have T11 := Lib.hid (fun x => row_far R11.out (i := 11) (v := x) hun9)
      have q11 := y11.cell 11
      have r11 := y11.free 11
      simp [Cfg.cells] at q11
      have S11 := Lib.hid (fun v => y11.set11 v hgb)
      clear y11 d11 o11 q10 r10
      go_upto_region 21 with fail
      have e0 : ds0 st = s := by rw [HSE.out, ← HND.out]; rfl
      have e1 : ds1 st = s1 := by rw [E1.out, ← e0]; rfl
      have e2 : ds2 st = s2 := by rw [E2.out, ← e1]; rfl
      have e3 : ds3 st = s3 := by rw [E3.out, ← e2]; rfl
      have e4 : ds4 st = s4 := by rw [E4.out, ← e3]; rfl
      have e5 : ds5 st = s5 := by rw [E5.out, ← e4]; rfl
      have e6 : ds6 st = s6 := by rw [E6.out, ← e5]; rfl
      have e7 : ds7 st = s7 := by rw [E7.out, ← e6]; rfl
      have e8 : ds8 st = s8 := by rw [E8.out, ← e7]; rfl
      have e9 : ds9 st = s9 := by rw [E9.out, ← e8]; rfl
      have e10 : ds10 st = s10 := by rw [E10.out, ← e9]; rfl
      have e11 : ds11 st = s11 := by rw [E11.out, ← e10]; rfl
      obtain ⟨c, hcn, hcE, xF⟩ : ∃ c : Cfg, c.n = k ∧ c = dcfg st (some ⟨u, 0, none⟩) ∧ X w (v11.setCell ⟨w.heap.size + 1, 11, none⟩ (.int .u64 (IntKind.u64.wrap (belZ s10 1000)))) g w.heap.size (w.heap.size + 1) s11 c := ⟨_, by rfl, by (unfold dcfg; rw [e0, e1, e2, e3, e4, e5, e6, e7, e8, e9, e10, HND.out]; rfl), S11.out _⟩
      have RF := Lib.hid (T11.out (.int .u64 (IntKind.u64.wrap (belZ s10 1000))))
      have HCE := Lib.hid hcE
      have HE11 := Lib.hid e11
      clear hcE e0 e1 e2 e3 e4 e5 e6 e7 e8 e9 e10 e11 T1 T2 T3 T4 T5 T6 T7 T8 T9 T10 T11 R1 R2 R3 R4 R5 R6 R7 R8 R9 R10 R11 E1 E2 E3 E4 E5 E6 E7 E8 E9 E10 E11
      clear q11 r11 S1 S2 S3 S4 S5 S6 S7 S8 S9 S10 S11 HL HL0
      generalize v11.setCell ⟨w.heap.size + 1, 11, none⟩ (.int .u64 (IntKind.u64.wrap (belZ s10 1000))) = W12 at xF RF ⊢
      have b0 := xF.cell 0
      have c0 := xF.rcell 0
      have f0 := xF.rfree 0
      have b1 := xF.cell 1
      have c1 := xF.rcell 1
      have f1 := xF.rfree 1
      have b2 := xF.cell 2
      have c2 := xF.rcell 2
      have f2 := xF.rfree 2
      have b3 := xF.cell 3
      have c3 := xF.rcell 3
      have f3 := xF.rfree 3
      have b4 := xF.cell 4
      have c4 := xF.rcell 4
      have f4 := xF.rfree 4
      have b5 := xF.cell 5
      have c5 := xF.rcell 5
      have f5 := xF.rfree 5
      have b6 := xF.cell 6
      have c6 := xF.rcell 6
      have f6 := xF.rfree 6
      have b7 := xF.cell 7
      have c7 := xF.rcell 7
      have f7 := xF.rfree 7
      have b8 := xF.cell 8
      have c8 := xF.rcell 8
      have f8 := xF.rfree 8
      have b9 := xF.cell 9
      have c9 := xF.rcell 9
      have f9 := xF.rfree 9
      have b10 := xF.cell 10
      have c10 := xF.rcell 10
      have f10 := xF.rfree 10
      have b11 := xF.cell 11
      have c11 := xF.rcell 11
      have f11 := xF.rfree 11
      simp [Cfg.cells] at b0 c0 b1 c1 b2 c2 b3 c3 b4 c4 b5 c5 b6 c6 b7 c7 b8 c8 b9 c9 b10 c10 b11 c11
      have XF := Lib.hid xF
      have hrb := xF.rb
      clear xF
      go_wp2
      refine bodyPost_ret (v := .agg c.cells) (by simp [results, Try.results7, go_sem, Cfg.cells, hcn, c0, c1, c2, c3, c4, c5, c6, c7, c8, c9, c10, c11]) rfl ⟨some ⟨u, 0, none⟩, by rw [HCE.out], ?_, ?_, on12 _ _ _ _ _ _ _ _ _ _ _ _ XF.out.bel (Nat.le_refl _), fun v hv => by injection hv with hv; injection hv with hv; omega⟩
      · obtain ⟨cur, h1, h2, h3⟩ := RF.out
        refine ⟨u, rfl, ?_, fun j hj => ?_⟩
        · have := blk_lt h1
          simpa using this
        · rw [cell_of_row _ u j _ _ (0, 0) ((far12 _ _ _ _ _ _ _ _ _ _ _ _ (by omega)).trans h1)]
          exact h3 j (by rw [← HND.out]; exact hj)
      · rw [HE11.out]
        exact (far12 _ _ _ _ _ _ _ _ _ _ _ _ (by omega)).trans XF.out.d
end Go.Proofs.Ytfojmjgnndlfnaa.DiceW
