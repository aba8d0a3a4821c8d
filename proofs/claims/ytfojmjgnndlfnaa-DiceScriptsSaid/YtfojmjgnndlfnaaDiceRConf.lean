/- The page's dice: a config thrown, told whole. -/
import Derived.Test.YtfojmjgnndlfnaaDiceConf2
import Derived.Test.YtfojmjgnndlfnaaDiceRScript
import Derived.Test.YtfojmjgnndlfnaaAppendKeep
namespace Go.Proofs.Ytfojmjgnndlfnaa.DiceW
open Go Go.RowKit Conf Dice
set_option linter.unusedVariables false

/-- While a config is thrown: the dice, the config so far, the answer's box. -/
structure XR (w W : World) (g r b : Nat) (st : Int) (c : Cfg) : Prop where
  d : D TR W g st
  box : W.heap[b]? = some (.cells c.cells 25 (0, 0))
  res : W.heap[r]? = some (.cells #[.slice none 0 0, .int .i64 0, .int .i64 0, .int .i64 0, .int .i64 0, .int .i64 0, .int .i64 0, .int .i64 0, .int .i64 0, .int .i64 0, .int .i64 0, .int .u64 0] 25 (0, 0))
  bel : On g w W
  gr : g ≠ r
  gb : g ≠ b
  rb : r ≠ b
section
variable {w W W' : World} {g r b : Nat} {st st' : Int} {c : Cfg}
theorem XR.call (h : XR w W g r b st c) (hd : D TR W' g st') (ho : On g W W') : XR w W' g r b st' c :=
  ⟨hd, (ho.block _ (blk_lt h.box) h.gb.symm).trans h.box, (ho.block _ (blk_lt h.res) h.gr.symm).trans h.res, h.bel.trans ho, h.gr, h.gb, h.rb⟩
theorem XR.set0 (h : XR w W g r b st c) (A : Option Addr) (n cap : Nat) (hg : w.heap.size ≤ b) : XR w (W.setCell ⟨b, 0, none⟩ (.slice A n cap)) g r b st { c with A := A, n := n, cap := cap } :=
  ⟨blk_far h.d h.gb, by simp [World.setCell, Array.getElem?_modify, h.box, Cfg.cells], blk_far h.res h.rb, h.bel.set hg 0 _, h.gr, h.gb, h.rb⟩
theorem XR.set1 (h : XR w W g r b st c) (v : Int) (hg : w.heap.size ≤ b) : XR w (W.setCell ⟨b, 1, none⟩ (.int .i64 v)) g r b st { c with f1 := v } :=
  ⟨blk_far h.d h.gb, by simp [World.setCell, Array.getElem?_modify, h.box, Cfg.cells], blk_far h.res h.rb, h.bel.set hg 1 _, h.gr, h.gb, h.rb⟩
theorem XR.set2 (h : XR w W g r b st c) (v : Int) (hg : w.heap.size ≤ b) : XR w (W.setCell ⟨b, 2, none⟩ (.int .i64 v)) g r b st { c with f2 := v } :=
  ⟨blk_far h.d h.gb, by simp [World.setCell, Array.getElem?_modify, h.box, Cfg.cells], blk_far h.res h.rb, h.bel.set hg 2 _, h.gr, h.gb, h.rb⟩
theorem XR.set3 (h : XR w W g r b st c) (v : Int) (hg : w.heap.size ≤ b) : XR w (W.setCell ⟨b, 3, none⟩ (.int .i64 v)) g r b st { c with f3 := v } :=
  ⟨blk_far h.d h.gb, by simp [World.setCell, Array.getElem?_modify, h.box, Cfg.cells], blk_far h.res h.rb, h.bel.set hg 3 _, h.gr, h.gb, h.rb⟩
theorem XR.set4 (h : XR w W g r b st c) (v : Int) (hg : w.heap.size ≤ b) : XR w (W.setCell ⟨b, 4, none⟩ (.int .i64 v)) g r b st { c with f4 := v } :=
  ⟨blk_far h.d h.gb, by simp [World.setCell, Array.getElem?_modify, h.box, Cfg.cells], blk_far h.res h.rb, h.bel.set hg 4 _, h.gr, h.gb, h.rb⟩
theorem XR.set5 (h : XR w W g r b st c) (v : Int) (hg : w.heap.size ≤ b) : XR w (W.setCell ⟨b, 5, none⟩ (.int .i64 v)) g r b st { c with f5 := v } :=
  ⟨blk_far h.d h.gb, by simp [World.setCell, Array.getElem?_modify, h.box, Cfg.cells], blk_far h.res h.rb, h.bel.set hg 5 _, h.gr, h.gb, h.rb⟩
theorem XR.set6 (h : XR w W g r b st c) (v : Int) (hg : w.heap.size ≤ b) : XR w (W.setCell ⟨b, 6, none⟩ (.int .i64 v)) g r b st { c with f6 := v } :=
  ⟨blk_far h.d h.gb, by simp [World.setCell, Array.getElem?_modify, h.box, Cfg.cells], blk_far h.res h.rb, h.bel.set hg 6 _, h.gr, h.gb, h.rb⟩
theorem XR.set7 (h : XR w W g r b st c) (v : Int) (hg : w.heap.size ≤ b) : XR w (W.setCell ⟨b, 7, none⟩ (.int .i64 v)) g r b st { c with f7 := v } :=
  ⟨blk_far h.d h.gb, by simp [World.setCell, Array.getElem?_modify, h.box, Cfg.cells], blk_far h.res h.rb, h.bel.set hg 7 _, h.gr, h.gb, h.rb⟩
theorem XR.set8 (h : XR w W g r b st c) (v : Int) (hg : w.heap.size ≤ b) : XR w (W.setCell ⟨b, 8, none⟩ (.int .i64 v)) g r b st { c with f8 := v } :=
  ⟨blk_far h.d h.gb, by simp [World.setCell, Array.getElem?_modify, h.box, Cfg.cells], blk_far h.res h.rb, h.bel.set hg 8 _, h.gr, h.gb, h.rb⟩
theorem XR.set9 (h : XR w W g r b st c) (v : Int) (hg : w.heap.size ≤ b) : XR w (W.setCell ⟨b, 9, none⟩ (.int .i64 v)) g r b st { c with f9 := v } :=
  ⟨blk_far h.d h.gb, by simp [World.setCell, Array.getElem?_modify, h.box, Cfg.cells], blk_far h.res h.rb, h.bel.set hg 9 _, h.gr, h.gb, h.rb⟩
theorem XR.set10 (h : XR w W g r b st c) (v : Int) (hg : w.heap.size ≤ b) : XR w (W.setCell ⟨b, 10, none⟩ (.int .i64 v)) g r b st { c with f10 := v } :=
  ⟨blk_far h.d h.gb, by simp [World.setCell, Array.getElem?_modify, h.box, Cfg.cells], blk_far h.res h.rb, h.bel.set hg 10 _, h.gr, h.gb, h.rb⟩
theorem XR.set11 (h : XR w W g r b st c) (v : Int) (hg : w.heap.size ≤ b) : XR w (W.setCell ⟨b, 11, none⟩ (.int .u64 v)) g r b st { c with f11 := v } :=
  ⟨blk_far h.d h.gb, by simp [World.setCell, Array.getElem?_modify, h.box, Cfg.cells], blk_far h.res h.rb, h.bel.set hg 11 _, h.gr, h.gb, h.rb⟩
theorem XR.grown (h : XR w W g r b st c) (hg : W.grownBy W' none) : XR w W' g r b st c :=
  ⟨(hg.block g (blk_lt h.d) (by simp)).trans h.d, (hg.block b (blk_lt h.box) (by simp)).trans h.box, (hg.block r (blk_lt h.res) (by simp)).trans h.res, h.bel.grown hg (by intro k hk; cases hk), h.gr, h.gb, h.rb⟩
theorem XR.far (h : XR w W g r b st c) {u i : Nat} {v : Value} (h1 : g ≠ u) (h2 : b ≠ u) (h3 : r ≠ u) (h4 : w.heap.size ≤ u) : XR w (W.setCell ⟨u, i, none⟩ v) g r b st c :=
  ⟨blk_far h.d h1, blk_far h.box h2, blk_far h.res h3, h.bel.set h4 i _, h.gr, h.gb, h.rb⟩
theorem XR.drew (h : XR w W g r b st c) : XR w W.drew g r b st c := ⟨h.d, h.box, h.res, h.bel.drew, h.gr, h.gb, h.rb⟩
theorem XR.ex (h : XR w W g r b st c) : ∃ s', s' = st ∧ XR w W g r b s' c := ⟨st, rfl, h⟩
theorem XR.cell (h : XR w W g r b st c) (i : Nat) : W.cell? ⟨b, i, none⟩ = c.cells[i]? := cell_of_row W b i _ _ (0, 0) h.box
theorem XR.free (h : XR w W g r b st c) (i : Nat) : W.frozen? ⟨b, i, none⟩ = false := by simp [World.frozen?, h.box]
theorem XR.rcell (h : XR w W g r b st c) (i : Nat) : W.cell? ⟨r, i, none⟩ = (#[.slice none 0 0, .int .i64 0, .int .i64 0, .int .i64 0, .int .i64 0, .int .i64 0, .int .i64 0, .int .i64 0, .int .i64 0, .int .i64 0, .int .i64 0, .int .u64 0] : Array Value)[i]? := cell_of_row W r i _ _ (0, 0) h.res
theorem XR.rfree (h : XR w W g r b st c) (i : Nat) : W.frozen? ⟨r, i, none⟩ = false := by simp [World.frozen?, h.res]
end

theorem own_setb {w : World} {base e n k i : Nat} {v u : Value} {xs : List Value} (h : w.ownsRow base e 1 v n xs) (hk : k < base) : (w.setCell ⟨k, i, none⟩ u).ownsRow base e 1 v n xs := by
  refine ⟨h.1, ?_⟩
  rcases h.2 with h | ⟨g, cap, cur, hv, hb, hh, r⟩
  · exact Or.inl h
  · exact Or.inr ⟨g, cap, cur, hv, hb, (Below.heap_setCell _ _ _ _ (by show g ≠ k; omega)).trans hh, r⟩
theorem XR.grown' {w W W' : World} {g r b : Nat} {st : Int} {c : Cfg} {row : Option Nat} (h : XR w W g r b st c) (hg : W.grownBy W' row) (hr : ∀ i, row = some i → w.heap.size ≤ i ∧ g < i ∧ b < i ∧ r < i) : XR w W' g r b st c :=
  ⟨(hg.block g (blk_lt h.d) (fun e => by have := hr g e.symm; omega)).trans h.d, (hg.block b (blk_lt h.box) (fun e => by have := hr b e.symm; omega)).trans h.box, (hg.block r (blk_lt h.res) (fun e => by have := hr r e.symm; omega)).trans h.res, h.bel.grown hg (fun i hi => (hr i hi).1), h.gr, h.gb, h.rb⟩
theorem XR.alloc {w W : World} {g r b : Nat} {st : Int} {c : Cfg} (h : XR w W g r b st c) (o : Obj) : XR w (W.alloc o) g r b st c :=
  ⟨blk_alloc h.d, blk_alloc h.box, blk_alloc h.res, h.bel.alloc _, h.gr, h.gb, h.rb⟩
def bit (st : Int) (j : Nat) : Value := .bool (belZ (it (j + 1) st) 3 == 0)
def bv (st : Int) (k : Nat) : List Value := (List.range k).map (bit st)
theorem bv_succ (st : Int) (k : Nat) : bv st k ++ [bit st k] = bv st (k + 1) := by
  unfold bv
  rw [List.range_succ, List.map_append]
  rfl
theorem bv_at (st : Int) (k j : Nat) (h : j < k) : (bv st k)[j]? = some (bit st j) := by
  unfold bv
  rw [List.getElem?_map, List.getElem?_range h]
  rfl
/-- while the row is thrown -/
structure RX (w V : World) (g : Nat) (s st : Int) (k : Nat) (A : Option Addr) (cap : Nat) : Prop where
  x : XR w V g w.heap.size (w.heap.size + 1) s { c0 with A := A, n := k, cap := cap }
  own : V.ownsRow (w.heap.size + 2) 4 1 (.slice A k cap) k (bv st k)
  sz : w.heap.size + 2 ≤ V.heap.size
  lt : g < w.heap.size
theorem RX.call {w V V' : World} {g : Nat} {s s' st : Int} {k : Nat} {A : Option Addr} {cap : Nat} (h : RX w V g s st k A cap) (hd : D TR V' g s') (ho : On g V V') : RX w V' g s' st k A cap :=
  ⟨h.x.call hd ho, own_on h.own ho (by have := h.lt; omega), Nat.le_trans h.sz ho.size, h.lt⟩
theorem RX.alloc {w V : World} {g : Nat} {s st : Int} {k : Nat} {A : Option Addr} {cap : Nat} (h : RX w V g s st k A cap) (o : Obj) : RX w (V.alloc o) g s st k A cap :=
  ⟨h.x.alloc o, h.own.alloc o, by have := h.sz; simp; omega, h.lt⟩
theorem RX.drew {w V : World} {g : Nat} {s st : Int} {k : Nat} {A : Option Addr} {cap : Nat} (h : RX w V g s st k A cap) : RX w V.drew g s st k A cap :=
  ⟨h.x.drew, h.own.drew, h.sz, h.lt⟩
theorem RX.push {w V V' : World} {g : Nat} {s st : Int} {k : Nat} {A A2 : Option Addr} {cap cap2 : Nat} {y : Value} (h : RX w V g s st k A cap) (hown : V'.ownsRow (w.heap.size + 2) 4 1 (.slice A2 (k + 1) cap2) (k + 1) (bv st k ++ [y])) (hg : V.grownBy V' (Value.slice A k cap).ownBlock) (hy : y = bit st k) :
    V'.cell? ⟨w.heap.size + 1, 0, none⟩ = some (.slice A k cap) ∧ V'.frozen? ⟨w.heap.size + 1, 0, none⟩ = false ∧ RX w (V'.setCell ⟨w.heap.size + 1, 0, none⟩ (.slice A2 (k + 1) cap2)) g s st (k + 1) A2 cap2 := by
  have hx := h.x.grown' hg (fun i hi => by have := own_ge h.own i hi; have := h.lt; omega)
  have h2 := hx.set0 A2 (k + 1) cap2 (Nat.le_succ _)
  have hc := hx.cell 0
  simp [Cfg.cells] at hc
  refine ⟨hc, hx.free 0, h2, ?_, ?_, h.lt⟩
  · subst hy
    rw [← bv_succ]
    exact own_setb hown (Nat.lt_succ_self _)
  · have := hg.size; have := h.sz; simp; omega
theorem RX.row {w V : World} {g : Nat} {s st : Int} {k : Nat} {A : Option Addr} {cap : Nat} (h : RX w V g s st k A cap) (hk : 1 ≤ k) : ∃ u, A = some ⟨u, 0, none⟩ ∧ w.heap.size + 2 ≤ u ∧ Row V u cap k st := by
  rcases h.own.2 with ⟨h1, _⟩ | ⟨u, c, cur, hv, hb, hh, hc, _, hs, ht⟩
  · omega
  · injection hv with h1 h2 h3
    subst h1 h3
    refine ⟨u, rfl, hb, cur, hh, by omega, fun j hj => ?_⟩
    have h4 := bv_at st k j hj
    rw [← ht, List.getElem?_take] at h4
    rw [if_pos (by omega)] at h4
    rw [← Array.getElem?_toList]
    exact h4
theorem ones_b (b : Bool) : ∀ u ∈ [Value.bool b], u.oneCell' = true := by simp [Value.oneCell']
theorem news_b (V : World) (b : Bool) : ∀ j u, [Value.bool b][j]? = some u → (V.alloc (.cells #[.bool b] 4)).cell? ((⟨V.heap.size, 0, none⟩ : Addr).add j) = some u := by
  intro j u h
  have := cell_of_row (V.alloc (.cells #[.bool b] 4)) V.heap.size j #[.bool b] 4 (0, 0) (heap_alloc_new V _)
  match j with
  | 0 => exact this.trans (show some (Value.bool b) = some u from h)
  | j + 1 => simp at h
set_option maxRecDepth 20000 in
set_option maxHeartbeats 4000000 in
theorem rconfig_any {w : World} {g : Nat} {st : Int} (h : D TR w g st) : Calls Try.prog 9 #[.pointer (some ⟨g, 0, none⟩)] w fun e w' => ∃ u cap, e = .returned (.agg (Cfg.cells { dcfg st (some ⟨u, 0, none⟩) with cap := cap })) ∧ RowB w' (some ⟨u, 0, none⟩) st ∧ D TR w' g (ds11 st) ∧ On g w w' ∧ w.heap.size ≤ u := by
  obtain ⟨i0, hi, hz0, hz1, hz2⟩ := info_parts infoB
  have hg := blk_lt h
  have hX0 : XR w ((w.alloc (.cells #[.slice none 0 0, .int .i64 0, .int .i64 0, .int .i64 0, .int .i64 0, .int .i64 0, .int .i64 0, .int .i64 0, .int .i64 0, .int .i64 0, .int .i64 0, .int .u64 0] 25)).alloc (.cells #[.slice none 0 0, .int .i64 0, .int .i64 0, .int .i64 0, .int .i64 0, .int .i64 0, .int .i64 0, .int .i64 0, .int .i64 0, .int .i64 0, .int .i64 0, .int .u64 0] 25)) g w.heap.size (w.heap.size + 1) st c0 :=
    ⟨blk_alloc (blk_alloc h), by rw [show c0.cells = #[.slice none 0 0, .int .i64 0, .int .i64 0, .int .i64 0, .int .i64 0, .int .i64 0, .int .i64 0, .int .i64 0, .int .i64 0, .int .i64 0, .int .i64 0, .int .u64 0] from rfl]; have := heap_alloc_new (w.alloc (.cells #[.slice none 0 0, .int .i64 0, .int .i64 0, .int .i64 0, .int .i64 0, .int .i64 0, .int .i64 0, .int .i64 0, .int .i64 0, .int .i64 0, .int .i64 0, .int .u64 0] 25)) (.cells #[.slice none 0 0, .int .i64 0, .int .i64 0, .int .i64 0, .int .i64 0, .int .i64 0, .int .i64 0, .int .i64 0, .int .i64 0, .int .i64 0, .int .i64 0, .int .u64 0] 25); simpa using this, blk_alloc (heap_alloc_new w _), ((On.refl _ _).alloc _).alloc _, by omega, by omega, by omega⟩
  obtain ⟨w0, hw0⟩ : ∃ X, X = (w.alloc (.cells #[.slice none 0 0, .int .i64 0, .int .i64 0, .int .i64 0, .int .i64 0, .int .i64 0, .int .i64 0, .int .i64 0, .int .i64 0, .int .i64 0, .int .i64 0, .int .u64 0] 25)).alloc (.cells #[.slice none 0 0, .int .i64 0, .int .i64 0, .int .i64 0, .int .i64 0, .int .i64 0, .int .i64 0, .int .i64 0, .int .i64 0, .int .i64 0, .int .i64 0, .int .u64 0] 25) := ⟨_, rfl⟩
  have hX : RX w w0 g st st 0 none 0 := by
    rw [hw0]
    exact ⟨hX0, ⟨rfl, Or.inl ⟨rfl, rfl⟩⟩, by simp, hg⟩
  clear hX0
  have HX := Lib.hid hX
  clear hX
  go_enter Try.func9, Try.ntmps9
  go_upto_region 2 with fail
  rw [← hw0]
  clear hw0
  go_wp2_with fail
  refine (rbelow_on HX.out.x.d (by decide)).mono ?_
  rintro e w1 ⟨rfl, d1, o1⟩
  have X1 := Lib.hid (HX.out.call d1 o1)
  clear d1 o1
  have hn0 : 0 ≤ belZ st 3 ∧ belZ st 3 < 3 := by unfold belZ; rw [if_neg (by decide)]; exact bel_lo (by decide) (by decide)
  obtain ⟨n, hn, hn1, hn3, hnd⟩ : ∃ n : Nat, IntKind.i64.wrap (1 + belZ st 3) = (n : Int) ∧ 1 ≤ n ∧ n ≤ 3 ∧ dn st = n := ⟨(1 + belZ st 3).toNat, by rw [IntWalk.i64_in _ ⟨by omega, by omega⟩]; omega, by omega, by omega, rfl⟩
  have HND := Lib.hid hnd
  clear hnd
  have hgb : w.heap.size ≤ w.heap.size + 1 := by omega
  go_wp2
  clear hn hn0
  have hn0 : (0 : Int) ≤ (n : Int) := by omega
  have hnm : (n : Int) ≤ 3 := by omega
  go_loopw [5] (fun i wr => ∃ k : Nat, i = .int .i64 (k : Int) ∧ k ≤ n ∧ ∃ A cap, RX w wr g (it (k + 1) st) st k A cap) (fun i _ => n - (intOf i).toNat)
  case atStart => exact ⟨0, rfl, Nat.zero_le _, _, _, X1.out⟩
  case round =>
    obtain ⟨k, rfl, hk, A, cap, hx⟩ := hrel
    obtain ⟨s, hsE⟩ : ∃ s, s = it (k + 1) st := ⟨_, rfl⟩
    rw [← hsE] at hx
    have HSE := Lib.hid hsE
    clear hsE
    have HL := Lib.hid hx
    clear hx
    have hk0 : (0 : Int) ≤ (k : Int) := by omega
    by_cases hlt : k < n
    · have hk1 : (k : Int) < (n : Int) := by omega
      go_upto_region 6 with fail
      refine wp_region_held_drew (S := fun _ => True) (by kernel_rfl) trivial (fun hHeld => ?_)
      have HV0 := Lib.hid HL.out.drew
      obtain ⟨V0, hV0⟩ : ∃ X, X = wr.drew := ⟨_, rfl⟩
      rw [← hV0] at HV0 ⊢
      clear hV0 HL
      refine wpAnyH_take (i := 0) (oi := _) (v := ?_) rfl (by kernel_rfl) (by kernel_rfl) (by kernel_rfl) (fun _ _ _ h => h) (Or.inl ⟨by rfl, ?_⟩) (by assumption) ?_
      rotate_left
      · (intro W hSw; (try dsimp only at hSw); go_simp; try with_reducible rfl)
      try simp only [Act.put, List.getElem_toArray, List.getElem_cons_zero, List.setIfInBounds_toArray, List.set_cons_zero, List.set_cons_succ]
      refine wpAnyH_take (i := 2) (oi := _) (v := ?_) rfl (by kernel_rfl) (by kernel_rfl) (by kernel_rfl) (fun _ _ _ h => h) (Or.inl ⟨by rfl, ?_⟩) (by assumption) ?_
      rotate_left
      · (intro W hSw; (try dsimp only at hSw); go_simp; try with_reducible rfl)
      try simp only [Act.put, List.getElem_toArray, List.getElem_cons_succ, List.getElem_cons_zero, List.setIfInBounds_toArray, List.set_cons_zero, List.set_cons_succ]
      refine wpAnyH_ready (rs := [1, 3]) (by kernel_rfl) (by simp) ?_
      refine AllReadyH.cons rfl (fun K hK => ?_) (AllReadyH.cons rfl (fun K hK => ?_) AllReadyH.nil)
      · simp only [List.getElem_toArray, List.getElem_cons_succ, List.getElem_cons_zero]
        rw [if_pos (by rfl)]
        have q := HV0.out.x.cell 0
        simp [Cfg.cells] at q
        go_simp
        clear q
        refine hK.out _ _ trivial (fun hHeld => ?_)
        clear hK K
        try simp only [Act.put, List.getElem_toArray, List.getElem_cons_succ, List.getElem_cons_zero, List.setIfInBounds_toArray, List.set_cons_zero, List.set_cons_succ]
        refine wpAnyH_ready (rs := [3]) (by kernel_rfl) (by simp) ?_
        refine AllReadyH.cons rfl (fun K hK => ?_) AllReadyH.nil
        · simp only [List.getElem_toArray, List.getElem_cons_succ, List.getElem_cons_zero]
          rw [if_pos (by rfl)]
          go_simp
          refine (rbelow_on HV0.out.x.d (by decide)).mono ?_
          rintro _ V1 ⟨rfl, d, o⟩
          have HV2 := Lib.hid (HV0.out.call d o)
          clear d o
          go_wp2_with fail
          refine hK.out _ _ trivial (fun hHeld => ?_)
          clear hK K
          try simp only [Act.put, List.getElem_toArray, List.getElem_cons_succ, List.getElem_cons_zero, List.setIfInBounds_toArray, List.set_cons_zero, List.set_cons_succ]
          refine wpAnyH_take (i := 4) (oi := _) (v := ?_) rfl (by kernel_rfl) (by kernel_rfl) (by kernel_rfl) (fun _ _ _ h => h) (Or.inl ⟨by rfl, ?_⟩) (by assumption) ?_
          rotate_left
          · (intro W hSw; (try dsimp only at hSw); go_simp; try with_reducible rfl)
          try simp only [Act.put, List.getElem_toArray, List.getElem_cons_succ, List.getElem_cons_zero, List.setIfInBounds_toArray, List.set_cons_zero, List.set_cons_succ]
          refine wpAnyH_ready (rs := [5]) (by kernel_rfl) (by simp) ?_
          refine AllReadyH.cons rfl (fun K hK => ?_) AllReadyH.nil
          · simp only [List.getElem_toArray, List.getElem_cons_succ, List.getElem_cons_zero]
            rw [if_pos (by rfl)]
            go_simp
            refine hK.out _ _ trivial (fun hHeld => ?_)
            clear hK K
            try simp only [Act.put, List.getElem_toArray, List.getElem_cons_succ, List.getElem_cons_zero, List.setIfInBounds_toArray, List.set_cons_zero, List.set_cons_succ]
            obtain ⟨B5, hB5⟩ : ∃ X, X = V1.heap.size := ⟨_, rfl⟩
            obtain ⟨V3, hV3⟩ : ∃ X, X = V1.alloc (.cells #[.bool (belZ s 3 == 0)] 4) := ⟨_, rfl⟩
            have hNB5 : Hid (∀ j u, [Value.bool (belZ s 3 == 0)][j]? = some u → V3.cell? ((⟨B5, 0, none⟩ : Addr).add j) = some u) := Lib.hid (by rw [hV3, hB5]; exact news_b V1 _)
            have HV4 := Lib.hid (HV2.out.alloc (.cells #[.bool (belZ s 3 == 0)] 4))
            rw [← hV3] at HV4
            rw [← hV3, ← hB5]
            clear hV3 hB5
            have V3o := Lib.hid HV4.out.own
            refine wpAnyH_ready (rs := [6]) (by kernel_rfl) (by simp) ?_
            refine AllReadyH.cons rfl (fun K hK => ?_) AllReadyH.nil
            simp only [List.getElem_toArray, List.getElem_cons_succ, List.getElem_cons_zero]
            rw [if_pos (by rfl)]
            (refine wp_append_keep _ _ _ _ (by rfl) (w.heap.size + 2) 4 i0 _ 1 1 Try.underlying23 hi hz0 hz1 hz2 rfl (by decide) _ _ _ (by rfl) V3o.out ⟨B5, 0, none⟩ 1 1 [.bool (belZ s 3 == 0)] (by rfl) rfl hNB5.out (ones_b _) (by decide) (by unfold maxLen; omega) (by omega) (by have := HV4.out.sz; omega) V3.heap.size rfl ?_; intro g2 cap2 w3 hown2 hg2 hat2 hold2; obtain ⟨hcl, hfz, hRX⟩ := HV4.out.push hown2 hg2 (by rw [HSE.out]; rfl); have HRX := Lib.hid hRX; clear hown2 hg2 hat2 hold2 V3o hNB5 hRX)
            refine hK.out _ _ trivial (fun hHeld => ?_)
            clear hK K
            try simp only [Act.put, List.setIfInBounds_toArray, List.set_cons_zero, List.set_cons_succ]
            refine wpAnyH_take (i := 7) (oi := _) (v := ?_) rfl (by kernel_rfl) (by kernel_rfl) (by kernel_rfl) (fun _ _ _ h => h) (Or.inl ⟨by rfl, ?_⟩) (by assumption) ?_
            rotate_left
            · (intro W hSw; (try dsimp only at hSw); go_simp; try with_reducible rfl)
            try simp only [Act.put, List.getElem_toArray, List.getElem_cons_succ, List.getElem_cons_zero, List.setIfInBounds_toArray, List.set_cons_zero, List.set_cons_succ]
            refine wpAnyH_ready (rs := [8]) (by kernel_rfl) (by simp) ?_
            refine AllReadyH.cons rfl (fun K hK => ?_) AllReadyH.nil
            simp only [List.getElem_toArray, List.getElem_cons_succ, List.getElem_cons_zero]
            rw [if_pos (by rfl)]
            go_simp
            refine hK.out _ _ trivial (fun hHeld => ?_)
            clear hK K
            try simp only [Act.put, List.getElem_toArray, List.getElem_cons_succ, List.getElem_cons_zero, List.setIfInBounds_toArray, List.set_cons_zero, List.set_cons_succ]
            refine wpAnyH_done (by kernel_rfl) ?_ _
            go_wp2
            exact ⟨⟨k + 1, by go_num, by omega, _, _, by rw [show it (k + 1 + 1) st = nxZ s 3 by rw [HSE.out]; rfl]; exact HRX.out⟩, by simp [intOf]; omega⟩
      · simp only [List.getElem_toArray, List.getElem_cons_succ, List.getElem_cons_zero]
        rw [if_pos (by rfl)]
        go_simp
        refine (rbelow_on HV0.out.x.d (by decide)).mono ?_
        rintro _ V6 ⟨rfl, d, o⟩
        have HV7 := Lib.hid (HV0.out.call d o)
        clear d o
        go_wp2_with fail
        refine hK.out _ _ trivial (fun hHeld => ?_)
        clear hK K
        try simp only [Act.put, List.getElem_toArray, List.getElem_cons_succ, List.getElem_cons_zero, List.setIfInBounds_toArray, List.set_cons_zero, List.set_cons_succ]
        refine wpAnyH_take (i := 4) (oi := _) (v := ?_) rfl (by kernel_rfl) (by kernel_rfl) (by kernel_rfl) (fun _ _ _ h => h) (Or.inl ⟨by rfl, ?_⟩) (by assumption) ?_
        rotate_left
        · (intro W hSw; (try dsimp only at hSw); go_simp; try with_reducible rfl)
        try simp only [Act.put, List.getElem_toArray, List.getElem_cons_succ, List.getElem_cons_zero, List.setIfInBounds_toArray, List.set_cons_zero, List.set_cons_succ]
        refine wpAnyH_ready (rs := [1, 5]) (by kernel_rfl) (by simp) ?_
        refine AllReadyH.cons rfl (fun K hK => ?_) (AllReadyH.cons rfl (fun K hK => ?_) AllReadyH.nil)
        · simp only [List.getElem_toArray, List.getElem_cons_succ, List.getElem_cons_zero]
          rw [if_pos (by rfl)]
          have q := HV7.out.x.cell 0
          simp [Cfg.cells] at q
          go_simp
          clear q
          refine hK.out _ _ trivial (fun hHeld => ?_)
          clear hK K
          try simp only [Act.put, List.getElem_toArray, List.getElem_cons_succ, List.getElem_cons_zero, List.setIfInBounds_toArray, List.set_cons_zero, List.set_cons_succ]
          refine wpAnyH_ready (rs := [5]) (by kernel_rfl) (by simp) ?_
          refine AllReadyH.cons rfl (fun K hK => ?_) AllReadyH.nil
          · simp only [List.getElem_toArray, List.getElem_cons_succ, List.getElem_cons_zero]
            rw [if_pos (by rfl)]
            go_simp
            refine hK.out _ _ trivial (fun hHeld => ?_)
            clear hK K
            try simp only [Act.put, List.getElem_toArray, List.getElem_cons_succ, List.getElem_cons_zero, List.setIfInBounds_toArray, List.set_cons_zero, List.set_cons_succ]
            obtain ⟨B10, hB10⟩ : ∃ X, X = V6.heap.size := ⟨_, rfl⟩
            obtain ⟨V8, hV8⟩ : ∃ X, X = V6.alloc (.cells #[.bool (belZ s 3 == 0)] 4) := ⟨_, rfl⟩
            have hNB10 : Hid (∀ j u, [Value.bool (belZ s 3 == 0)][j]? = some u → V8.cell? ((⟨B10, 0, none⟩ : Addr).add j) = some u) := Lib.hid (by rw [hV8, hB10]; exact news_b V6 _)
            have HV9 := Lib.hid (HV7.out.alloc (.cells #[.bool (belZ s 3 == 0)] 4))
            rw [← hV8] at HV9
            rw [← hV8, ← hB10]
            clear hV8 hB10
            have V8o := Lib.hid HV9.out.own
            refine wpAnyH_ready (rs := [6]) (by kernel_rfl) (by simp) ?_
            refine AllReadyH.cons rfl (fun K hK => ?_) AllReadyH.nil
            simp only [List.getElem_toArray, List.getElem_cons_succ, List.getElem_cons_zero]
            rw [if_pos (by rfl)]
            (refine wp_append_keep _ _ _ _ (by rfl) (w.heap.size + 2) 4 i0 _ 1 1 Try.underlying23 hi hz0 hz1 hz2 rfl (by decide) _ _ _ (by rfl) V8o.out ⟨B10, 0, none⟩ 1 1 [.bool (belZ s 3 == 0)] (by rfl) rfl hNB10.out (ones_b _) (by decide) (by unfold maxLen; omega) (by omega) (by have := HV9.out.sz; omega) V8.heap.size rfl ?_; intro g2 cap2 w3 hown2 hg2 hat2 hold2; obtain ⟨hcl, hfz, hRX⟩ := HV9.out.push hown2 hg2 (by rw [HSE.out]; rfl); have HRX := Lib.hid hRX; clear hown2 hg2 hat2 hold2 V8o hNB10 hRX)
            refine hK.out _ _ trivial (fun hHeld => ?_)
            clear hK K
            try simp only [Act.put, List.setIfInBounds_toArray, List.set_cons_zero, List.set_cons_succ]
            refine wpAnyH_take (i := 7) (oi := _) (v := ?_) rfl (by kernel_rfl) (by kernel_rfl) (by kernel_rfl) (fun _ _ _ h => h) (Or.inl ⟨by rfl, ?_⟩) (by assumption) ?_
            rotate_left
            · (intro W hSw; (try dsimp only at hSw); go_simp; try with_reducible rfl)
            try simp only [Act.put, List.getElem_toArray, List.getElem_cons_succ, List.getElem_cons_zero, List.setIfInBounds_toArray, List.set_cons_zero, List.set_cons_succ]
            refine wpAnyH_ready (rs := [8]) (by kernel_rfl) (by simp) ?_
            refine AllReadyH.cons rfl (fun K hK => ?_) AllReadyH.nil
            simp only [List.getElem_toArray, List.getElem_cons_succ, List.getElem_cons_zero]
            rw [if_pos (by rfl)]
            go_simp
            refine hK.out _ _ trivial (fun hHeld => ?_)
            clear hK K
            try simp only [Act.put, List.getElem_toArray, List.getElem_cons_succ, List.getElem_cons_zero, List.setIfInBounds_toArray, List.set_cons_zero, List.set_cons_succ]
            refine wpAnyH_done (by kernel_rfl) ?_ _
            go_wp2
            exact ⟨⟨k + 1, by go_num, by omega, _, _, by rw [show it (k + 1 + 1) st = nxZ s 3 by rw [HSE.out]; rfl]; exact HRX.out⟩, by simp [intOf]; omega⟩
        · simp only [List.getElem_toArray, List.getElem_cons_succ, List.getElem_cons_zero]
          rw [if_pos (by rfl)]
          go_simp
          refine hK.out _ _ trivial (fun hHeld => ?_)
          clear hK K
          try simp only [Act.put, List.getElem_toArray, List.getElem_cons_succ, List.getElem_cons_zero, List.setIfInBounds_toArray, List.set_cons_zero, List.set_cons_succ]
          obtain ⟨B13, hB13⟩ : ∃ X, X = V6.heap.size := ⟨_, rfl⟩
          obtain ⟨V11, hV11⟩ : ∃ X, X = V6.alloc (.cells #[.bool (belZ s 3 == 0)] 4) := ⟨_, rfl⟩
          have hNB13 : Hid (∀ j u, [Value.bool (belZ s 3 == 0)][j]? = some u → V11.cell? ((⟨B13, 0, none⟩ : Addr).add j) = some u) := Lib.hid (by rw [hV11, hB13]; exact news_b V6 _)
          have HV12 := Lib.hid (HV7.out.alloc (.cells #[.bool (belZ s 3 == 0)] 4))
          rw [← hV11] at HV12
          rw [← hV11, ← hB13]
          clear hV11 hB13
          refine wpAnyH_ready (rs := [1]) (by kernel_rfl) (by simp) ?_
          refine AllReadyH.cons rfl (fun K hK => ?_) AllReadyH.nil
          · simp only [List.getElem_toArray, List.getElem_cons_succ, List.getElem_cons_zero]
            rw [if_pos (by rfl)]
            have q := HV12.out.x.cell 0
            simp [Cfg.cells] at q
            go_simp
            clear q
            refine hK.out _ _ trivial (fun hHeld => ?_)
            clear hK K
            try simp only [Act.put, List.getElem_toArray, List.getElem_cons_succ, List.getElem_cons_zero, List.setIfInBounds_toArray, List.set_cons_zero, List.set_cons_succ]
            have V11o := Lib.hid HV12.out.own
            refine wpAnyH_ready (rs := [6]) (by kernel_rfl) (by simp) ?_
            refine AllReadyH.cons rfl (fun K hK => ?_) AllReadyH.nil
            simp only [List.getElem_toArray, List.getElem_cons_succ, List.getElem_cons_zero]
            rw [if_pos (by rfl)]
            (refine wp_append_keep _ _ _ _ (by rfl) (w.heap.size + 2) 4 i0 _ 1 1 Try.underlying23 hi hz0 hz1 hz2 rfl (by decide) _ _ _ (by rfl) V11o.out ⟨B13, 0, none⟩ 1 1 [.bool (belZ s 3 == 0)] (by rfl) rfl hNB13.out (ones_b _) (by decide) (by unfold maxLen; omega) (by omega) (by have := HV12.out.sz; omega) V11.heap.size rfl ?_; intro g2 cap2 w3 hown2 hg2 hat2 hold2; obtain ⟨hcl, hfz, hRX⟩ := HV12.out.push hown2 hg2 (by rw [HSE.out]; rfl); have HRX := Lib.hid hRX; clear hown2 hg2 hat2 hold2 V11o hNB13 hRX)
            refine hK.out _ _ trivial (fun hHeld => ?_)
            clear hK K
            try simp only [Act.put, List.setIfInBounds_toArray, List.set_cons_zero, List.set_cons_succ]
            refine wpAnyH_take (i := 7) (oi := _) (v := ?_) rfl (by kernel_rfl) (by kernel_rfl) (by kernel_rfl) (fun _ _ _ h => h) (Or.inl ⟨by rfl, ?_⟩) (by assumption) ?_
            rotate_left
            · (intro W hSw; (try dsimp only at hSw); go_simp; try with_reducible rfl)
            try simp only [Act.put, List.getElem_toArray, List.getElem_cons_succ, List.getElem_cons_zero, List.setIfInBounds_toArray, List.set_cons_zero, List.set_cons_succ]
            refine wpAnyH_ready (rs := [8]) (by kernel_rfl) (by simp) ?_
            refine AllReadyH.cons rfl (fun K hK => ?_) AllReadyH.nil
            simp only [List.getElem_toArray, List.getElem_cons_succ, List.getElem_cons_zero]
            rw [if_pos (by rfl)]
            go_simp
            refine hK.out _ _ trivial (fun hHeld => ?_)
            clear hK K
            try simp only [Act.put, List.getElem_toArray, List.getElem_cons_succ, List.getElem_cons_zero, List.setIfInBounds_toArray, List.set_cons_zero, List.set_cons_succ]
            refine wpAnyH_done (by kernel_rfl) ?_ _
            go_wp2
            exact ⟨⟨k + 1, by go_num, by omega, _, _, by rw [show it (k + 1 + 1) st = nxZ s 3 by rw [HSE.out]; rfl]; exact HRX.out⟩, by simp [intOf]; omega⟩
    · obtain rfl : k = n := by omega
      obtain ⟨u, rfl, hub, hrow⟩ := HL.out.row hn1
      have HRow9 := Lib.hid hrow
      have hgL := HL.out.lt
      have hgu9 : u ≠ g := by omega
      have hun9 : u ≠ w.heap.size + 1 := by omega
      clear hrow hlt
      go_wp2_with fail
      refine (rbelow_on HL.out.x.d (by decide)).mono ?_
      rintro e v1 ⟨rfl, d1, o1⟩
      obtain ⟨s1, hs1, y1⟩ := (HL.out.x.call d1 o1).ex
      have E1 := Lib.hid hs1
      clear hs1
      have R1 := Lib.hid (row_on (HRow9.out) o1 hgu9)
      have T1 := Lib.hid (fun x => row_far R1.out (i := 1) (v := x) hun9)
      have q1 := y1.cell 1
      have r1 := y1.free 1
      simp [Cfg.cells] at q1
      have S1 := Lib.hid (fun v => y1.set1 v hgb)
      clear y1 d1 o1
      go_wp2_with fail
      refine (rbelow_on (S1.out _).d (by decide)).mono ?_
      rintro e v2 ⟨rfl, d2, o2⟩
      obtain ⟨s2, hs2, y2⟩ := ((S1.out _).call d2 o2).ex
      have E2 := Lib.hid hs2
      clear hs2
      have R2 := Lib.hid (row_on (T1.out _) o2 hgu9)
      have T2 := Lib.hid (fun x => row_far R2.out (i := 2) (v := x) hun9)
      have q2 := y2.cell 2
      have r2 := y2.free 2
      simp [Cfg.cells] at q2
      have S2 := Lib.hid (fun v => y2.set2 v hgb)
      clear y2 d2 o2 q1 r1
      go_wp2_with fail
      refine (rbelow_on (S2.out _).d (by decide)).mono ?_
      rintro e v3 ⟨rfl, d3, o3⟩
      obtain ⟨s3, hs3, y3⟩ := ((S2.out _).call d3 o3).ex
      have E3 := Lib.hid hs3
      clear hs3
      have R3 := Lib.hid (row_on (T2.out _) o3 hgu9)
      have T3 := Lib.hid (fun x => row_far R3.out (i := 3) (v := x) hun9)
      have q3 := y3.cell 3
      have r3 := y3.free 3
      simp [Cfg.cells] at q3
      have S3 := Lib.hid (fun v => y3.set3 v hgb)
      clear y3 d3 o3 q2 r2
      go_wp2_with fail
      refine (rbelow_on (S3.out _).d (by decide)).mono ?_
      rintro e v4 ⟨rfl, d4, o4⟩
      obtain ⟨s4, hs4, y4⟩ := ((S3.out _).call d4 o4).ex
      have E4 := Lib.hid hs4
      clear hs4
      have R4 := Lib.hid (row_on (T3.out _) o4 hgu9)
      have T4 := Lib.hid (fun x => row_far R4.out (i := 4) (v := x) hun9)
      have q4 := y4.cell 4
      have r4 := y4.free 4
      simp [Cfg.cells] at q4
      have S4 := Lib.hid (fun v => y4.set4 v hgb)
      clear y4 d4 o4 q3 r3
      go_wp2_with fail
      refine (rbelow_on (S4.out _).d (by decide)).mono ?_
      rintro e v5 ⟨rfl, d5, o5⟩
      obtain ⟨s5, hs5, y5⟩ := ((S4.out _).call d5 o5).ex
      have E5 := Lib.hid hs5
      clear hs5
      have R5 := Lib.hid (row_on (T4.out _) o5 hgu9)
      have T5 := Lib.hid (fun x => row_far R5.out (i := 5) (v := x) hun9)
      have q5 := y5.cell 5
      have r5 := y5.free 5
      simp [Cfg.cells] at q5
      have S5 := Lib.hid (fun v => y5.set5 v hgb)
      clear y5 d5 o5 q4 r4
      go_wp2_with fail
      refine (rbelow_on (S5.out _).d (by decide)).mono ?_
      rintro e v6 ⟨rfl, d6, o6⟩
      obtain ⟨s6, hs6, y6⟩ := ((S5.out _).call d6 o6).ex
      have E6 := Lib.hid hs6
      clear hs6
      have R6 := Lib.hid (row_on (T5.out _) o6 hgu9)
      have T6 := Lib.hid (fun x => row_far R6.out (i := 6) (v := x) hun9)
      have q6 := y6.cell 6
      have r6 := y6.free 6
      simp [Cfg.cells] at q6
      have S6 := Lib.hid (fun v => y6.set6 v hgb)
      clear y6 d6 o6 q5 r5
      go_wp2_with fail
      refine (rbelow_on (S6.out _).d (by decide)).mono ?_
      rintro e v7 ⟨rfl, d7, o7⟩
      obtain ⟨s7, hs7, y7⟩ := ((S6.out _).call d7 o7).ex
      have E7 := Lib.hid hs7
      clear hs7
      have R7 := Lib.hid (row_on (T6.out _) o7 hgu9)
      have T7 := Lib.hid (fun x => row_far R7.out (i := 7) (v := x) hun9)
      have q7 := y7.cell 7
      have r7 := y7.free 7
      simp [Cfg.cells] at q7
      have S7 := Lib.hid (fun v => y7.set7 v hgb)
      clear y7 d7 o7 q6 r6
      go_wp2_with fail
      refine (rbelow_on (S7.out _).d (by decide)).mono ?_
      rintro e v8 ⟨rfl, d8, o8⟩
      obtain ⟨s8, hs8, y8⟩ := ((S7.out _).call d8 o8).ex
      have E8 := Lib.hid hs8
      clear hs8
      have R8 := Lib.hid (row_on (T7.out _) o8 hgu9)
      have T8 := Lib.hid (fun x => row_far R8.out (i := 8) (v := x) hun9)
      have q8 := y8.cell 8
      have r8 := y8.free 8
      simp [Cfg.cells] at q8
      have S8 := Lib.hid (fun v => y8.set8 v hgb)
      clear y8 d8 o8 q7 r7
      go_wp2_with fail
      refine (rbelow_on (S8.out _).d (by decide)).mono ?_
      rintro e v9 ⟨rfl, d9, o9⟩
      obtain ⟨s9, hs9, y9⟩ := ((S8.out _).call d9 o9).ex
      have E9 := Lib.hid hs9
      clear hs9
      have R9 := Lib.hid (row_on (T8.out _) o9 hgu9)
      have T9 := Lib.hid (fun x => row_far R9.out (i := 9) (v := x) hun9)
      have q9 := y9.cell 9
      have r9 := y9.free 9
      simp [Cfg.cells] at q9
      have S9 := Lib.hid (fun v => y9.set9 v hgb)
      clear y9 d9 o9 q8 r8
      go_wp2_with fail
      refine (rbelow_on (S9.out _).d (by decide)).mono ?_
      rintro e v10 ⟨rfl, d10, o10⟩
      obtain ⟨s10, hs10, y10⟩ := ((S9.out _).call d10 o10).ex
      have E10 := Lib.hid hs10
      clear hs10
      have R10 := Lib.hid (row_on (T9.out _) o10 hgu9)
      have T10 := Lib.hid (fun x => row_far R10.out (i := 10) (v := x) hun9)
      have q10 := y10.cell 10
      have r10 := y10.free 10
      simp [Cfg.cells] at q10
      have S10 := Lib.hid (fun v => y10.set10 v hgb)
      clear y10 d10 o10 q9 r9
      go_wp2_with fail
      refine (rbelow_on (S10.out _).d (by decide)).mono ?_
      rintro e v11 ⟨rfl, d11, o11⟩
      obtain ⟨s11, hs11, y11⟩ := ((S10.out _).call d11 o11).ex
      have E11 := Lib.hid hs11
      clear hs11
      have R11 := Lib.hid (row_on (T10.out _) o11 hgu9)
      have T11 := Lib.hid (fun x => row_far R11.out (i := 11) (v := x) hun9)
      have q11 := y11.cell 11
      have r11 := y11.free 11
      simp [Cfg.cells] at q11
      have S11 := Lib.hid (fun v => y11.set11 v hgb)
      clear y11 d11 o11 q10 r10
      go_upto_region 18 with fail
      have e0 : ds0 st = s := by rw [HSE.out, ← HND.out]; rfl
      have e1 : ds1 st = s1 := by rw [E1.out, ← e0]; rfl
      have e2 : ds2 st = s2 := by rw [E2.out, ← e1]; rfl
      have e3 : ds3 st = s3 := by rw [E3.out, ← e2]; rfl
      have e4 : ds4 st = s4 := by rw [E4.out, ← e3]; rfl
      have e5 : ds5 st = s5 := by rw [E5.out, ← e4]; rfl
      have e6 : ds6 st = s6 := by rw [E6.out, ← e5]; rfl
      have e7 : ds7 st = s7 := by rw [E7.out, ← e6]; rfl
      have e8 : ds8 st = s8 := by rw [E8.out, ← e7]; rfl
      have e9 : ds9 st = s9 := by rw [E9.out, ← e8]; rfl
      have e10 : ds10 st = s10 := by rw [E10.out, ← e9]; rfl
      have e11 : ds11 st = s11 := by rw [E11.out, ← e10]; rfl
      obtain ⟨c, hcn, hcE, xF⟩ : ∃ c : Cfg, c.n = k ∧ c = { dcfg st (some ⟨u, 0, none⟩) with cap := cap } ∧ XR w (v11.setCell ⟨w.heap.size + 1, 11, none⟩ (.int .u64 (IntKind.u64.wrap (belZ s10 1000)))) g w.heap.size (w.heap.size + 1) s11 c := ⟨_, by rfl, by (unfold dcfg; rw [e0, e1, e2, e3, e4, e5, e6, e7, e8, e9, e10, HND.out]; rfl), S11.out _⟩
      have RF := Lib.hid (T11.out (.int .u64 (IntKind.u64.wrap (belZ s10 1000))))
      have HCE := Lib.hid hcE
      have HE11 := Lib.hid e11
      clear hcE e0 e1 e2 e3 e4 e5 e6 e7 e8 e9 e10 e11 T1 T2 T3 T4 T5 T6 T7 T8 T9 T10 T11 R1 R2 R3 R4 R5 R6 R7 R8 R9 R10 R11 E1 E2 E3 E4 E5 E6 E7 E8 E9 E10 E11
      clear q11 r11 S1 S2 S3 S4 S5 S6 S7 S8 S9 S10 S11 HL
      generalize v11.setCell ⟨w.heap.size + 1, 11, none⟩ (.int .u64 (IntKind.u64.wrap (belZ s10 1000))) = W12 at xF RF ⊢
      have b0 := xF.cell 0
      have c0 := xF.rcell 0
      have f0 := xF.rfree 0
      have b1 := xF.cell 1
      have c1 := xF.rcell 1
      have f1 := xF.rfree 1
      have b2 := xF.cell 2
      have c2 := xF.rcell 2
      have f2 := xF.rfree 2
      have b3 := xF.cell 3
      have c3 := xF.rcell 3
      have f3 := xF.rfree 3
      have b4 := xF.cell 4
      have c4 := xF.rcell 4
      have f4 := xF.rfree 4
      have b5 := xF.cell 5
      have c5 := xF.rcell 5
      have f5 := xF.rfree 5
      have b6 := xF.cell 6
      have c6 := xF.rcell 6
      have f6 := xF.rfree 6
      have b7 := xF.cell 7
      have c7 := xF.rcell 7
      have f7 := xF.rfree 7
      have b8 := xF.cell 8
      have c8 := xF.rcell 8
      have f8 := xF.rfree 8
      have b9 := xF.cell 9
      have c9 := xF.rcell 9
      have f9 := xF.rfree 9
      have b10 := xF.cell 10
      have c10 := xF.rcell 10
      have f10 := xF.rfree 10
      have b11 := xF.cell 11
      have c11 := xF.rcell 11
      have f11 := xF.rfree 11
      simp [Cfg.cells] at b0 c0 b1 c1 b2 c2 b3 c3 b4 c4 b5 c5 b6 c6 b7 c7 b8 c8 b9 c9 b10 c10 b11 c11
      have XF := Lib.hid xF
      have hrb := xF.rb
      clear xF
      go_wp2
      refine bodyPost_ret (v := .agg c.cells) (by simp [results, Try.results9, go_sem, Cfg.cells, hcn, c0, c1, c2, c3, c4, c5, c6, c7, c8, c9, c10, c11]) rfl ⟨u, ⟨cap, by rw [HCE.out]⟩, ?_, ?_, on12 _ _ _ _ _ _ _ _ _ _ _ _ XF.out.bel (Nat.le_refl _), by omega⟩
      · obtain ⟨cur, h1, h2, h3⟩ := RF.out
        refine ⟨u, rfl, ?_, fun j hj => ?_⟩
        · have := blk_lt h1
          simpa using this
        · rw [cell_of_row _ u j _ _ (0, 0) ((far12 _ _ _ _ _ _ _ _ _ _ _ _ (by omega)).trans h1)]
          exact h3 j (by rw [← HND.out]; exact hj)
      · rw [HE11.out]
        exact (far12 _ _ _ _ _ _ _ _ _ _ _ _ (by omega)).trans XF.out.d
end Go.Proofs.Ytfojmjgnndlfnaa.DiceW
