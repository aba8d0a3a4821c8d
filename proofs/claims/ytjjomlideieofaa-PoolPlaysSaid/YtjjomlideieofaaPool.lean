/- A pool of transactions in memory: what New, place and own do. -/
import Derived.Test.YtjjomlideieofaaTxRight2
import Derived.Test.YtjjomlideieofaaTx
import Derived.Test.YtjjomlideieofaaRowsM
import Derived.IntWalk
namespace Go.Proofs.Ytjjomlideieofaa.Msg
open Go Go.RowKit

abbrev TP : Nat := 99
abbrev TT : Nat := 40

/-- All blocks of messages stand as they stood. -/
def KM (W W' : World) : Prop := W.heap.size ≤ W'.heap.size ∧ ∀ (j : Nat) (cs : Array Value) (fr : Nat × Nat), W.heap[j]? = some (.cells cs TM fr) → W'.heap[j]? = some (.cells cs TM fr)
section
variable {W W1 W2 : World}
theorem KM.refl (W : World) : KM W W := ⟨Nat.le_refl _, fun _ _ _ h => h⟩
theorem KM.trans (h : KM W W1) (k : KM W1 W2) : KM W W2 := ⟨Nat.le_trans h.1 k.1, fun j cs fr hh => k.2 j cs fr (h.2 j cs fr hh)⟩
theorem KM.below (h : Below W.heap.size W W1) : KM W W1 := ⟨h.size, fun j _ _ hh => (h.block j (lt_blk hh)).trans hh⟩
theorem KM.drewN (W : World) (q : Nat) : KM W (W.drewN q) := ⟨Nat.le_refl _, fun _ _ _ h => h⟩
theorem KM.alloc (W : World) (o : Obj) : KM W (W.alloc o) := ⟨by simp, fun j _ _ hh => (Below.heap_alloc _ _ _ (lt_blk hh)).trans hh⟩
theorem KM.set {g i T : Nat} {cs : Array Value} {fr : Nat × Nat} (hb : W.heap[g]? = some (.cells cs T fr)) (hT : T ≠ TM) (v : Value) : KM W (W.setCell ⟨g, i, none⟩ v) := ⟨by simp [World.setCell], fun j cs' fr' hh => by
  refine (Below.heap_setCell _ _ _ _ (fun e => ?_)).trans hh
  subst e
  rw [hh] at hb
  injection hb with hb
  injection hb with _ ht
  exact hT ht.symm⟩
theorem KM.grown {base e n size : Nat} {v : Value} {xs : List Value} (h : W.ownsRow base e size v n xs) (he : e ≠ TM) (hg : W.grownBy W1 v.ownBlock) : KM W W1 := ⟨hg.size, fun j cs fr hh => by
  refine (hg.block j (lt_blk hh) fun heq => ?_).trans hh
  obtain ⟨cs', fr', ho⟩ := own_blk_type h heq.symm hh
  injection ho with _ ht
  exact he ht.symm⟩
theorem own_km {base n size : Nat} {v : Value} {xs : List Value} (h : W.ownsRow base TM size v n xs) (k : KM W W1) : W1.ownsRow base TM size v n xs := by
  refine ⟨h.1, ?_⟩
  rcases h.2 with h2 | ⟨g, cap, cur, hv, hg, hh, r⟩
  · exact .inl h2
  · exact .inr ⟨g, cap, cur, hv, hg, k.2 g _ _ hh, r⟩
end

/-- The zero transaction's cells. -/
def z4 : Array Value := #[.int .i64 0, .int .i64 0, .int .u64 0, .slice none 0 0]
/-- A pool's block when it is made. -/
def p0 (most : Int) : Array Value := (List.replicate 32 z4.toList).flatten.toArray ++ #[.int .i64 0, .int .i64 0, .int .i64 most]

/-- At block g stands a pool of those that wait. -/
structure Pl (W : World) (base g first : Nat) (most : Int) (ts : List T4) : Prop where
  hg : base ≤ g
  lt : first < 32
  le : ts.length ≤ 32
  blk : ∃ cs, W.heap[g]? = some (.cells cs TP (0, 0)) ∧ cs.size = 131 ∧ cs[128]? = some (.int .i64 (first : Int)) ∧ cs[129]? = some (.int .i64 (ts.length : Int)) ∧ cs[130]? = some (.int .i64 most) ∧
    (∀ i (h : i < ts.length) j, j < 4 → cs[((first + i) % 32) * 4 + j]? = (ts[i].cells)[j]?) ∧ ∀ i, i < 131 → ∃ v, cs[i]? = some v
  rows : ∀ t ∈ ts, W.ownsRow base TM 7 (.slice t.A t.len t.cap) t.len (mevs t.ms)

theorem Pl.same {W W1 : World} {base g first : Nat} {most : Int} {ts : List T4} (h : Pl W base g first most ts) (hh : W1.heap[g]? = W.heap[g]?) (hk : KM W W1) : Pl W1 base g first most ts := by
  obtain ⟨cs, hb, r⟩ := h.blk
  exact ⟨h.hg, h.lt, h.le, ⟨cs, hh.trans hb, r⟩, fun t ht => own_km (h.rows t ht) hk⟩
theorem Pl.below {W W1 : World} {base g first : Nat} {most : Int} {ts : List T4} (h : Pl W base g first most ts) (hb : Below W.heap.size W W1) : Pl W1 base g first most ts := by
  obtain ⟨cs, hbl, _⟩ := h.blk
  exact h.same (hb.block g (lt_blk hbl)) (KM.below hb)
theorem Pl.cells {W : World} {base g first : Nat} {most : Int} {ts : List T4} (h : Pl W base g first most ts) : W.cell? ⟨g, 128, none⟩ = some (.int .i64 (first : Int)) ∧ W.cell? ⟨g, 129, none⟩ = some (.int .i64 (ts.length : Int)) ∧ W.cell? ⟨g, 130, none⟩ = some (.int .i64 most) := by
  obtain ⟨cs, hb, _, h1, h2, h3, _⟩ := h.blk
  exact ⟨(cell_of_row _ _ _ _ _ _ hb).trans h1, (cell_of_row _ _ _ _ _ _ hb).trans h2, (cell_of_row _ _ _ _ _ _ hb).trans h3⟩
theorem Pl.free {W : World} {base g first : Nat} {most : Int} {ts : List T4} (h : Pl W base g first most ts) (i : Nat) : W.frozen? ⟨g, i, none⟩ = false := by
  obtain ⟨cs, hb, _⟩ := h.blk
  simp [World.frozen?, hb]
theorem Pl.g_lt {W : World} {base g first : Nat} {most : Int} {ts : List T4} (h : Pl W base g first most ts) : g < W.heap.size := by
  obtain ⟨cs, hb, _⟩ := h.blk
  exact lt_blk hb
theorem Pl.at {W : World} {base g first : Nat} {most : Int} {ts : List T4} (h : Pl W base g first most ts) (i : Nat) (hi : i < ts.length) (j : Nat) (hj : j < 4) : W.cell? ⟨g, ((first + i) % 32) * 4 + j, none⟩ = (ts[i].cells)[j]? := by
  obtain ⟨cs, hb, _, _, _, _, h4, _⟩ := h.blk
  exact (cell_of_row _ _ _ _ _ _ hb).trans (h4 i hi j hj)
theorem Pl.there {W : World} {base g first : Nat} {most : Int} {ts : List T4} (h : Pl W base g first most ts) (i : Nat) (hi : i < 131) : ∃ v, W.cell? ⟨g, i, none⟩ = some v := by
  obtain ⟨cs, hb, _, _, _, _, _, h5⟩ := h.blk
  obtain ⟨v, hv⟩ := h5 i hi
  exact ⟨v, (cell_of_row _ _ _ _ _ _ hb).trans hv⟩

set_option maxRecDepth 100000 in
set_option maxHeartbeats 1000000 in
theorem pnew_ok (most : Int) (w : World) (h0 : 1 ≤ most) (h1 : most ≤ 32) :
    Calls Try.prog 10 #[.int .i64 most] w fun e w' => e = .returned (.tuple #[.pointer (some ⟨w.heap.size, 0, none⟩), .int .i64 0]) ∧ w' = w.alloc (.cells (p0 most) TP) := by
  go_enter Try.func10, Try.ntmps10
  go_wp2
  go_ret2
  exact ⟨rfl, rfl⟩

theorem Pl.new (w : World) (base : Nat) (hb : base ≤ w.heap.size) (most : Int) : Pl (w.alloc (.cells (p0 most) TP)) base w.heap.size 0 most [] := by
  refine ⟨hb, by decide, by decide, ⟨p0 most, heap_alloc_new w _, by simp [p0, z4], by simp [p0, z4], by simp [p0, z4], by simp [p0, z4], fun i h => absurd h (by simp), fun i hi => ?_⟩, fun t ht => absurd ht (by simp)⟩
  have : i < (p0 most).size := by simp [p0, z4]; omega
  exact ⟨_, Array.getElem?_eq_getElem this⟩

set_option maxHeartbeats 1000000 in
theorem place_any {w : World} {base g first : Nat} {most : Int} {ts : List T4} (h : Pl w base g first most ts) (i : Nat) (hi : i ≤ 32) :
    Calls Try.prog 55 #[.pointer (some ⟨g, 0, none⟩), .int .i64 (i : Int)] w fun e w' => e = .returned (.pointer (some ⟨g, ((first + i) % 32) * 4, none⟩)) ∧ ∃ q, w' = w.drewN q := by
  obtain ⟨c0, c1, c2⟩ := h.cells
  have hf := h.lt
  clear h
  have e1 : IntKind.i64.wrap ((first : Int) + (i : Int)) = ((first + i : Nat) : Int) := by rw [IntWalk.i64_in _ (by omega)]; omega
  obtain ⟨k, hk⟩ : ∃ k, k = (first + i) % 32 := ⟨_, rfl⟩
  have e2 : ((first + i : Nat) : Int) % 32 = (k : Int) := by omega
  have hk32 : k < 32 := by omega
  have e3 : (0 : Int) ≤ (k : Int) := by omega
  have e4 : (k : Int) < 32 := by omega
  rw [← hk]
  have HK := Lib.hid hk
  clear hk
  go_enter Try.func55, Try.ntmps55
  go_wp2
  go_quiet (fail)
  go_wp2
  go_ret
  exact ⟨by rw [HK.out]; rfl, _, rfl⟩

set_option maxHeartbeats 1000000 in
theorem plen_any {w : World} {base g first : Nat} {most : Int} {ts : List T4} (h : Pl w base g first most ts) :
    Calls Try.prog 17 #[.pointer (some ⟨g, 0, none⟩)] w fun e w' => e = .returned (.int .i64 (ts.length : Int)) ∧ w' = w := by
  obtain ⟨_, c1, _⟩ := h.cells
  clear h
  go_enter Try.func17, Try.ntmps17
  go_wp2
  go_ret
  exact ⟨rfl, rfl⟩

/-- A transaction's box. -/
theorem tx_cells {W : World} {H T : Nat} {a b c d : Value} (h : W.heap[H]? = some (.cells #[a, b, c, d] T (0, 0))) : W.cell? ⟨H, 0, none⟩ = some a ∧ W.cell? ⟨H, 1, none⟩ = some b ∧ W.cell? ⟨H, 2, none⟩ = some c ∧ W.cell? ⟨H, 3, none⟩ = some d :=
  ⟨cell_of_row _ _ 0 _ _ _ h, cell_of_row _ _ 1 _ _ _ h, cell_of_row _ _ 2 _ _ _ h, cell_of_row _ _ 3 _ _ _ h⟩
theorem tx_free {W : World} {H T : Nat} {a b c d : Value} (h : W.heap[H]? = some (.cells #[a, b, c, d] T (0, 0))) (i : Nat) : W.frozen? ⟨H, i, none⟩ = false := by simp [World.frozen?, h]

def IsTx (W : World) (H : Nat) : Prop := ∃ cs, W.heap[H]? = some (.cells cs TT (0, 0))
theorem IsTx.set {W : World} {H H' i : Nat} {v : Value} (h : IsTx W H) : IsTx (W.setCell ⟨H', i, none⟩ v) H := by
  obtain ⟨cs, h⟩ := h
  by_cases e : H = H'
  · subst e
    exact ⟨cs.setIfInBounds i v, by simp [World.setCell, Array.getElem?_modify, h]⟩
  · exact ⟨cs, (Below.heap_setCell _ _ _ _ (by exact e)).trans h⟩
theorem own_setTx {W : World} {H i base n : Nat} {v u : Value} {xs : List Value} (h : W.ownsRow base TM 7 v n xs) (hx : IsTx W H) : (W.setCell ⟨H, i, none⟩ u).ownsRow base TM 7 v n xs := by
  obtain ⟨cs, hx⟩ := hx
  exact own_setblk h hx (by decide)

def OwnPost (w : World) (t : T4) (e : Ending) (w' : World) : Prop := ∃ A c, e = .returned (.agg #[.int .i64 t.side, .int .i64 t.acc, .int .u64 t.n, .slice A t.len c]) ∧ w'.ownsRow w.heap.size TM 7 (.slice A t.len c) t.len (mevs t.ms) ∧ Below w.heap.size w w'

set_option maxRecDepth 100000 in
set_option maxHeartbeats 2000000 in
theorem own_any (t : T4) (w : World) (hr : Rd w t.A t.len t.ms) (hl : t.len ≤ 1000000) :
    Calls Try.prog 54 #[.agg #[.int .i64 t.side, .int .i64 t.acc, .int .u64 t.n, .slice t.A t.len t.cap]] w (OwnPost w t) := by
  have hb0 : Below w.heap.size w ((w.alloc (.cells #[.int .i64 t.side, .int .i64 t.acc, .int .u64 t.n, .slice t.A t.len t.cap] TT)).alloc (.cells #[.int .i64 0, .int .i64 0, .int .u64 0, .slice none 0 0] TT)) := ((Below.refl _ _).alloc (Nat.le_refl _) _).alloc (by simp) _
  have k1 : ((w.alloc (.cells #[.int .i64 t.side, .int .i64 t.acc, .int .u64 t.n, .slice t.A t.len t.cap] TT)).alloc (.cells #[.int .i64 0, .int .i64 0, .int .u64 0, .slice none 0 0] TT)).heap[w.heap.size]? = some (.cells #[.int .i64 t.side, .int .i64 t.acc, .int .u64 t.n, .slice t.A t.len t.cap] TT (0, 0)) := (Below.heap_alloc _ _ _ (by simp)).trans (heap_alloc_new w _)
  have k2 : ((w.alloc (.cells #[.int .i64 t.side, .int .i64 t.acc, .int .u64 t.n, .slice t.A t.len t.cap] TT)).alloc (.cells #[.int .i64 0, .int .i64 0, .int .u64 0, .slice none 0 0] TT)).heap[w.heap.size + 1]? = some (.cells #[.int .i64 0, .int .i64 0, .int .u64 0, .slice none 0 0] TT (0, 0)) := by
    have := heap_alloc_new (w.alloc (.cells #[.int .i64 t.side, .int .i64 t.acc, .int .u64 t.n, .slice t.A t.len t.cap] TT)) (.cells #[.int .i64 0, .int .i64 0, .int .u64 0, .slice none 0 0] TT)
    rwa [World.size_alloc] at this
  have hr0 := Lib.hid (hr.below hb0)
  have HK := Lib.hid (And.intro k1 (And.intro k2 hb0))
  clear hr k1 k2 hb0
  go_enter Try.func54, Try.ntmps54
  go_wp2_with fail
  refine (clone_msgs t.A t.len t.cap t.ms hl _ hr0.out).mono ?_
  rintro e w1 ⟨⟨u, rfl, hown⟩, hb⟩
  have j1 := (hb.block w.heap.size (lt_blk HK.out.1)).trans HK.out.1
  have j2 := (hb.block (w.heap.size + 1) (lt_blk HK.out.2.1)).trans HK.out.2.1
  obtain ⟨A, c, hu⟩ := own_formN hown
  subst hu
  have HW := Lib.hid (And.intro (HK.out.2.2.trans (hb.mono HK.out.2.2.size)) (And.intro hown (And.intro j1 j2)))
  obtain ⟨x0, x1, x2, x3⟩ := tx_cells j1
  obtain ⟨y0, y1, y2, y3⟩ := tx_cells j2
  have f3 := tx_free j1 3
  have g0 := tx_free j2 0
  have g1 := tx_free j2 1
  have g2 := tx_free j2 2
  have g3 := tx_free j2 3
  clear j1 j2 hown hb
  go_wp2
  refine bodyPost_ret (v := .agg #[.int .i64 t.side, .int .i64 t.acc, .int .u64 t.n, .slice A t.len c]) (by simp [results, Try.results54, go_sem, y0, y1, y2, y3]) rfl ⟨A, c, rfl, ?_, ?_⟩
  · have h0 := own_base HW.out.2.1 (show w.heap.size ≤ _ by simp; omega)
    have a0 : IsTx w1 w.heap.size := ⟨_, HW.out.2.2.1⟩
    have b0 : IsTx w1 (w.heap.size + 1) := ⟨_, HW.out.2.2.2⟩
    exact own_setTx (own_setTx (own_setTx (own_setTx (own_setTx h0 a0) b0.set) b0.set.set) b0.set.set.set) b0.set.set.set.set
  · exact ((((HW.out.1.setCell (p := ⟨w.heap.size, 3, none⟩) (Nat.le_refl _) _).setCell (p := ⟨w.heap.size + 1, 0, none⟩) (Nat.le_succ _) _).setCell (p := ⟨w.heap.size + 1, 1, none⟩) (Nat.le_succ _) _).setCell (p := ⟨w.heap.size + 1, 2, none⟩) (Nat.le_succ _) _).setCell (p := ⟨w.heap.size + 1, 3, none⟩) (Nat.le_succ _) _
end Go.Proofs.Ytjjomlideieofaa.Msg
