/- A batch of messages: Has and Add. -/
import Derived.Test.YtjjomlideieofaaBatch
import Derived.Deep.RegionHeld3
namespace Go.Proofs.Ytjjomlideieofaa.Msg
open Go Go.RowKit

/-- A message's box. -/
def Box (W : World) (H : Nat) (x : M7) : Prop := W.heap[H]? = some (.cells x.cells TM (0, 0))
theorem Box.cells {W : World} {H : Nat} {x : M7} (h : Box W H x) : W.cell? ⟨H, 0, none⟩ = some (.int .i64 x.k) ∧ W.cell? ⟨H, 1, none⟩ = some (.int .i64 x.c) ∧ W.cell? ⟨H, 2, none⟩ = some (.int .i64 x.f) ∧ W.cell? ⟨H, 3, none⟩ = some (.int .u64 x.s) ∧ W.cell? ⟨H, 4, none⟩ = some (.int .u64 x.t) ∧ W.cell? ⟨H, 5, none⟩ = some (.string x.d) ∧ W.cell? ⟨H, 6, none⟩ = some (.string x.a) :=
  ⟨cell_of_row _ _ 0 _ _ _ h, cell_of_row _ _ 1 _ _ _ h, cell_of_row _ _ 2 _ _ _ h, cell_of_row _ _ 3 _ _ _ h, cell_of_row _ _ 4 _ _ _ h, cell_of_row _ _ 5 _ _ _ h, cell_of_row _ _ 6 _ _ _ h⟩
theorem Box.below {W W' : World} {H : Nat} {x : M7} (h : Box W H x) (hb : Below W.heap.size W W') : Box W' H x := (hb.block H (lt_blk h)).trans h

/-- What holds in Has. -/
def HS (w : World) (g : Nat) (x : M7) (v : Value) (W : World) : Prop :=
  Below w.heap.size w W ∧ w.heap.size < W.heap.size ∧ g < W.heap.size ∧ W.cell? ⟨w.heap.size, 0, none⟩ = some (.int .i64 x.k) ∧ W.cell? ⟨w.heap.size, 1, none⟩ = some (.int .i64 x.c) ∧ W.cell? ⟨w.heap.size, 2, none⟩ = some (.int .i64 x.f) ∧ W.cell? ⟨w.heap.size, 3, none⟩ = some (.int .u64 x.s) ∧ W.cell? ⟨w.heap.size, 4, none⟩ = some (.int .u64 x.t) ∧ W.cell? ⟨w.heap.size, 5, none⟩ = some (.string x.d) ∧ W.cell? ⟨w.heap.size, 6, none⟩ = some (.string x.a) ∧ W.cell? ⟨g, 2, none⟩ = some v
theorem HS.drew {w W : World} {g : Nat} {x : M7} {v : Value} (h : HS w g x v W) : HS w g x v W.drew := ⟨h.1.drew, h.2⟩
theorem HS.call {w W w1 : World} {g : Nat} {x : M7} {v : Value} (h : HS w g x v W) (hb : Below W.heap.size W w1) : HS w g x v w1 := by
  obtain ⟨h0, h1, h2, h3⟩ := h
  have hc : ∀ i, w1.cell? ⟨w.heap.size, i, none⟩ = W.cell? ⟨w.heap.size, i, none⟩ := fun i => hb.cell (p := ⟨w.heap.size, i, none⟩) h1
  have hg : ∀ i, w1.cell? ⟨g, i, none⟩ = W.cell? ⟨g, i, none⟩ := fun i => hb.cell (p := ⟨g, i, none⟩) h2
  refine ⟨h0.trans (hb.mono (Nat.le_of_lt h1)), Nat.lt_of_lt_of_le h1 hb.size, Nat.lt_of_lt_of_le h2 hb.size, ?_⟩
  simp only [hc, hg]
  exact h3
theorem HS.new {w : World} {base g : Nat} {sz wt since : Int} {v : Value} {ms : List M7} (h : Bt w base g sz wt v since ms) (x : M7) : HS w g x v (w.alloc (.cells #[.int .i64 x.k, .int .i64 x.c, .int .i64 x.f, .int .u64 x.s, .int .u64 x.t, .string x.d, .string x.a] TM)) := by
  have hb0 : Below w.heap.size w (w.alloc (.cells x.cells TM)) := (Below.refl _ _).alloc (Nat.le_refl _) _
  obtain ⟨b0, b1, b2, b3, b4, b5, b6⟩ := Box.cells (W := w.alloc (.cells x.cells TM)) (heap_alloc_new w _)
  obtain ⟨_, _, c2, _⟩ := (h.below hb0).cells
  exact ⟨hb0, by simp, by have := lt_blk h.2.1; simp; omega, b0, b1, b2, b3, b4, b5, b6, c2⟩

set_option maxHeartbeats 2000000 in
theorem has_any {w : World} {base g : Nat} {sz wt since : Int} {v : Value} {ms : List M7} (h : Bt w base g sz wt v since ms) (x : M7) (hl : ms.length ≤ 1000000) :
    Calls Try.prog 34 #[.pointer (some ⟨g, 0, none⟩), .agg #[.int .i64 x.k, .int .i64 x.c, .int .i64 x.f, .int .u64 x.s, .int .u64 x.t, .string x.d, .string x.a]] w fun e w' => e = .returned (.bool (decide (place ms x ms.length 0 ≠ -1))) ∧ Below w.heap.size w w' := by
  have hN := HS.new h x
  have hF := Lib.hid fun (A : Option Addr) (c : Nat) (hv : v = .slice A ms.length c) (W : World) (hb : Below w.heap.size w W) => find_any A ms.length c ms x W (row_at (own_belowN (hv ▸ h.2.2) hb (Nat.le_refl _)) rfl) (by omega)
  unfold M7.cells at hF
  obtain ⟨A, c, hv⟩ := own_formN h.2.2
  have hF2 := Lib.hid (hF.out A c hv)
  subst hv
  clear h hF
  generalize place ms x ms.length 0 = p at hF2 ⊢
  generalize ms.length = n at hN hF2
  by_cases hp : p = -1
  · subst hp
    go_enter Try.func34, Try.ntmps34
    go_wp2
    go_region_held3 (fun W => Below w.heap.size w W ∧ w.heap.size < W.heap.size ∧ g < W.heap.size ∧ W.cell? ⟨w.heap.size, 0, none⟩ = some (.int .i64 x.k) ∧ W.cell? ⟨w.heap.size, 1, none⟩ = some (.int .i64 x.c) ∧ W.cell? ⟨w.heap.size, 2, none⟩ = some (.int .i64 x.f) ∧ W.cell? ⟨w.heap.size, 3, none⟩ = some (.int .u64 x.s) ∧ W.cell? ⟨w.heap.size, 4, none⟩ = some (.int .u64 x.t) ∧ W.cell? ⟨w.heap.size, 5, none⟩ = some (.string x.d) ∧ W.cell? ⟨w.heap.size, 6, none⟩ = some (.string x.a) ∧ W.cell? ⟨g, 2, none⟩ = some (.slice A n c))
      (first | assumption | exact hN | exact HS.drew (by assumption) | exact HS.drew hN | exact HS.call (by assumption) hb1 | exact HS.call (HS.drew hN) hb1)
      (first | (go_at_call 56; ((with_reducible refine (hF2.out _ (And.left (by assumption))).mono ?_); rintro e w1 ⟨rfl, hb1⟩)))
    go_wp2
    go_ret
    obtain ⟨hB, _⟩ : Below w.heap.size w w1 ∧ w.heap.size < w1.heap.size ∧ _ := by assumption
    exact ⟨rfl, hB⟩
  · have hpz : (p != -1) = true := by simpa using hp
    have hdd := Lib.hid (show decide (p ≠ -1) = true from decide_eq_true hp)
    rw [hdd.out]
    clear hp
    go_enter Try.func34, Try.ntmps34
    go_wp2
    go_region_held3 (fun W => Below w.heap.size w W ∧ w.heap.size < W.heap.size ∧ g < W.heap.size ∧ W.cell? ⟨w.heap.size, 0, none⟩ = some (.int .i64 x.k) ∧ W.cell? ⟨w.heap.size, 1, none⟩ = some (.int .i64 x.c) ∧ W.cell? ⟨w.heap.size, 2, none⟩ = some (.int .i64 x.f) ∧ W.cell? ⟨w.heap.size, 3, none⟩ = some (.int .u64 x.s) ∧ W.cell? ⟨w.heap.size, 4, none⟩ = some (.int .u64 x.t) ∧ W.cell? ⟨w.heap.size, 5, none⟩ = some (.string x.d) ∧ W.cell? ⟨w.heap.size, 6, none⟩ = some (.string x.a) ∧ W.cell? ⟨g, 2, none⟩ = some (.slice A n c))
      (first | assumption | exact hN | exact HS.drew (by assumption) | exact HS.drew hN | exact HS.call (by assumption) hb1 | exact HS.call (HS.drew hN) hb1)
      (first | (go_at_call 56; ((with_reducible refine (hF2.out _ (And.left (by assumption))).mono ?_); rintro e w1 ⟨rfl, hb1⟩)))
    go_wp2
    go_ret
    obtain ⟨hB, _⟩ : Below w.heap.size w w1 ∧ w.heap.size < w1.heap.size ∧ _ := by assumption
    exact ⟨rfl, hB⟩
end Go.Proofs.Ytjjomlideieofaa.Msg
