/- 'SubmitAfter' holds for every input, with no condition: by which operation a number goes on. -/
import Derived.Test.YtnidafgjbocfcaaSubmitMany
namespace Go.Proofs.Ytnidafgjbocfcaa.submitAfter
open Go Go.RowKit Go.Shelf Go.Deep Go.WideShapes Msg Subm

abbrev tT : M7 := ⟨4, 0, 0, 0, 0, ⟨#[]⟩, ⟨#[]⟩⟩
abbrev tR : M7 := ⟨2, 0, 0, 0, 0, ⟨#[]⟩, ⟨#[]⟩⟩

set_option maxRecDepth 100000 in
set_option maxHeartbeats 2000000 in
theorem awake_any (w : World) : Calls Try.prog 10 #[] w fun e w' => e = .returned (.bool true) ∧ Below w.heap.size w w' := by
  go_enter Try.func10, Try.ntmps10
  go_wp2_with fail
  have hB : ∀ o o', Below w.heap.size w ((w.alloc o).alloc o') := fun o o' => ((Below.refl _ _).alloc (Nat.le_refl _) _).alloc (by simp) _
  refine (many_any _ 6 6 [tT, tT, tR, tT, tT, tT] 0 2 _ (by
    have h := new_rd (W := (w.alloc (.cells tT.cells TM)).alloc (.cells (mevs [tT, tT, tR, tT, tT, tT]).toArray TM)) (b := (w.alloc (.cells tT.cells TM)).heap.size) (ms := [tT, tT, tR, tT, tT, tT]) (World.alloc_heap_new _ _) rfl
    rw [World.size_alloc] at h
    exact h) (by decide) (by decide) (by decide)).mono ?_
  rintro e w1 ⟨rfl, hb⟩
  have HB := Lib.hid ((hB _ _).trans (hb.mono (by simp; omega)))
  clear hb hB
  rw [show ((partsOf 2 (([tT, tT, tR, tT, tT, tT] : List M7).filter (goes 0))).length : Int) = 3 from by decide]
  go_wp2
  go_ret
  exact ⟨rfl, HB.out⟩

theorem op_cells {W : World} {H T : Nat} {a0 a1 a2 a3 a4 a5 a6 a7 a8 : Value} (h : W.heap[H]? = some (.cells #[a0, a1, a2, a3, a4, a5, a6, a7, a8] T (0, 0))) :
    W.cell? ⟨H, 0, none⟩ = some a0 ∧ W.cell? ⟨H, 1, none⟩ = some a1 ∧ W.cell? ⟨H, 2, none⟩ = some a2 ∧ W.cell? ⟨H, 3, none⟩ = some a3 ∧ W.cell? ⟨H, 4, none⟩ = some a4 ∧ W.cell? ⟨H, 5, none⟩ = some a5 ∧ W.cell? ⟨H, 6, none⟩ = some a6 ∧ W.cell? ⟨H, 7, none⟩ = some a7 ∧ W.cell? ⟨H, 8, none⟩ = some a8 :=
  ⟨cell_of_row _ _ 0 _ _ _ h, cell_of_row _ _ 1 _ _ _ h, cell_of_row _ _ 2 _ _ _ h, cell_of_row _ _ 3 _ _ _ h, cell_of_row _ _ 4 _ _ _ h, cell_of_row _ _ 5 _ _ _ h, cell_of_row _ _ 6 _ _ _ h, cell_of_row _ _ 7 _ _ _ h, cell_of_row _ _ 8 _ _ _ h⟩

/-- The two boxes of the law. -/
def Bx (w : World) (side acc n : Int) (A : Option Addr) (len cap : Nat) (x0 x1 x2 : Int) (W : World) : Prop :=
  Below w.heap.size w W ∧ W.heap[w.heap.size]? = some (.cells #[.int .i64 side, .int .i64 acc, .int .u64 n, .slice A len cap] 25 (0, 0)) ∧ W.heap[w.heap.size + 1]? = some (.cells #[.int .u64 x0, .int .u64 x1, .int .u64 x2] 26 (0, 0))
theorem Bx.cells {w W : World} {side acc n : Int} {A : Option Addr} {len cap : Nat} {x0 x1 x2 : Int} (h : Bx w side acc n A len cap x0 x1 x2 W) :
    (w.heap.size + 1 < W.heap.size ∧ w.heap.size < W.heap.size) ∧ (W.cell? ⟨w.heap.size, 0, none⟩ = some (.int .i64 side) ∧ W.cell? ⟨w.heap.size, 1, none⟩ = some (.int .i64 acc) ∧ W.cell? ⟨w.heap.size, 2, none⟩ = some (.int .u64 n) ∧ W.cell? ⟨w.heap.size, 3, none⟩ = some (.slice A len cap)) ∧
    W.cell? ⟨w.heap.size + 1, 0, none⟩ = some (.int .u64 x0) ∧ W.cell? ⟨w.heap.size + 1, 1, none⟩ = some (.int .u64 x1) ∧ W.cell? ⟨w.heap.size + 1, 2, none⟩ = some (.int .u64 x2) :=
  ⟨⟨lt_blk h.2.2, lt_blk h.2.1⟩, ⟨cell_of_row _ _ 0 _ _ _ h.2.1, cell_of_row _ _ 1 _ _ _ h.2.1, cell_of_row _ _ 2 _ _ _ h.2.1, cell_of_row _ _ 3 _ _ _ h.2.1⟩, cell_of_row _ _ 0 _ _ _ h.2.2, cell_of_row _ _ 1 _ _ _ h.2.2, cell_of_row _ _ 2 _ _ _ h.2.2⟩
theorem Bx.below {w W W' : World} {side acc n : Int} {A : Option Addr} {len cap : Nat} {x0 x1 x2 : Int} (h : Bx w side acc n A len cap x0 x1 x2 W) (hb : Below W.heap.size W W') : Bx w side acc n A len cap x0 x1 x2 W' :=
  ⟨h.1.trans (hb.mono h.1.size), (hb.block _ (lt_blk h.2.1)).trans h.2.1, (hb.block _ (lt_blk h.2.2)).trans h.2.2⟩

set_option maxRecDepth 100000 in
set_option maxHeartbeats 4000000 in
theorem law_any (k side acc n : Int) (A : Option Addr) (len cap : Nat) (ms : List M7) (x0 x1 x2 : Int) (w : World) (hr : Rd w A len ms) (hl : len ≤ 9223372036854775807) (hx0 : 0 ≤ x0) (hx1 : x0 < 18446744073709551616) :
    Calls Try.prog 3 #[.int .i64 k, .agg #[.int .i64 side, .int .i64 acc, .int .u64 n, .slice A len cap], .agg #[.int .u64 x0, .int .u64 x1, .int .u64 x2]] w fun e w' => e = .returned (.bool true) ∧ Below w.heap.size w w' := by
  have hbx : Bx w side acc n A len cap x0 x1 x2 ((w.alloc (.cells #[.int .i64 side, .int .i64 acc, .int .u64 n, .slice A len cap] 25)).alloc (.cells #[.int .u64 x0, .int .u64 x1, .int .u64 x2] 26)) :=
    ⟨((Below.refl _ _).alloc (Nat.le_refl _) _).alloc (by simp) _, (Below.heap_alloc _ _ _ (by simp)).trans (World.alloc_heap_new w _), by have := World.alloc_heap_new (w.alloc (.cells #[.int .i64 side, .int .i64 acc, .int .u64 n, .slice A len cap] 25)) (.cells #[.int .u64 x0, .int .u64 x1, .int .u64 x2] 26); rwa [World.size_alloc] at this⟩
  have HX := Lib.hid hbx
  have HR := Lib.hid hr
  clear hbx hr
  go_enter Try.func3, Try.ntmps3
  go_wp2_with fail
  refine (few05_any side acc n A len cap ms _ (HR.out.below HX.out.1) hl).mono ?_
  rintro e w1 ⟨b, rfl, -, hb⟩
  have H1 := Lib.hid (HX.out.below hb)
  clear hb
  cases b
  · go_wp2_with fail
    refine (awake_any w1).mono ?_
    rintro e w2 ⟨rfl, hb2⟩
    have HB2 := Lib.hid (H1.out.below hb2).1
    clear hb2
    go_wp2
    go_ret
    exact ⟨rfl, HB2.out⟩
  · rcases (by omega : k = 2 ∨ k = 1 ∨ (k = 3 ∨ k = 4 ∨ k = 5 ∨ k = 6 ∨ k = 8 ∨ k = 9) ∨ (k < 1 ∨ k = 7 ∨ 9 < k)) with hk | hk | hk | hk
    · have HK := Lib.hid hk
      clear hk
      obtain ⟨⟨q1, q2⟩, ⟨c0, c1, c2, c3⟩, d0, d1, d2⟩ := H1.out.cells
      go_wp2_with fail
      refine (after9 k _ side acc n _ _ _ w1 HK.out).mono ?_
      rintro e w2 ⟨rfl, hb2⟩
      have H2 := Lib.hid (H1.out.below hb2)
      clear hb2 c0 c1 c2 c3 d0 d1 d2 q1 q2
      obtain ⟨⟨q1, q2⟩, ⟨c0, c1, c2, c3⟩, d0, d1, d2⟩ := H2.out.cells
      go_wp2_with fail
      refine (ref9 k _ side acc n _ _ _ _ HK.out).mono ?_
      rintro e w3 ⟨rfl, hb3⟩
      have H3 := Lib.hid (And.intro ((H2.out.below ((Below.refl _ _).alloc (Nat.le_refl _) _)).below hb3) ((hb3.block w2.heap.size (by simp)).trans (World.alloc_heap_new w2 _)))
      clear hb3 c0 c1 c2 c3 d0 d1 d2 q1 q2
      go_wp2_with fail
      refine (awake_any _).mono ?_
      rintro e w4 ⟨rfl, hb4⟩
      have hlt := lt_blk H3.out.2
      have h7 := op_cells ((hb4.block w2.heap.size (by simp; omega)).trans ((Below.heap_alloc w3 _ _ hlt).trans H3.out.2))
      have h9 := op_cells ((hb4.block w3.heap.size (by simp)).trans (World.alloc_heap_new w3 _))
      have HB4 := Lib.hid ((H3.out.1.below ((Below.refl _ _).alloc (Nat.le_refl _) _)).below hb4).1
      clear hb4 hlt
      obtain ⟨a0, a1, a2, a3, a4, a5, a6, a7, a8⟩ := h7
      obtain ⟨b0, b1, b2, b3, b4, b5, b6, b7, b8⟩ := h9
      go_wp2
      go_ret
      exact ⟨rfl, HB4.out⟩
    · have HK := Lib.hid hk
      clear hk
      obtain ⟨⟨q1, q2⟩, ⟨c0, c1, c2, c3⟩, d0, d1, d2⟩ := H1.out.cells
      go_wp2_with fail
      refine (after7 k _ side acc n _ _ _ w1 HK.out).mono ?_
      rintro e w2 ⟨rfl, hb2⟩
      have H2 := Lib.hid (H1.out.below hb2)
      clear hb2 c0 c1 c2 c3 d0 d1 d2 q1 q2
      obtain ⟨⟨q1, q2⟩, ⟨c0, c1, c2, c3⟩, d0, d1, d2⟩ := H2.out.cells
      go_wp2_with fail
      refine (ref7 k _ side acc n _ _ _ _ HK.out).mono ?_
      rintro e w3 ⟨rfl, hb3⟩
      have H3 := Lib.hid (And.intro ((H2.out.below ((Below.refl _ _).alloc (Nat.le_refl _) _)).below hb3) ((hb3.block w2.heap.size (by simp)).trans (World.alloc_heap_new w2 _)))
      clear hb3 c0 c1 c2 c3 d0 d1 d2 q1 q2
      go_wp2_with fail
      refine (awake_any _).mono ?_
      rintro e w4 ⟨rfl, hb4⟩
      have hlt := lt_blk H3.out.2
      have h7 := op_cells ((hb4.block w2.heap.size (by simp; omega)).trans ((Below.heap_alloc w3 _ _ hlt).trans H3.out.2))
      have h9 := op_cells ((hb4.block w3.heap.size (by simp)).trans (World.alloc_heap_new w3 _))
      have HB4 := Lib.hid ((H3.out.1.below ((Below.refl _ _).alloc (Nat.le_refl _) _)).below hb4).1
      clear hb4 hlt
      obtain ⟨a0, a1, a2, a3, a4, a5, a6, a7, a8⟩ := h7
      obtain ⟨b0, b1, b2, b3, b4, b5, b6, b7, b8⟩ := h9
      go_wp2
      go_ret
      exact ⟨rfl, HB4.out⟩
    · have HK := Lib.hid hk
      clear hk
      obtain ⟨⟨q1, q2⟩, ⟨c0, c1, c2, c3⟩, d0, d1, d2⟩ := H1.out.cells
      go_wp2_with fail
      refine (after8 k _ side acc n _ _ _ w1 HK.out).mono ?_
      rintro e w2 ⟨rfl, hb2⟩
      have H2 := Lib.hid (H1.out.below hb2)
      clear hb2 c0 c1 c2 c3 d0 d1 d2 q1 q2
      obtain ⟨⟨q1, q2⟩, ⟨c0, c1, c2, c3⟩, d0, d1, d2⟩ := H2.out.cells
      go_wp2_with fail
      refine (ref8 k _ side acc n _ _ _ _ HK.out).mono ?_
      rintro e w3 ⟨rfl, hb3⟩
      have H3 := Lib.hid (And.intro ((H2.out.below ((Below.refl _ _).alloc (Nat.le_refl _) _)).below hb3) ((hb3.block w2.heap.size (by simp)).trans (World.alloc_heap_new w2 _)))
      clear hb3 c0 c1 c2 c3 d0 d1 d2 q1 q2
      go_wp2_with fail
      refine (awake_any _).mono ?_
      rintro e w4 ⟨rfl, hb4⟩
      have hlt := lt_blk H3.out.2
      have h7 := op_cells ((hb4.block w2.heap.size (by simp; omega)).trans ((Below.heap_alloc w3 _ _ hlt).trans H3.out.2))
      have h9 := op_cells ((hb4.block w3.heap.size (by simp)).trans (World.alloc_heap_new w3 _))
      have HB4 := Lib.hid ((H3.out.1.below ((Below.refl _ _).alloc (Nat.le_refl _) _)).below hb4).1
      clear hb4 hlt
      obtain ⟨a0, a1, a2, a3, a4, a5, a6, a7, a8⟩ := h7
      obtain ⟨b0, b1, b2, b3, b4, b5, b6, b7, b8⟩ := h9
      go_wp2
      go_ret
      exact ⟨rfl, HB4.out⟩
    · have HK := Lib.hid hk
      clear hk
      obtain ⟨⟨q1, q2⟩, ⟨c0, c1, c2, c3⟩, d0, d1, d2⟩ := H1.out.cells
      go_wp2_with fail
      refine (after0 k _ side acc n _ _ _ w1 HK.out).mono ?_
      rintro e w2 ⟨rfl, hb2⟩
      have H2 := Lib.hid (H1.out.below hb2)
      clear hb2 c0 c1 c2 c3 d0 d1 d2 q1 q2
      obtain ⟨⟨q1, q2⟩, ⟨c0, c1, c2, c3⟩, d0, d1, d2⟩ := H2.out.cells
      go_wp2_with fail
      refine (ref0 k _ side acc n _ _ _ _ HK.out).mono ?_
      rintro e w3 ⟨rfl, hb3⟩
      have H3 := Lib.hid (And.intro ((H2.out.below ((Below.refl _ _).alloc (Nat.le_refl _) _)).below hb3) ((hb3.block w2.heap.size (by simp)).trans (World.alloc_heap_new w2 _)))
      clear hb3 c0 c1 c2 c3 d0 d1 d2 q1 q2
      go_wp2_with fail
      refine (awake_any _).mono ?_
      rintro e w4 ⟨rfl, hb4⟩
      have hlt := lt_blk H3.out.2
      have h7 := op_cells ((hb4.block w2.heap.size (by simp; omega)).trans ((Below.heap_alloc w3 _ _ hlt).trans H3.out.2))
      have h9 := op_cells ((hb4.block w3.heap.size (by simp)).trans (World.alloc_heap_new w3 _))
      have HB4 := Lib.hid ((H3.out.1.below ((Below.refl _ _).alloc (Nat.le_refl _) _)).below hb4).1
      clear hb4 hlt
      obtain ⟨a0, a1, a2, a3, a4, a5, a6, a7, a8⟩ := h7
      obtain ⟨b0, b1, b2, b3, b4, b5, b6, b7, b8⟩ := h9
      go_wp2
      go_ret
      exact ⟨rfl, HB4.out⟩
end Go.Proofs.Ytnidafgjbocfcaa.submitAfter
