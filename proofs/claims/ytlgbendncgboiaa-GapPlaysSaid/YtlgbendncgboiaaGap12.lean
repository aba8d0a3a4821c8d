/- gap: Take of a part. -/
import Derived.Test.YtlgbendncgboiaaGap11
namespace Go.Proofs.Ytlgbendncgboiaa.Gp
open Go Go.RowKit

set_option maxRecDepth 20000 in
set_option maxHeartbeats 4000000 in
theorem take_part (B HH : Nat) (v : Value) (W : World) (h : HpO B W HH v [(3, 3), (9, 1)]) (hB : B ≤ W.heap.size) :
    Calls Try.prog 10 #[.pointer (some ⟨HH, 0, none⟩), .int .u64 2] W fun e w' => e = .returned (.tuple #[.int .u64 3, .int .u64 2, .int .i64 0]) ∧ ∃ v', HpO B w' HH v' [(5, 1), (9, 1)] ∧ Below B W w' ∧ Fr HH v v' W w' := by
  obtain ⟨g, cap, rfl, ht⟩ := two_of h
  have c0 := cell_of_row W HH 0 _ _ (0, 0) h.box
  have d0 := ht.c.1
  have d1 := ht.c.2.1
  have hX := heap_alloc_new W (.cells #[.int .u64 3, .int .u64 3] TRn)
  have b1 := (Below.refl W.heap.size W).alloc (Nat.le_refl _) (.cells #[.int .u64 3, .int .u64 3] TRn)
  obtain ⟨w1, hw1⟩ : ∃ X, X = W.alloc (.cells #[.int .u64 3, .int .u64 3] TRn) := ⟨_, rfl⟩
  rw [← hw1] at hX b1
  have h1 := h.below b1
  have x0 := cell_of_row w1 W.heap.size 0 _ _ (0, 0) hX
  have x1 := cell_of_row w1 W.heap.size 1 _ _ (0, 0) hX
  have hgW : g < W.heap.size := (row_is h.row).1
  have hHg : HH ≠ g := fun e => own_apart2 h.row h.box (by decide) (by rw [e]; rfl)
  obtain ⟨r, hh, hlow, r1, r2, r3⟩ := two_cells h1.row
  have e0 : w1.cell? ⟨g, 0, none⟩ = some (.int .u64 3) := cell_of_row w1 g 0 _ _ (0, 0) hh
  have e1 : w1.cell? ⟨g, 1, none⟩ = some (.int .u64 3) := cell_of_row w1 g 1 _ _ (0, 0) hh
  have ef : ∀ i, w1.frozen? ⟨g, i, none⟩ = false := fun i => by simp [World.frozen?, hh]
  have hrow : ((w1.drew.setCell ⟨g, 0, none⟩ (.int .u64 5)).setCell ⟨g, 1, none⟩ (.int .u64 1)).ownsRow B TRn 2 (.slice (some ⟨g, 0, none⟩) 2 cap) 2 (rc [(5, 1), (9, 1)]) :=
    ⟨rfl, Or.inr ⟨g, cap, ⟨cs4 (5, 1) (9, 1) ++ r⟩, rfl, hlow, setCell_at _ (setCell_at (V := w1.drew) _ hh), r1, r2, r3, rfl⟩⟩
  have hbox : ((w1.drew.setCell ⟨g, 0, none⟩ (.int .u64 5)).setCell ⟨g, 1, none⟩ (.int .u64 1)).heap[HH]? = some (.cells #[.slice (some ⟨g, 0, none⟩) 2 cap] THp (0, 0)) := by rw [Below.heap_setCell _ _ _ _ hHg, Below.heap_setCell _ _ _ _ hHg]; exact h1.box
  have hlo : ((w1.drew.setCell ⟨g, 0, none⟩ (.int .u64 5)).setCell ⟨g, 1, none⟩ (.int .u64 1)).heap[W.heap.size]? = some (.cells #[.int .u64 3, .int .u64 3] TRn (0, 0)) := by rw [Below.heap_setCell _ _ _ _ (by show W.heap.size ≠ g; omega), Below.heap_setCell _ _ _ _ (by show W.heap.size ≠ g; omega)]; exact hX
  have HE : Hid (HpO B ((w1.drew.setCell ⟨g, 0, none⟩ (.int .u64 5)).setCell ⟨g, 1, none⟩ (.int .u64 1)) HH (.slice (some ⟨g, 0, none⟩) 2 cap) [(5, 1), (9, 1)] ∧ Below B W ((w1.drew.setCell ⟨g, 0, none⟩ (.int .u64 5)).setCell ⟨g, 1, none⟩ (.int .u64 1)) ∧ ((w1.drew.setCell ⟨g, 0, none⟩ (.int .u64 5)).setCell ⟨g, 1, none⟩ (.int .u64 1)).heap[HH]? = some (.cells #[.slice (some ⟨g, 0, none⟩) 2 cap] THp (0, 0)) ∧ ((w1.drew.setCell ⟨g, 0, none⟩ (.int .u64 5)).setCell ⟨g, 1, none⟩ (.int .u64 1)).heap[W.heap.size]? = some (.cells #[.int .u64 3, .int .u64 3] TRn (0, 0))) :=
    Lib.hid ⟨⟨hbox, h.low, hrow, by simp⟩, Below.setCell (p := ⟨g, 1, none⟩) (Below.setCell (p := ⟨g, 0, none⟩) (b1.drew.mono hB) hlow _) hlow _, hbox, hlo⟩
  have HX := Lib.hid (And.intro h1.box hX)
  have HFr : Hid (Fr HH (.slice (some ⟨g, 0, none⟩) 2 cap) (.slice (some ⟨g, 0, none⟩) 2 cap) W ((w1.drew.setCell ⟨g, 0, none⟩ (.int .u64 5)).setCell ⟨g, 1, none⟩ (.int .u64 1))) := Lib.hid ⟨b1.os, b1.tape, b1.output, by simpa using b1.size, fun k hk _ h9 => by
    have hk9 : k ≠ g := fun e => h9 (by rw [e]; rfl)
    rw [Below.heap_setCell _ _ _ _ hk9, Below.heap_setCell _ _ _ _ hk9]
    exact b1.block k hk, Or.inl rfl⟩
  dsimp only at d0 d1
  clear hrow hbox hlo hh hlow r1 r2 r3 h1 b1 h ht hB hX
  go_enter Try.func10, Try.ntmps10
  go_upto_region 6 with fail
  rw [← hw1]
  clear hw1
  go_upto_region 9 with fail
  clear c0 d0 d1
  refine wp_region_held_drew (S := (fun V => V.heap[HH]? = some (.cells #[.slice (some ⟨g, 0, none⟩) 2 cap] THp (0, 0)) ∧ V.heap[W.heap.size]? = some (.cells #[.int .u64 3, .int .u64 3] TRn (0, 0)))) (by kernel_rfl) HX.out (fun hHeld => ?_)
  refine wpAnyH_take (i := 0) (oi := _) (v := ?_) rfl (by kernel_rfl) (by kernel_rfl) (by kernel_rfl) (fun _ _ _ h => h) (Or.inl ⟨by rfl, ?_⟩) (by assumption) ?_
  rotate_left
  · (intro W hSw; (try dsimp only at hSw); go_simp; try with_reducible rfl)
  try simp only [Act.put, List.getElem_toArray, List.getElem_cons_zero, List.setIfInBounds_toArray, List.set_cons_zero, List.set_cons_succ]
  refine wpAnyH_take (i := 1) (oi := _) (v := ?_) rfl (by kernel_rfl) (by kernel_rfl) (by kernel_rfl) (fun _ _ _ h => h) (Or.inl ⟨by rfl, ?_⟩) (by assumption) ?_
  rotate_left
  · (intro W hSw; (try dsimp only at hSw); go_simp; try with_reducible rfl)
  try simp only [Act.put, List.getElem_toArray, List.getElem_cons_succ, List.getElem_cons_zero, List.setIfInBounds_toArray, List.set_cons_zero, List.set_cons_succ]
  refine wpAnyH_take (i := 2) (oi := _) (v := ?_) rfl (by kernel_rfl) (by kernel_rfl) (by kernel_rfl) (fun _ _ _ h => h) (Or.inl ⟨by rfl, ?_⟩) (by assumption) ?_
  rotate_left
  · (intro W hSw; (try dsimp only at hSw); go_simp; try with_reducible rfl)
  try simp only [Act.put, List.getElem_toArray, List.getElem_cons_succ, List.getElem_cons_zero, List.setIfInBounds_toArray, List.set_cons_zero, List.set_cons_succ]
  refine wpAnyH_take (i := 3) (oi := _) (v := ?_) rfl (by kernel_rfl) (by kernel_rfl) (by kernel_rfl) (fun _ _ _ h => h) (Or.inl ⟨by rfl, ?_⟩) (by assumption) ?_
  rotate_left
  · (intro V hSw; have q0 := cell_of_row V HH 0 _ _ (0, 0) hSw.1; have q1 := cell_of_row V W.heap.size 0 _ _ (0, 0) hSw.2; have q2 := cell_of_row V W.heap.size 1 _ _ (0, 0) hSw.2; clear hSw; go_simp; try with_reducible rfl)
  try simp only [Act.put, List.getElem_toArray, List.getElem_cons_succ, List.getElem_cons_zero, List.setIfInBounds_toArray, List.set_cons_zero, List.set_cons_succ]
  refine wpAnyH_take (i := 4) (oi := _) (v := ?_) rfl (by kernel_rfl) (by kernel_rfl) (by kernel_rfl) (fun _ _ _ h => h) (Or.inl ⟨by rfl, ?_⟩) (by assumption) ?_
  rotate_left
  · (intro W hSw; (try dsimp only at hSw); go_simp; try with_reducible rfl)
  try simp only [Act.put, List.getElem_toArray, List.getElem_cons_succ, List.getElem_cons_zero, List.setIfInBounds_toArray, List.set_cons_zero, List.set_cons_succ]
  refine wpAnyH_take (i := 5) (oi := _) (v := ?_) rfl (by kernel_rfl) (by kernel_rfl) (by kernel_rfl) (fun _ _ _ h => h) (Or.inl ⟨by rfl, ?_⟩) (by assumption) ?_
  rotate_left
  · (intro V hSw; have q0 := cell_of_row V HH 0 _ _ (0, 0) hSw.1; have q1 := cell_of_row V W.heap.size 0 _ _ (0, 0) hSw.2; have q2 := cell_of_row V W.heap.size 1 _ _ (0, 0) hSw.2; clear hSw; go_simp; try with_reducible rfl)
  try simp only [Act.put, List.getElem_toArray, List.getElem_cons_succ, List.getElem_cons_zero, List.setIfInBounds_toArray, List.set_cons_zero, List.set_cons_succ]
  refine wpAnyH_take (i := 6) (oi := _) (v := ?_) rfl (by kernel_rfl) (by kernel_rfl) (by kernel_rfl) (fun _ _ _ h => h) (Or.inl ⟨by rfl, ?_⟩) (by assumption) ?_
  rotate_left
  · (intro W hSw; (try dsimp only at hSw); go_simp; try with_reducible rfl)
  try simp only [Act.put, List.getElem_toArray, List.getElem_cons_succ, List.getElem_cons_zero, List.setIfInBounds_toArray, List.set_cons_zero, List.set_cons_succ]
  refine wpAnyH_take (i := 7) (oi := _) (v := ?_) rfl (by kernel_rfl) (by kernel_rfl) (by kernel_rfl) (fun _ _ _ h => h) (Or.inl ⟨by rfl, ?_⟩) (by assumption) ?_
  rotate_left
  · (intro W hSw; (try dsimp only at hSw); go_simp; try with_reducible rfl)
  try simp only [Act.put, List.getElem_toArray, List.getElem_cons_succ, List.getElem_cons_zero, List.setIfInBounds_toArray, List.set_cons_zero, List.set_cons_succ]
  refine wpAnyH_take (i := 8) (oi := _) (v := ?_) rfl (by kernel_rfl) (by kernel_rfl) (by kernel_rfl) (fun _ _ _ h => h) (Or.inl ⟨by rfl, ?_⟩) (by assumption) ?_
  rotate_left
  · (intro W hSw; (try dsimp only at hSw); go_simp; try with_reducible rfl)
  try simp only [Act.put, List.getElem_toArray, List.getElem_cons_succ, List.getElem_cons_zero, List.setIfInBounds_toArray, List.set_cons_zero, List.set_cons_succ]
  refine wpAnyH_take (i := 9) (oi := _) (v := ?_) rfl (by kernel_rfl) (by kernel_rfl) (by kernel_rfl) (fun _ _ _ h => h) (Or.inl ⟨by rfl, ?_⟩) (by assumption) ?_
  rotate_left
  · (intro V hSw; have q0 := cell_of_row V HH 0 _ _ (0, 0) hSw.1; have q1 := cell_of_row V W.heap.size 0 _ _ (0, 0) hSw.2; have q2 := cell_of_row V W.heap.size 1 _ _ (0, 0) hSw.2; clear hSw; go_simp; try with_reducible rfl)
  try simp only [Act.put, List.getElem_toArray, List.getElem_cons_succ, List.getElem_cons_zero, List.setIfInBounds_toArray, List.set_cons_zero, List.set_cons_succ]
  refine wpAnyH_take (i := 10) (oi := _) (v := ?_) rfl (by kernel_rfl) (by kernel_rfl) (by kernel_rfl) (fun _ _ _ h => h) (Or.inl ⟨by rfl, ?_⟩) (by assumption) ?_
  rotate_left
  · (intro W hSw; (try dsimp only at hSw); go_simp; try with_reducible rfl)
  try simp only [Act.put, List.getElem_toArray, List.getElem_cons_succ, List.getElem_cons_zero, List.setIfInBounds_toArray, List.set_cons_zero, List.set_cons_succ]
  refine wpAnyH_take (i := 11) (oi := _) (v := ?_) rfl (by kernel_rfl) (by kernel_rfl) (by kernel_rfl) (fun _ _ _ h => h) (Or.inl ⟨by rfl, ?_⟩) (by assumption) ?_
  rotate_left
  · (intro W hSw; (try dsimp only at hSw); go_simp; try with_reducible rfl)
  try simp only [Act.put, List.getElem_toArray, List.getElem_cons_succ, List.getElem_cons_zero, List.setIfInBounds_toArray, List.set_cons_zero, List.set_cons_succ]
  refine wpAnyH_take (i := 12) (oi := _) (v := ?_) rfl (by kernel_rfl) (by kernel_rfl) (by kernel_rfl) (fun _ _ _ h => h) (Or.inl ⟨by rfl, ?_⟩) (by assumption) ?_
  rotate_left
  · (intro W hSw; (try dsimp only at hSw); go_simp; try with_reducible rfl)
  try simp only [Act.put, List.getElem_toArray, List.getElem_cons_succ, List.getElem_cons_zero, List.setIfInBounds_toArray, List.set_cons_zero, List.set_cons_succ]
  refine wpAnyH_take (i := 13) (oi := _) (v := ?_) rfl (by kernel_rfl) (by kernel_rfl) (by kernel_rfl) (fun _ _ _ h => h) (Or.inl ⟨by rfl, ?_⟩) (by assumption) ?_
  rotate_left
  · (intro W hSw; (try dsimp only at hSw); go_simp; try with_reducible rfl)
  try simp only [Act.put, List.getElem_toArray, List.getElem_cons_succ, List.getElem_cons_zero, List.setIfInBounds_toArray, List.set_cons_zero, List.set_cons_succ]
  refine wpAnyH_ready (rs := [14]) (by kernel_rfl) (by simp) ?_
  refine AllReadyH.cons rfl (fun K hK => ?_) AllReadyH.nil
  simp only [List.getElem_toArray, List.getElem_cons_succ, List.getElem_cons_zero]
  rw [if_pos (by rfl)]
  go_simp
  refine hK.out _ _ HE.out.2.2 (fun hHeld => ?_)
  clear hK K
  try simp only [Act.put, List.getElem_toArray, List.getElem_cons_succ, List.getElem_cons_zero, List.setIfInBounds_toArray, List.set_cons_zero, List.set_cons_succ]
  refine wpAnyH_done (by kernel_rfl) ?_ _
  have HE2 : Hid (HpO B ((w1.setCell ⟨g, 0, none⟩ (.int .u64 5)).setCell ⟨g, 1, none⟩ (.int .u64 1)).drew HH (.slice (some ⟨g, 0, none⟩) 2 cap) [(5, 1), (9, 1)] ∧ Below B W ((w1.setCell ⟨g, 0, none⟩ (.int .u64 5)).setCell ⟨g, 1, none⟩ (.int .u64 1)).drew ∧ ((w1.setCell ⟨g, 0, none⟩ (.int .u64 5)).setCell ⟨g, 1, none⟩ (.int .u64 1)).drew.heap[HH]? = some (.cells #[.slice (some ⟨g, 0, none⟩) 2 cap] THp (0, 0)) ∧ ((w1.setCell ⟨g, 0, none⟩ (.int .u64 5)).setCell ⟨g, 1, none⟩ (.int .u64 1)).drew.heap[W.heap.size]? = some (.cells #[.int .u64 3, .int .u64 3] TRn (0, 0))) := HE
  clear HE
  have hne1 : ¬ W.heap.size = g := by omega
  have hne2 : ¬ g = W.heap.size := by omega
  have y0 : ((w1.setCell ⟨g, 0, none⟩ (.int .u64 5)).setCell ⟨g, 1, none⟩ (.int .u64 1)).drew.cell? ⟨W.heap.size, 0, none⟩ = some (.int .u64 3) := cell_of_row _ W.heap.size 0 _ _ (0, 0) HE2.out.2.2.2
  clear e0 e1 ef hHeld
  go_wp2
  refine bodyPost_ret (results_tmp3 rfl _ _ _) rfl ?_
  exact ⟨rfl, _, HE2.out.1, HE2.out.2.1, HFr.out⟩
end Go.Proofs.Ytlgbendncgboiaa.Gp
