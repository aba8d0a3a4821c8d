import Derived.Test.YtlpnecmcncekcaaGreatSm
/- Which of two entries of a row is ahead: Snapshot's closure. -/
namespace Go.Proofs.YtlpnecmcncekcaaGreat.Mk
open Go Go.RowKit

/-- the entry i of the row in block g stands under the key k -/
structure KeyAt (V : World) (g i : Nat) (k : K3) : Prop where
  c : V.cell? ⟨g, i * 5, none⟩ = some (.int .i64 k.c)
  f : V.cell? ⟨g, i * 5 + 1, none⟩ = some (.int .i64 k.f)
  s : V.cell? ⟨g, i * 5 + 2, none⟩ = some (.int .u64 k.s)
set_option maxRecDepth 20000 in
set_option maxHeartbeats 2000000 in
theorem snapLess (X g n c i j : Nat) (a b : K3) (W : World) (hX : W.heap[X]? = some (.cells #[.slice (some ⟨g, 0, none⟩) n c] 35 (0, 0))) (ha : KeyAt W g i a) (hb : KeyAt W g j b) (hi : i < n) (hj : j < n) :
    Calls Tryz.prog 48 #[.int .i64 i, .int .i64 j, .pointer (some ⟨X, 0, none⟩)] W fun e w' => e = .returned (.bool (ltK a b)) ∧ Below W.heap.size W w' := by
  have HL := Lib.hid (less_any a b W.drew)
  generalize ltK a b = r at HL ⊢
  obtain ⟨a1, a2, a3⟩ := a
  obtain ⟨b1, b2, b3⟩ := b
  unfold K3.val at HL
  have i0 : ¬ ((i : Int) < 0) := by omega
  have j0 : ¬ ((j : Int) < 0) := by omega
  go_enter Tryz.func48, Tryz.ntmps48
  go_upto_region 1 with fail
  refine wp_region_held_drew (S := (fun V => V.heap[X]? = some (.cells #[.slice (some ⟨g, 0, none⟩) n c] 35 (0, 0)) ∧ KeyAt V g i ⟨a1, a2, a3⟩ ∧ KeyAt V g j ⟨b1, b2, b3⟩)) (by kernel_rfl) ⟨hX, ⟨ha.c, ha.f, ha.s⟩, ⟨hb.c, hb.f, hb.s⟩⟩ (fun hHeld => ?_)
  refine wpAnyH_take (i := 0) (oi := _) (v := ?_) rfl (by kernel_rfl) (by kernel_rfl) (by kernel_rfl) (fun _ _ _ h => h) (Or.inl ⟨by rfl, ?_⟩) (by assumption) ?_
  rotate_left
  · (intro V hSw; have qx := cell_of_row V X 0 _ _ (0, 0) hSw.1; have q0 := hSw.2.1.c; have q1 := hSw.2.1.f; have q2 := hSw.2.1.s; have r0 := hSw.2.2.c; have r1 := hSw.2.2.f; have r2 := hSw.2.2.s; clear hSw; go_simp; try with_reducible rfl)
  try simp only [Act.put, List.getElem_toArray, List.getElem_cons_zero, List.setIfInBounds_toArray, List.set_cons_zero, List.set_cons_succ]
  refine wpAnyH_take (i := 1) (oi := _) (v := ?_) rfl (by kernel_rfl) (by kernel_rfl) (by kernel_rfl) (fun _ _ _ h => h) (Or.inl ⟨by rfl, ?_⟩) (by assumption) ?_
  rotate_left
  · (intro V hSw; have qx := cell_of_row V X 0 _ _ (0, 0) hSw.1; have q0 := hSw.2.1.c; have q1 := hSw.2.1.f; have q2 := hSw.2.1.s; have r0 := hSw.2.2.c; have r1 := hSw.2.2.f; have r2 := hSw.2.2.s; clear hSw; go_simp; try with_reducible rfl)
  try simp only [Act.put, List.getElem_toArray, List.getElem_cons_succ, List.getElem_cons_zero, List.setIfInBounds_toArray, List.set_cons_zero, List.set_cons_succ]
  refine wpAnyH_take (i := 2) (oi := _) (v := ?_) rfl (by kernel_rfl) (by kernel_rfl) (by kernel_rfl) (fun _ _ _ h => h) (Or.inl ⟨by rfl, ?_⟩) (by assumption) ?_
  rotate_left
  · (intro V hSw; have qx := cell_of_row V X 0 _ _ (0, 0) hSw.1; have q0 := hSw.2.1.c; have q1 := hSw.2.1.f; have q2 := hSw.2.1.s; have r0 := hSw.2.2.c; have r1 := hSw.2.2.f; have r2 := hSw.2.2.s; clear hSw; go_simp; try with_reducible rfl)
  try simp only [Act.put, List.getElem_toArray, List.getElem_cons_succ, List.getElem_cons_zero, List.setIfInBounds_toArray, List.set_cons_zero, List.set_cons_succ]
  refine wpAnyH_take (i := 3) (oi := _) (v := ?_) rfl (by kernel_rfl) (by kernel_rfl) (by kernel_rfl) (fun _ _ _ h => h) (Or.inl ⟨by rfl, ?_⟩) (by assumption) ?_
  rotate_left
  · (intro V hSw; have qx := cell_of_row V X 0 _ _ (0, 0) hSw.1; have q0 := hSw.2.1.c; have q1 := hSw.2.1.f; have q2 := hSw.2.1.s; have r0 := hSw.2.2.c; have r1 := hSw.2.2.f; have r2 := hSw.2.2.s; clear hSw; go_simp; try with_reducible rfl)
  try simp only [Act.put, List.getElem_toArray, List.getElem_cons_succ, List.getElem_cons_zero, List.setIfInBounds_toArray, List.set_cons_zero, List.set_cons_succ]
  refine wpAnyH_take (i := 4) (oi := _) (v := ?_) rfl (by kernel_rfl) (by kernel_rfl) (by kernel_rfl) (fun _ _ _ h => h) (Or.inl ⟨by rfl, ?_⟩) (by assumption) ?_
  rotate_left
  · (intro V hSw; have qx := cell_of_row V X 0 _ _ (0, 0) hSw.1; have q0 := hSw.2.1.c; have q1 := hSw.2.1.f; have q2 := hSw.2.1.s; have r0 := hSw.2.2.c; have r1 := hSw.2.2.f; have r2 := hSw.2.2.s; clear hSw; go_simp; try with_reducible rfl)
  try simp only [Act.put, List.getElem_toArray, List.getElem_cons_succ, List.getElem_cons_zero, List.setIfInBounds_toArray, List.set_cons_zero, List.set_cons_succ]
  refine wpAnyH_take (i := 5) (oi := _) (v := ?_) rfl (by kernel_rfl) (by kernel_rfl) (by kernel_rfl) (fun _ _ _ h => h) (Or.inl ⟨by rfl, ?_⟩) (by assumption) ?_
  rotate_left
  · (intro V hSw; have qx := cell_of_row V X 0 _ _ (0, 0) hSw.1; have q0 := hSw.2.1.c; have q1 := hSw.2.1.f; have q2 := hSw.2.1.s; have r0 := hSw.2.2.c; have r1 := hSw.2.2.f; have r2 := hSw.2.2.s; clear hSw; go_simp; try with_reducible rfl)
  try simp only [Act.put, List.getElem_toArray, List.getElem_cons_succ, List.getElem_cons_zero, List.setIfInBounds_toArray, List.set_cons_zero, List.set_cons_succ]
  refine wpAnyH_take (i := 6) (oi := _) (v := ?_) rfl (by kernel_rfl) (by kernel_rfl) (by kernel_rfl) (fun _ _ _ h => h) (Or.inl ⟨by rfl, ?_⟩) (by assumption) ?_
  rotate_left
  · (intro V hSw; have qx := cell_of_row V X 0 _ _ (0, 0) hSw.1; have q0 := hSw.2.1.c; have q1 := hSw.2.1.f; have q2 := hSw.2.1.s; have r0 := hSw.2.2.c; have r1 := hSw.2.2.f; have r2 := hSw.2.2.s; clear hSw; go_simp; try with_reducible rfl)
  try simp only [Act.put, List.getElem_toArray, List.getElem_cons_succ, List.getElem_cons_zero, List.setIfInBounds_toArray, List.set_cons_zero, List.set_cons_succ]
  refine wpAnyH_take (i := 7) (oi := _) (v := ?_) rfl (by kernel_rfl) (by kernel_rfl) (by kernel_rfl) (fun _ _ _ h => h) (Or.inl ⟨by rfl, ?_⟩) (by assumption) ?_
  rotate_left
  · (intro V hSw; have qx := cell_of_row V X 0 _ _ (0, 0) hSw.1; have q0 := hSw.2.1.c; have q1 := hSw.2.1.f; have q2 := hSw.2.1.s; have r0 := hSw.2.2.c; have r1 := hSw.2.2.f; have r2 := hSw.2.2.s; clear hSw; go_simp; try with_reducible rfl)
  try simp only [Act.put, List.getElem_toArray, List.getElem_cons_succ, List.getElem_cons_zero, List.setIfInBounds_toArray, List.set_cons_zero, List.set_cons_succ]
  refine wpAnyH_take (i := 8) (oi := _) (v := ?_) rfl (by kernel_rfl) (by kernel_rfl) (by kernel_rfl) (fun _ _ _ h => h) (Or.inl ⟨by rfl, ?_⟩) (by assumption) ?_
  rotate_left
  · (intro V hSw; have qx := cell_of_row V X 0 _ _ (0, 0) hSw.1; have q0 := hSw.2.1.c; have q1 := hSw.2.1.f; have q2 := hSw.2.1.s; have r0 := hSw.2.2.c; have r1 := hSw.2.2.f; have r2 := hSw.2.2.s; clear hSw; go_simp; try with_reducible rfl)
  try simp only [Act.put, List.getElem_toArray, List.getElem_cons_succ, List.getElem_cons_zero, List.setIfInBounds_toArray, List.set_cons_zero, List.set_cons_succ]
  refine wpAnyH_take (i := 9) (oi := _) (v := ?_) rfl (by kernel_rfl) (by kernel_rfl) (by kernel_rfl) (fun _ _ _ h => h) (Or.inl ⟨by rfl, ?_⟩) (by assumption) ?_
  rotate_left
  · (intro V hSw; have qx := cell_of_row V X 0 _ _ (0, 0) hSw.1; have q0 := hSw.2.1.c; have q1 := hSw.2.1.f; have q2 := hSw.2.1.s; have r0 := hSw.2.2.c; have r1 := hSw.2.2.f; have r2 := hSw.2.2.s; clear hSw; go_simp; try with_reducible rfl)
  try simp only [Act.put, List.getElem_toArray, List.getElem_cons_succ, List.getElem_cons_zero, List.setIfInBounds_toArray, List.set_cons_zero, List.set_cons_succ]
  refine wpAnyH_ready (rs := [10]) (by kernel_rfl) (by simp) ?_
  refine AllReadyH.cons rfl (fun K hK => ?_) AllReadyH.nil
  simp only [List.getElem_toArray, List.getElem_cons_succ, List.getElem_cons_zero]
  rw [if_pos (by rfl)]
  go_simp
  refine HL.out.mono ?_
  rintro _ w1 ⟨rfl, hB⟩
  go_wp2_with fail
  refine hK.out _ _ ⟨(hB.block _ (Array.getElem?_eq_some_iff.1 hX).1).trans hX, ⟨(hB.cell (World.block_lt_of_cell? _ _ ha.c)).trans ha.c, (hB.cell (World.block_lt_of_cell? _ _ ha.f)).trans ha.f, (hB.cell (World.block_lt_of_cell? _ _ ha.s)).trans ha.s⟩, ⟨(hB.cell (World.block_lt_of_cell? _ _ hb.c)).trans hb.c, (hB.cell (World.block_lt_of_cell? _ _ hb.f)).trans hb.f, (hB.cell (World.block_lt_of_cell? _ _ hb.s)).trans hb.s⟩⟩ (fun hHeld => ?_)
  clear hK K
  try simp only [Act.put, List.getElem_toArray, List.getElem_cons_succ, List.getElem_cons_zero, List.setIfInBounds_toArray, List.set_cons_zero, List.set_cons_succ]
  refine wpAnyH_take (i := 11) (oi := _) (v := ?_) rfl (by kernel_rfl) (by kernel_rfl) (by kernel_rfl) (fun _ _ _ h => h) (Or.inl ⟨by rfl, ?_⟩) (by assumption) ?_
  rotate_left
  · (intro V hSw; (try dsimp only at hSw); clear hSw; go_simp; try with_reducible rfl)
  try simp only [Act.put, List.getElem_toArray, List.getElem_cons_succ, List.getElem_cons_zero, List.setIfInBounds_toArray, List.set_cons_zero, List.set_cons_succ]
  refine wpAnyH_done (by kernel_rfl) ?_ _
  go_wp2
  go_ret
  exact ⟨rfl, (Below.refl _ W).drew.trans hB⟩
end Go.Proofs.YtlpnecmcncekcaaGreat.Mk
