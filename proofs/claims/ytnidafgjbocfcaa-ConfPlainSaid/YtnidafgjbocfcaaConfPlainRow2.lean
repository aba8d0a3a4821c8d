/- conf.Plain of too few and of too many. -/
import Derived.Test.YtnidafgjbocfcaaConfPlainRow
namespace Go.Proofs.Ytnidafgjbocfcaa.Conf
open Go.RowKit

set_option maxRecDepth 20000 in
set_option maxHeartbeats 1000000 in
theorem plain_low (n : Int) (hn : n < 0) (a : Int) (w : World) :
    Calls Try.prog 27 #[.int .i64 (n), .int .i64 a] w fun e w' => ∃ A cap, e = .returned (.agg (plain A (0) cap a).cells) ∧ w'.ownsRow w.heap.size 4 1 (.slice A (0) cap) (0) (bools (0)) ∧ Below w.heap.size w w' := by
  obtain ⟨i0, hi, hz0, hz1, hz2⟩ := info_parts infoB
  go_enter Try.func27, Try.ntmps27
  go_wp2
  go_loopw [5, 10] (fun v i wr => ∃ k : Nat, i = .int .i64 (k : Int) ∧ k ≤ 0 ∧ wr.ownsRow (w.heap.size + 1) 4 1 v k (bools k) ∧ Hid (Below w.heap.size w wr ∧ wr.heap[w.heap.size]? = some (.cells #[.slice none 0 0, .int .i64 0, .int .i64 0, .int .i64 0, .int .i64 0, .int .i64 0, .int .i64 0, .int .i64 0, .int .i64 0, .int .i64 0, .int .i64 0, .int .u64 0] 53 (0, 0))) ∧ w.heap.size < wr.heap.size)
    (fun _ i _ => 0 - (intOf i).toNat)
  case atStart => exact ⟨0, rfl, Nat.zero_le _, World.ownsRow_nil _ _ _ _, Lib.hid ⟨(Below.refl _ _).alloc (Nat.le_refl _) _, heap_alloc_new w _⟩, by simp⟩
  case round =>
    obtain ⟨k, rfl, hk, hown, H, hz⟩ := hrel
    obtain ⟨A, c, rfl⟩ := own_form hown
    by_cases hlt : k < 0
    · exact absurd hlt (Nat.not_lt_zero _)
    · obtain rfl : k = 0 := by omega
      have hB := H.out.1
      have x0 : wr.cell? ⟨w.heap.size, 0, none⟩ = some (.slice none 0 0) := cell_of_row wr _ 0 _ _ (0, 0) H.out.2
      have f0 : wr.frozen? ⟨w.heap.size, 0, none⟩ = false := by simp [World.frozen?, H.out.2]
      have x1 : wr.cell? ⟨w.heap.size, 1, none⟩ = some (.int .i64 0) := cell_of_row wr _ 1 _ _ (0, 0) H.out.2
      have f1 : wr.frozen? ⟨w.heap.size, 1, none⟩ = false := by simp [World.frozen?, H.out.2]
      have x2 : wr.cell? ⟨w.heap.size, 2, none⟩ = some (.int .i64 0) := cell_of_row wr _ 2 _ _ (0, 0) H.out.2
      have f2 : wr.frozen? ⟨w.heap.size, 2, none⟩ = false := by simp [World.frozen?, H.out.2]
      have x3 : wr.cell? ⟨w.heap.size, 3, none⟩ = some (.int .i64 0) := cell_of_row wr _ 3 _ _ (0, 0) H.out.2
      have f3 : wr.frozen? ⟨w.heap.size, 3, none⟩ = false := by simp [World.frozen?, H.out.2]
      have x4 : wr.cell? ⟨w.heap.size, 4, none⟩ = some (.int .i64 0) := cell_of_row wr _ 4 _ _ (0, 0) H.out.2
      have f4 : wr.frozen? ⟨w.heap.size, 4, none⟩ = false := by simp [World.frozen?, H.out.2]
      have x5 : wr.cell? ⟨w.heap.size, 5, none⟩ = some (.int .i64 0) := cell_of_row wr _ 5 _ _ (0, 0) H.out.2
      have f5 : wr.frozen? ⟨w.heap.size, 5, none⟩ = false := by simp [World.frozen?, H.out.2]
      have x6 : wr.cell? ⟨w.heap.size, 6, none⟩ = some (.int .i64 0) := cell_of_row wr _ 6 _ _ (0, 0) H.out.2
      have f6 : wr.frozen? ⟨w.heap.size, 6, none⟩ = false := by simp [World.frozen?, H.out.2]
      have x7 : wr.cell? ⟨w.heap.size, 7, none⟩ = some (.int .i64 0) := cell_of_row wr _ 7 _ _ (0, 0) H.out.2
      have f7 : wr.frozen? ⟨w.heap.size, 7, none⟩ = false := by simp [World.frozen?, H.out.2]
      have x8 : wr.cell? ⟨w.heap.size, 8, none⟩ = some (.int .i64 0) := cell_of_row wr _ 8 _ _ (0, 0) H.out.2
      have f8 : wr.frozen? ⟨w.heap.size, 8, none⟩ = false := by simp [World.frozen?, H.out.2]
      have x9 : wr.cell? ⟨w.heap.size, 9, none⟩ = some (.int .i64 0) := cell_of_row wr _ 9 _ _ (0, 0) H.out.2
      have f9 : wr.frozen? ⟨w.heap.size, 9, none⟩ = false := by simp [World.frozen?, H.out.2]
      have x10 : wr.cell? ⟨w.heap.size, 10, none⟩ = some (.int .i64 0) := cell_of_row wr _ 10 _ _ (0, 0) H.out.2
      have f10 : wr.frozen? ⟨w.heap.size, 10, none⟩ = false := by simp [World.frozen?, H.out.2]
      have x11 : wr.cell? ⟨w.heap.size, 11, none⟩ = some (.int .u64 0) := cell_of_row wr _ 11 _ _ (0, 0) H.out.2
      have f11 : wr.frozen? ⟨w.heap.size, 11, none⟩ = false := by simp [World.frozen?, H.out.2]
      go_wp2
      refine bodyPost_ret (v := .agg (plain A (0) c a).cells) (by simp [results, Try.results27, go_sem, plain, Cfg.cells, x0, x1, x2, x3, x4, x5, x6, x7, x8, x9, x10, x11]) rfl ?_
      exact ⟨A, c, rfl, own_low (own_setlow (own_setlow (own_setlow (own_setlow (own_setlow (own_setlow (own_setlow (own_setlow (own_setlow (own_setlow (own_setlow (own_setlow hown (Nat.lt_succ_self _)) (Nat.lt_succ_self _)) (Nat.lt_succ_self _)) (Nat.lt_succ_self _)) (Nat.lt_succ_self _)) (Nat.lt_succ_self _)) (Nat.lt_succ_self _)) (Nat.lt_succ_self _)) (Nat.lt_succ_self _)) (Nat.lt_succ_self _)) (Nat.lt_succ_self _)) (Nat.lt_succ_self _)) (Nat.le_succ _), (Below.setCell (p := ⟨w.heap.size, 11, none⟩) (Below.setCell (p := ⟨w.heap.size, 10, none⟩) (Below.setCell (p := ⟨w.heap.size, 9, none⟩) (Below.setCell (p := ⟨w.heap.size, 8, none⟩) (Below.setCell (p := ⟨w.heap.size, 7, none⟩) (Below.setCell (p := ⟨w.heap.size, 6, none⟩) (Below.setCell (p := ⟨w.heap.size, 5, none⟩) (Below.setCell (p := ⟨w.heap.size, 4, none⟩) (Below.setCell (p := ⟨w.heap.size, 3, none⟩) (Below.setCell (p := ⟨w.heap.size, 2, none⟩) (Below.setCell (p := ⟨w.heap.size, 1, none⟩) (Below.setCell (p := ⟨w.heap.size, 0, none⟩) hB (Nat.le_refl _) _) (Nat.le_refl _) _) (Nat.le_refl _) _) (Nat.le_refl _) _) (Nat.le_refl _) _) (Nat.le_refl _) _) (Nat.le_refl _) _) (Nat.le_refl _) _) (Nat.le_refl _) _) (Nat.le_refl _) _) (Nat.le_refl _) _) (Nat.le_refl _) _)⟩

set_option maxRecDepth 20000 in
set_option maxHeartbeats 1000000 in
theorem plain_high (n : Int) (hn : 4 < n) (a : Int) (w : World) :
    Calls Try.prog 27 #[.int .i64 (n), .int .i64 a] w fun e w' => ∃ A cap, e = .returned (.agg (plain A (4) cap a).cells) ∧ w'.ownsRow w.heap.size 4 1 (.slice A (4) cap) (4) (bools (4)) ∧ Below w.heap.size w w' := by
  obtain ⟨i0, hi, hz0, hz1, hz2⟩ := info_parts infoB
  go_enter Try.func27, Try.ntmps27
  go_wp2
  go_loopw [5, 10] (fun v i wr => ∃ k : Nat, i = .int .i64 (k : Int) ∧ k ≤ 4 ∧ wr.ownsRow (w.heap.size + 1) 4 1 v k (bools k) ∧ Hid (Below w.heap.size w wr ∧ wr.heap[w.heap.size]? = some (.cells #[.slice none 0 0, .int .i64 0, .int .i64 0, .int .i64 0, .int .i64 0, .int .i64 0, .int .i64 0, .int .i64 0, .int .i64 0, .int .i64 0, .int .i64 0, .int .u64 0] 53 (0, 0))) ∧ w.heap.size < wr.heap.size)
    (fun _ i _ => 4 - (intOf i).toNat)
  case atStart => exact ⟨0, rfl, Nat.zero_le _, World.ownsRow_nil _ _ _ _, Lib.hid ⟨(Below.refl _ _).alloc (Nat.le_refl _) _, heap_alloc_new w _⟩, by simp⟩
  case round =>
    obtain ⟨k, rfl, hk, hown, H, hz⟩ := hrel
    obtain ⟨A, c, rfl⟩ := own_form hown
    by_cases hlt : k < 4
    · have hw : wrap64 ((k : Int).tmod 2) = (k : Int) % 2 := by rw [Int.tmod_eq_emod_of_nonneg (by omega)]; exact IntWalk.wrap64_in _ ⟨by omega, by omega⟩
      have hk0 : (0 : Int) ≤ (k : Int) := by omega
      have hk4 : (k : Int) < 4 := by omega
      go_wp2_with (at_builtin; refine wpList_append_own _ rfl _ _ 51 rfl (w.heap.size + 1) 4 i0 (.bool false) 1 1 Try.underlying51 hi hz0 hz1 hz2 rfl (by decide) _ _ _ rfl (hown.alloc _) ⟨wr.heap.size, 0, none⟩ 1 1 [.bool ((k : Int) % 2 == 1)] rfl rfl (cell_one_new _ _ _) (one_one rfl) (by unfold maxLen; omega) (by omega) (by simp; omega) ?_; intro v1 w2 hown1 hg1 _)
      have hbox := own_keeps (hown.alloc (.cells #[.bool ((k : Int) % 2 == 1)] 4)) (Nat.lt_succ_self _) ((Below.heap_alloc _ _ _ hz).trans H.out.2) hg1
      refine ⟨⟨k + 1, by go_num, by omega, ?_, Lib.hid ⟨below_push H.out.1 (Nat.le_of_lt hz) (own_low hown (Nat.le_succ _)) hg1, hbox⟩, ?_⟩, by simp [intOf]; omega⟩
      · rw [bools_succ]
        exact hown1
      · have := hg1.size
        simp at this
        omega
    · obtain rfl : k = 4 := by omega
      have hB := H.out.1
      have x0 : wr.cell? ⟨w.heap.size, 0, none⟩ = some (.slice none 0 0) := cell_of_row wr _ 0 _ _ (0, 0) H.out.2
      have f0 : wr.frozen? ⟨w.heap.size, 0, none⟩ = false := by simp [World.frozen?, H.out.2]
      have x1 : wr.cell? ⟨w.heap.size, 1, none⟩ = some (.int .i64 0) := cell_of_row wr _ 1 _ _ (0, 0) H.out.2
      have f1 : wr.frozen? ⟨w.heap.size, 1, none⟩ = false := by simp [World.frozen?, H.out.2]
      have x2 : wr.cell? ⟨w.heap.size, 2, none⟩ = some (.int .i64 0) := cell_of_row wr _ 2 _ _ (0, 0) H.out.2
      have f2 : wr.frozen? ⟨w.heap.size, 2, none⟩ = false := by simp [World.frozen?, H.out.2]
      have x3 : wr.cell? ⟨w.heap.size, 3, none⟩ = some (.int .i64 0) := cell_of_row wr _ 3 _ _ (0, 0) H.out.2
      have f3 : wr.frozen? ⟨w.heap.size, 3, none⟩ = false := by simp [World.frozen?, H.out.2]
      have x4 : wr.cell? ⟨w.heap.size, 4, none⟩ = some (.int .i64 0) := cell_of_row wr _ 4 _ _ (0, 0) H.out.2
      have f4 : wr.frozen? ⟨w.heap.size, 4, none⟩ = false := by simp [World.frozen?, H.out.2]
      have x5 : wr.cell? ⟨w.heap.size, 5, none⟩ = some (.int .i64 0) := cell_of_row wr _ 5 _ _ (0, 0) H.out.2
      have f5 : wr.frozen? ⟨w.heap.size, 5, none⟩ = false := by simp [World.frozen?, H.out.2]
      have x6 : wr.cell? ⟨w.heap.size, 6, none⟩ = some (.int .i64 0) := cell_of_row wr _ 6 _ _ (0, 0) H.out.2
      have f6 : wr.frozen? ⟨w.heap.size, 6, none⟩ = false := by simp [World.frozen?, H.out.2]
      have x7 : wr.cell? ⟨w.heap.size, 7, none⟩ = some (.int .i64 0) := cell_of_row wr _ 7 _ _ (0, 0) H.out.2
      have f7 : wr.frozen? ⟨w.heap.size, 7, none⟩ = false := by simp [World.frozen?, H.out.2]
      have x8 : wr.cell? ⟨w.heap.size, 8, none⟩ = some (.int .i64 0) := cell_of_row wr _ 8 _ _ (0, 0) H.out.2
      have f8 : wr.frozen? ⟨w.heap.size, 8, none⟩ = false := by simp [World.frozen?, H.out.2]
      have x9 : wr.cell? ⟨w.heap.size, 9, none⟩ = some (.int .i64 0) := cell_of_row wr _ 9 _ _ (0, 0) H.out.2
      have f9 : wr.frozen? ⟨w.heap.size, 9, none⟩ = false := by simp [World.frozen?, H.out.2]
      have x10 : wr.cell? ⟨w.heap.size, 10, none⟩ = some (.int .i64 0) := cell_of_row wr _ 10 _ _ (0, 0) H.out.2
      have f10 : wr.frozen? ⟨w.heap.size, 10, none⟩ = false := by simp [World.frozen?, H.out.2]
      have x11 : wr.cell? ⟨w.heap.size, 11, none⟩ = some (.int .u64 0) := cell_of_row wr _ 11 _ _ (0, 0) H.out.2
      have f11 : wr.frozen? ⟨w.heap.size, 11, none⟩ = false := by simp [World.frozen?, H.out.2]
      go_wp2
      refine bodyPost_ret (v := .agg (plain A (4) c a).cells) (by simp [results, Try.results27, go_sem, plain, Cfg.cells, x0, x1, x2, x3, x4, x5, x6, x7, x8, x9, x10, x11]) rfl ?_
      exact ⟨A, c, rfl, own_low (own_setlow (own_setlow (own_setlow (own_setlow (own_setlow (own_setlow (own_setlow (own_setlow (own_setlow (own_setlow (own_setlow (own_setlow hown (Nat.lt_succ_self _)) (Nat.lt_succ_self _)) (Nat.lt_succ_self _)) (Nat.lt_succ_self _)) (Nat.lt_succ_self _)) (Nat.lt_succ_self _)) (Nat.lt_succ_self _)) (Nat.lt_succ_self _)) (Nat.lt_succ_self _)) (Nat.lt_succ_self _)) (Nat.lt_succ_self _)) (Nat.lt_succ_self _)) (Nat.le_succ _), (Below.setCell (p := ⟨w.heap.size, 11, none⟩) (Below.setCell (p := ⟨w.heap.size, 10, none⟩) (Below.setCell (p := ⟨w.heap.size, 9, none⟩) (Below.setCell (p := ⟨w.heap.size, 8, none⟩) (Below.setCell (p := ⟨w.heap.size, 7, none⟩) (Below.setCell (p := ⟨w.heap.size, 6, none⟩) (Below.setCell (p := ⟨w.heap.size, 5, none⟩) (Below.setCell (p := ⟨w.heap.size, 4, none⟩) (Below.setCell (p := ⟨w.heap.size, 3, none⟩) (Below.setCell (p := ⟨w.heap.size, 2, none⟩) (Below.setCell (p := ⟨w.heap.size, 1, none⟩) (Below.setCell (p := ⟨w.heap.size, 0, none⟩) hB (Nat.le_refl _) _) (Nat.le_refl _) _) (Nat.le_refl _) _) (Nat.le_refl _) _) (Nat.le_refl _) _) (Nat.le_refl _) _) (Nat.le_refl _) _) (Nat.le_refl _) _) (Nat.le_refl _) _) (Nat.le_refl _) _) (Nat.le_refl _) _) (Nat.le_refl _) _)⟩
end Go.Proofs.Ytnidafgjbocfcaa.Conf
