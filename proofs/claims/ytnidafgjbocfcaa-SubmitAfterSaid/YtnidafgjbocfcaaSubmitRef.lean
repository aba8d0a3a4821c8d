/- The page's After. -/
import Derived.Test.YtnidafgjbocfcaaSubmit
namespace Go.Proofs.Ytnidafgjbocfcaa.Subm
open Go Go.RowKit Go.Shelf

set_option maxHeartbeats 1000000 in
theorem ref9 (k who side acc n ep ex : Int) (v : Value) (w : World) (h : k = 2) :
    Calls Try.prog 12 #[.int .i64 k, .int .i64 who, .agg #[.int .i64 side, .int .i64 acc, .int .u64 n, v], .int .u64 ep, .int .u64 ex] w fun e w' => e = .returned (.tuple #[.agg #[.int .i64 9, .int .i64 who, .int .i64 0, .int .i64 0, .int .u64 0, .int .i64 side, .int .i64 acc, .int .u64 0, .int .u64 ex], .bool true]) ∧ Below w.heap.size w w' := by
  subst h
  go_enter Try.func12, Try.ntmps12
  go_wp2
  refine bodyPost_ret (v := .tuple #[.agg #[.int .i64 9, .int .i64 who, .int .i64 0, .int .i64 0, .int .u64 0, .int .i64 side, .int .i64 acc, .int .u64 0, .int .u64 ex], .bool true]) (by simp [results, Try.results12, go_sem]) rfl ⟨rfl, ?_⟩
  exact ((Below.refl _ _).alloc (Nat.le_refl _) _).alloc (by simp) _

set_option maxHeartbeats 1000000 in
theorem ref7 (k who side acc n ep ex : Int) (v : Value) (w : World) (h : k = 1) :
    Calls Try.prog 12 #[.int .i64 k, .int .i64 who, .agg #[.int .i64 side, .int .i64 acc, .int .u64 n, v], .int .u64 ep, .int .u64 ex] w fun e w' => e = .returned (.tuple #[.agg #[.int .i64 7, .int .i64 who, .int .i64 0, .int .i64 0, .int .u64 0, .int .i64 side, .int .i64 acc, .int .u64 ep, .int .u64 n], .bool true]) ∧ Below w.heap.size w w' := by
  subst h
  go_enter Try.func12, Try.ntmps12
  go_wp2
  refine bodyPost_ret (v := .tuple #[.agg #[.int .i64 7, .int .i64 who, .int .i64 0, .int .i64 0, .int .u64 0, .int .i64 side, .int .i64 acc, .int .u64 ep, .int .u64 n], .bool true]) (by simp [results, Try.results12, go_sem]) rfl ⟨rfl, ?_⟩
  exact ((Below.refl _ _).alloc (Nat.le_refl _) _).alloc (by simp) _

set_option maxHeartbeats 1000000 in
theorem ref8 (k who side acc n ep ex : Int) (v : Value) (w : World) (h : k = 3 ∨ k = 4 ∨ k = 5 ∨ k = 6 ∨ k = 8 ∨ k = 9) :
    Calls Try.prog 12 #[.int .i64 k, .int .i64 who, .agg #[.int .i64 side, .int .i64 acc, .int .u64 n, v], .int .u64 ep, .int .u64 ex] w fun e w' => e = .returned (.tuple #[.agg #[.int .i64 8, .int .i64 who, .int .i64 0, .int .i64 0, .int .u64 0, .int .i64 side, .int .i64 acc, .int .u64 ep, .int .u64 n], .bool true]) ∧ Below w.heap.size w w' := by
  rcases h with rfl | rfl | rfl | rfl | rfl | rfl
  all_goals
    go_enter Try.func12, Try.ntmps12
    go_wp2
    refine bodyPost_ret (v := .tuple #[.agg #[.int .i64 8, .int .i64 who, .int .i64 0, .int .i64 0, .int .u64 0, .int .i64 side, .int .i64 acc, .int .u64 ep, .int .u64 n], .bool true]) (by simp [results, Try.results12, go_sem]) rfl ⟨rfl, ?_⟩
    exact ((Below.refl _ _).alloc (Nat.le_refl _) _).alloc (by simp) _

set_option maxHeartbeats 1000000 in
theorem ref0 (k who side acc n ep ex : Int) (v : Value) (w : World) (h : k < 1 ∨ k = 7 ∨ 9 < k) :
    Calls Try.prog 12 #[.int .i64 k, .int .i64 who, .agg #[.int .i64 side, .int .i64 acc, .int .u64 n, v], .int .u64 ep, .int .u64 ex] w fun e w' => e = .returned (.tuple #[.agg #[.int .i64 0, .int .i64 0, .int .i64 0, .int .i64 0, .int .u64 0, .int .i64 0, .int .i64 0, .int .u64 0, .int .u64 0], .bool false]) ∧ Below w.heap.size w w' := by
  have q1 : (k == 1) = false := by rw [beq_eq_false_iff_ne]; omega
  have q2 : (k == 2) = false := by rw [beq_eq_false_iff_ne]; omega
  have q3 : (k == 3) = false := by rw [beq_eq_false_iff_ne]; omega
  have q4 : (k == 4) = false := by rw [beq_eq_false_iff_ne]; omega
  have q5 : (k == 5) = false := by rw [beq_eq_false_iff_ne]; omega
  have q6 : (k == 6) = false := by rw [beq_eq_false_iff_ne]; omega
  have q8 : (k == 8) = false := by rw [beq_eq_false_iff_ne]; omega
  have q9 : (k == 9) = false := by rw [beq_eq_false_iff_ne]; omega
  clear h
  go_enter Try.func12, Try.ntmps12
  go_wp2
  refine bodyPost_ret (v := .tuple #[.agg #[.int .i64 0, .int .i64 0, .int .i64 0, .int .i64 0, .int .u64 0, .int .i64 0, .int .i64 0, .int .u64 0, .int .u64 0], .bool false]) (by simp [results, Try.results12, go_sem]) rfl ⟨rfl, ?_⟩
  exact ((Below.refl _ _).alloc (Nat.le_refl _) _).alloc (by simp) _

end Go.Proofs.Ytnidafgjbocfcaa.Subm
