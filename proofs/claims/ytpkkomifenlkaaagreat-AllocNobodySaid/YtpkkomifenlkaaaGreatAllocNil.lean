/- An allocator that is none. -/
import Derived.Test.YtpkkomifenlkaaaGreatCommon
import Derived.Deep.CutBlock
import Derived.Deep.DeepCutAuto
namespace Go.Proofs.YtpkkomifenlkaaaGreat.Al
open Go Go.RowKit
set_option linter.unusedVariables false

set_option maxRecDepth 20000 in
theorem ask_nil (s a : Int) (f : Value) (W : World) : Calls Tryz.prog 19 #[.pointer none, .int .i64 s, .int .i64 a, f] W fun e w' => e = .returned (.bool false) ∧ w' = W := by
  go_enter_defers Tryz.func19, Tryz.ntmps19
  go_wp2
  simp [bodyPostD, Leaves, results, Tryz.results19, go_sem]
theorem epoch_nil (s a : Int) (W : World) : Calls Tryz.prog 6 #[.pointer none, .int .i64 s, .int .i64 a] W fun e w' => e = .returned (.tuple #[.int .u64 0, .bool false]) ∧ Below W.heap.size W w' := by
  go_enter Tryz.func6, Tryz.ntmps6
  go_wp2_with fail
  refine (ask_nil _ _ _ _).mono ?_
  rintro _ _ ⟨rfl, rfl⟩
  go_wp2
  refine bodyPost_ret (v := .tuple #[.int .u64 0, .bool false]) (by simp [results, Tryz.results6, go_sem]) rfl ?_
  exact ⟨rfl, (Below.refl _ _).alloc (Nat.le_refl _) _⟩
theorem next_nil (s a : Int) (W : World) : Calls Tryz.prog 7 #[.pointer none, .int .i64 s, .int .i64 a] W fun e w' => e = .returned (.tuple #[.int .u64 0, .bool false]) ∧ Below W.heap.size W w' := by
  go_enter Tryz.func7, Tryz.ntmps7
  go_wp2_with fail
  refine (ask_nil _ _ _ _).mono ?_
  rintro _ _ ⟨rfl, rfl⟩
  go_wp2
  refine bodyPost_ret (v := .tuple #[.int .u64 0, .bool false]) (by simp [results, Tryz.results7, go_sem]) rfl ?_
  exact ⟨rfl, (Below.refl _ _).alloc (Nat.le_refl _) _⟩
theorem free_nil (s a : Int) (W : World) : Calls Tryz.prog 9 #[.pointer none, .int .i64 s, .int .i64 a] W fun e w' => e = .returned (.slice none 0 0) ∧ Below W.heap.size W w' := by
  go_enter Tryz.func9, Tryz.ntmps9
  go_wp2_with fail
  refine (ask_nil _ _ _ _).mono ?_
  rintro _ _ ⟨rfl, rfl⟩
  go_wp2
  go_ret
  exact ⟨rfl, (Below.refl _ _).alloc (Nat.le_refl _) _⟩
theorem held_nil (s a who : Int) (W : World) : Calls Tryz.prog 10 #[.pointer none, .int .i64 s, .int .i64 a, .int .i64 who] W fun e w' => e = .returned (.slice none 0 0) ∧ Below W.heap.size W w' := by
  go_enter Tryz.func10, Tryz.ntmps10
  go_wp2_with fail
  refine (ask_nil _ _ _ _).mono ?_
  rintro _ _ ⟨rfl, rfl⟩
  go_wp2
  go_ret
  exact ⟨rfl, ((Below.refl _ _).alloc (Nat.le_refl _) _).alloc (by simp) _⟩
end Go.Proofs.YtpkkomifenlkaaaGreat.Al
