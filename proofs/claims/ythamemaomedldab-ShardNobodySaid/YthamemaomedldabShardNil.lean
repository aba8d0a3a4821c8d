/- A shard that is none. -/
import Derived.Test.YthamemaomedldabShardOps
namespace Go.Proofs.Ythamemaomedldab.Mk
open Go Go.RowKit Go.MuLone

set_option maxRecDepth 20000 in
theorem len_nil (W : World) : Calls Try.prog 7 #[.pointer none] W fun e w' => e = .returned (.int .i64 0) ∧ w' = W := by
  go_enter_defers Try.func7, Try.ntmps7
  go_wp2
  simp [bodyPostD, Leaves, results, Try.results7, go_sem]
set_option maxRecDepth 20000 in
theorem snap_nil (W : World) : Calls Try.prog 8 #[.pointer none] W fun e w' => e = .returned (.slice none 0 0) ∧ w' = W := by
  go_enter_defers Try.func8, Try.ntmps8
  go_wp2
  simp [bodyPostD, Leaves, results, Try.results8, go_sem]
set_option maxRecDepth 20000 in
theorem ins_nil (k : K3) (W : World) : Calls Try.prog 12 #[.pointer none, k.val] W fun e w' => e = .returned (.int .i64 1) ∧ Below W.heap.size W w' := by
  obtain ⟨kc, kf, ks⟩ := k
  unfold K3.val
  go_enter_defers Try.func12, Try.ntmps12
  go_wp2
  simp [bodyPostD, Leaves, results, Try.results12, go_sem]
  exact (Below.refl _ _).alloc (Nat.le_refl _) _
set_option maxRecDepth 20000 in
theorem chg_nil (k : K3) (st who : Int) (f : Value) (W : World) : Calls Try.prog 22 #[.pointer none, k.val, .int .i64 st, .int .i64 who, f] W fun e w' => e = .returned (.int .i64 1) ∧ Below W.heap.size W w' := by
  obtain ⟨kc, kf, ks⟩ := k
  unfold K3.val
  go_enter_defers Try.func22, Try.ntmps22
  go_wp2
  simp [bodyPostD, Leaves, results, Try.results22, go_sem]
  exact (Below.refl _ _).alloc (Nat.le_refl _) _
set_option maxRecDepth 20000 in
theorem get_nil (k : K3) (W : World) : Calls Try.prog 4 #[.pointer none, k.val] W fun e w' => e = .returned (.tuple #[.agg en0.cells, .bool false]) ∧ Below W.heap.size W w' := by
  obtain ⟨kc, kf, ks⟩ := k
  unfold K3.val
  go_enter_defers Try.func4, Try.ntmps4
  go_wp2
  simp [bodyPostD, Leaves, results, Try.results4, go_sem]

  exact ⟨rfl, ((Below.refl _ _).alloc (Nat.le_refl _) _).alloc (by simp) _⟩
end Go.Proofs.Ythamemaomedldab.Mk
