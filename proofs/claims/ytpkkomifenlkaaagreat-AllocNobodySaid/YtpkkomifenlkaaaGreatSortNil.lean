import Derived.Test.YtpkkomifenlkaaaGreatNumB
/- Sorting no numbers. -/
namespace Go.Proofs.YtpkkomifenlkaaaGreat.Au
open Go Go.RowKit
set_option linter.unusedVariables false

theorem ins_nil (A : Option Addr) (cap : Nat) (V : World) : Calls Tryz.prog 111 #[.slice A 0 cap, .int .i64 0, .int .i64 0] V fun e w' => e = .returned (.tuple #[]) ∧ w' = V := by
  go_enter Tryz.func111, Tryz.ntmps111
  go_wp2
  refine wp_loop_rounds 1 ?_
  rw [rounds_succ]
  go_wp2
  exact bodyPost_end (results_none Tryz.results111 _ _ _) rfl ⟨rfl, rfl⟩
theorem pdq_nil (A : Option Addr) (cap : Nat) (n : Int) (V : World) : Calls Tryz.prog 74 #[.slice A 0 cap, .int .i64 0, .int .i64 0, .int .i64 n] V fun e w' => e = .returned (.tuple #[]) ∧ w' = V := by
  go_enter Tryz.func74, Tryz.ntmps74
  go_wp2
  refine wp_loop_rounds 1 ?_
  rw [rounds_succ]
  go_wp2_with fail
  refine (ins_nil _ _ _).mono ?_
  rintro _ _ ⟨rfl, rfl⟩
  go_wp2
  refine bodyPost_ret (results_none Tryz.results74 _ _ _) rfl ?_
  exact ⟨rfl, rfl⟩
set_option maxRecDepth 20000 in
theorem len64_nil (V : World) : Calls Tryz.prog 102 #[.int .u64 0] V fun e w' => e = .returned (.int .i64 0) ∧ w' = V := by
  go_enter Tryz.func102, Tryz.ntmps102
  go_wp2
  go_ret
  have l8 : Lib.len8 0 = 0 := by kernel_rfl
  have w8 : wrap64 0 = 0 := by unfold wrap64; omega
  rw [l8, w8, w8]
  exact ⟨rfl, rfl⟩
set_option maxRecDepth 20000 in
theorem len_nil (V : World) : Calls Tryz.prog 72 #[.int .u64 0] V fun e w' => e = .returned (.int .i64 0) ∧ w' = V := by
  go_enter Tryz.func72, Tryz.ntmps72
  go_wp2_with fail
  refine (len64_nil _).mono ?_
  rintro _ _ ⟨rfl, rfl⟩
  go_wp2
  go_ret
  exact ⟨rfl, rfl⟩
theorem sort_nil (A : Option Addr) (cap : Nat) (V : World) : Calls Tryz.prog 53 #[.slice A 0 cap] V fun e w' => e = .returned (.tuple #[]) ∧ w' = V := by
  go_enter Tryz.func53, Tryz.ntmps53
  go_wp2_with fail
  refine (len_nil _).mono ?_
  rintro _ _ ⟨rfl, rfl⟩
  go_wp2_with fail
  refine (pdq_nil _ _ _ _).mono ?_
  rintro _ _ ⟨rfl, rfl⟩
  go_wp2
  exact bodyPost_end (results_none Tryz.results53 _ _ _) rfl ⟨rfl, rfl⟩
theorem sortU_nil : SortU 0 := fun V base A n cap l hl hn hown => by
  obtain rfl : n = 0 := by omega
  obtain rfl := List.length_eq_zero_iff.1 hl
  refine (sort_nil A cap V).mono ?_
  rintro e w' ⟨rfl, rfl⟩
  exact ⟨rfl, [], List.Perm.refl _, List.Pairwise.nil, hown, ⟨rfl, rfl, rfl, Nat.le_refl _, fun _ _ _ => rfl⟩⟩
end Go.Proofs.YtpkkomifenlkaaaGreat.Au
