/- A shard that is none. -/
import Derived.Test.YtmdjhcpafjgigaaShardOps
namespace Go.Proofs.Ytmdjhcpafjgigaa.Mk
open Go Go.RowKit Go.MuLone

set_option maxRecDepth 20000 in
theorem snap_nil (W : World) : Calls Try.prog 11 #[.pointer none] W fun e w' => e = .returned (.slice none 0 0) ∧ w' = W := by
  go_enter_defers Try.func11, Try.ntmps11
  go_wp2
  simp [bodyPostD, Leaves, results, Try.results11, go_sem]
set_option maxRecDepth 20000 in
theorem ins_nil (k : K3) (W : World) : Calls Try.prog 15 #[.pointer none, k.val] W fun e w' => e = .returned (.int .i64 1) ∧ Below W.heap.size W w' := by
  obtain ⟨kc, kf, ks⟩ := k
  unfold K3.val
  go_enter_defers Try.func15, Try.ntmps15
  go_wp2
  simp [bodyPostD, Leaves, results, Try.results15, go_sem]
  exact (Below.refl _ _).alloc (Nat.le_refl _) _
set_option maxRecDepth 20000 in
theorem chg_nil (k : K3) (st who : Int) (f : Value) (W : World) : Calls Try.prog 29 #[.pointer none, k.val, .int .i64 st, .int .i64 who, f] W fun e w' => e = .returned (.int .i64 1) ∧ Below W.heap.size W w' := by
  obtain ⟨kc, kf, ks⟩ := k
  unfold K3.val
  go_enter_defers Try.func29, Try.ntmps29
  go_wp2
  simp [bodyPostD, Leaves, results, Try.results29, go_sem]
  exact (Below.refl _ _).alloc (Nat.le_refl _) _
set_option maxRecDepth 20000 in
theorem get_nil (k : K3) (W : World) : Calls Try.prog 13 #[.pointer none, k.val] W fun e w' => e = .returned (.tuple #[.agg en0.cells, .bool false]) ∧ Below W.heap.size W w' := by
  obtain ⟨kc, kf, ks⟩ := k
  unfold K3.val
  go_enter_defers Try.func13, Try.ntmps13
  go_wp2
  simp [bodyPostD, Leaves, results, Try.results13, go_sem]

  exact ⟨rfl, ((Below.refl _ _).alloc (Nat.le_refl _) _).alloc (by simp) _⟩
set_option maxRecDepth 20000 in
theorem claim_nil (k : K3) (who : Int) (W : World) : Calls Try.prog 16 #[.pointer none, k.val, .int .i64 who] W fun e w' => e = .returned (.int .i64 1) ∧ Below W.heap.size W w' := by
  obtain ⟨kc, kf, ks⟩ := k
  unfold K3.val
  have b2 := ((Below.refl W.heap.size W).alloc (Nat.le_refl _) (.cells #[.pointer none] 24)).alloc (by simp) (.cells #[.int .i64 kc, .int .i64 kf, .int .u64 ks] 35)
  have b3 := b2.alloc (by simp; try omega) (.cells #[.int .i64 who] 3)
  by_cases hw : who < 1
  · go_enter Try.func16, Try.ntmps16
    go_wp2
    go_ret
    exact ⟨rfl, b3⟩
  · go_enter Try.func16, Try.ntmps16
    go_wp2_with fail
    refine (chg_nil ⟨kc, kf, ks⟩ 1 who _ _).mono ?_
    rintro _ w' ⟨rfl, hB⟩
    go_wp2
    go_ret
    exact ⟨rfl, b3.trans (hB.mono (by simp; try omega))⟩

set_option maxRecDepth 20000 in
theorem release_nil (k : K3) (who : Int) (W : World) : Calls Try.prog 17 #[.pointer none, k.val, .int .i64 who] W fun e w' => e = .returned (.int .i64 1) ∧ Below W.heap.size W w' := by
  obtain ⟨kc, kf, ks⟩ := k
  unfold K3.val
  have b2 := ((Below.refl W.heap.size W).alloc (Nat.le_refl _) (.cells #[.pointer none] 24)).alloc (by simp) (.cells #[.int .i64 kc, .int .i64 kf, .int .u64 ks] 35)
  go_enter Try.func17, Try.ntmps17
  go_wp2_with fail
  refine (chg_nil ⟨kc, kf, ks⟩ 2 who _ _).mono ?_
  rintro _ w' ⟨rfl, hB⟩
  go_wp2
  go_ret
  exact ⟨rfl, b2.trans (hB.mono (by simp; try omega))⟩

set_option maxRecDepth 20000 in
theorem complete_nil (k : K3) (who : Int) (W : World) : Calls Try.prog 18 #[.pointer none, k.val, .int .i64 who] W fun e w' => e = .returned (.int .i64 1) ∧ Below W.heap.size W w' := by
  obtain ⟨kc, kf, ks⟩ := k
  unfold K3.val
  have b2 := ((Below.refl W.heap.size W).alloc (Nat.le_refl _) (.cells #[.pointer none] 24)).alloc (by simp) (.cells #[.int .i64 kc, .int .i64 kf, .int .u64 ks] 35)
  go_enter Try.func18, Try.ntmps18
  go_wp2_with fail
  refine (chg_nil ⟨kc, kf, ks⟩ 2 who _ _).mono ?_
  rintro _ w' ⟨rfl, hB⟩
  go_wp2
  go_ret
  exact ⟨rfl, b2.trans (hB.mono (by simp; try omega))⟩

set_option maxRecDepth 20000 in
theorem expire_nil (k : K3) (W : World) : Calls Try.prog 19 #[.pointer none, k.val] W fun e w' => e = .returned (.int .i64 1) ∧ Below W.heap.size W w' := by
  obtain ⟨kc, kf, ks⟩ := k
  unfold K3.val
  have b2 := ((Below.refl W.heap.size W).alloc (Nat.le_refl _) (.cells #[.pointer none] 24)).alloc (by simp) (.cells #[.int .i64 kc, .int .i64 kf, .int .u64 ks] 35)
  go_enter Try.func19, Try.ntmps19
  go_wp2_with fail
  refine (chg_nil ⟨kc, kf, ks⟩ 3 0 _ _).mono ?_
  rintro _ w' ⟨rfl, hB⟩
  go_wp2
  go_ret
  exact ⟨rfl, b2.trans (hB.mono (by simp; try omega))⟩
end Go.Proofs.Ytmdjhcpafjgigaa.Mk
