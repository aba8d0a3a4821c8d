import Derived.Test.YtpakefgbjncdiacDoorShaRight
import Derived.LoopTactic
import Derived.Deep.QuietTactic
/- A word turned, by the page: muleteerref02.power, turned at each number that it is handed. -/
namespace Go.Proofs.YtpakefgbjncdiacDoor.Sha
open Go.RowKit

set_option maxHeartbeats 400000 in
theorem power_nat (n : Nat) (hn : n ≤ 31) (w : World) : Calls Tryd.prog 65 #[.int .i64 n] w fun e w' => e = .returned (.int .u32 ((2 ^ n : Nat) : Int)) ∧ w' = w := by
  go_enter Tryd.func65, Tryd.ntmps65
  go_wp2
  go_loop [3, 4] (fun x i => ∃ k : Nat, k ≤ n ∧ i = .int .i64 k ∧ x = .int .u32 ((2 ^ k : Nat) : Int)) (fun _ i => n - (intOf i).toNat)
  case atStart => exact ⟨0, Nat.zero_le _, rfl, rfl⟩
  case round =>
    obtain ⟨k, hk, rfl, rfl⟩ := hrel
    by_cases hlt : k < n
    · have hb : 2 ^ k ≤ 1073741824 := Nat.pow_le_pow_right (n := 2) (by decide) (show k ≤ 30 by omega)
      have hs : 2 ^ (k + 1) = 2 ^ k * 2 := Nat.pow_succ 2 k
      have HS := Lib.hid hs; clear hs
      obtain ⟨q, hq⟩ : ∃ q : Nat, q = 2 ^ k := ⟨_, rfl⟩
      rw [← hq] at hb ⊢
      have HQ := Lib.hid hq; clear hq
      go_wp2
      exact ⟨⟨k + 1, by omega, by go_num, by rw [HS.out, ← HQ.out]; go_num⟩, by simp [intOf]; omega⟩
    · have hkn : k = n := by omega
      subst hkn
      go_wp2
      go_ret
      exact ⟨rfl, rfl⟩
theorem power_any (n : Nat) (hn : n ≤ 31) (m : Int) (hm : m = n) (p : Int) (hp : p = ((2 ^ n : Nat) : Int)) (w : World) : Calls Tryd.prog 65 #[.int .i64 m] w fun e w' => e = .returned (.int .u32 p) ∧ w' = w := by
  subst hm hp
  exact power_nat n hn w

theorem rot_page (x : W) (n : Nat) (hn : n ≤ 32) (p q : Int) (hp : p = ((2 ^ n : Nat) : Int)) (hq : q = ((2 ^ (32 - n) : Nat) : Int)) :
    (x.toNat : Int) / p + (x.toNat : Int) % p * q = ((rot x n).toNat : Int) := by
  subst hp hq
  rw [rot_nat x n hn]
  rfl
theorem power_2 (w : World) : Calls Tryd.prog 65 #[.int .i64 2] w fun e w_ => e = .returned (.int .u32 4) ∧ w_ = w := power_any 2 (by decide) _ rfl 4 rfl w
theorem power_6 (w : World) : Calls Tryd.prog 65 #[.int .i64 6] w fun e w_ => e = .returned (.int .u32 64) ∧ w_ = w := power_any 6 (by decide) _ rfl 64 rfl w
theorem power_7 (w : World) : Calls Tryd.prog 65 #[.int .i64 7] w fun e w_ => e = .returned (.int .u32 128) ∧ w_ = w := power_any 7 (by decide) _ rfl 128 rfl w
theorem power_10 (w : World) : Calls Tryd.prog 65 #[.int .i64 10] w fun e w_ => e = .returned (.int .u32 1024) ∧ w_ = w := power_any 10 (by decide) _ rfl 1024 rfl w
theorem power_11 (w : World) : Calls Tryd.prog 65 #[.int .i64 11] w fun e w_ => e = .returned (.int .u32 2048) ∧ w_ = w := power_any 11 (by decide) _ rfl 2048 rfl w
theorem power_13 (w : World) : Calls Tryd.prog 65 #[.int .i64 13] w fun e w_ => e = .returned (.int .u32 8192) ∧ w_ = w := power_any 13 (by decide) _ rfl 8192 rfl w
theorem power_14 (w : World) : Calls Tryd.prog 65 #[.int .i64 14] w fun e w_ => e = .returned (.int .u32 16384) ∧ w_ = w := power_any 14 (by decide) _ rfl 16384 rfl w
theorem power_15 (w : World) : Calls Tryd.prog 65 #[.int .i64 15] w fun e w_ => e = .returned (.int .u32 32768) ∧ w_ = w := power_any 15 (by decide) _ rfl 32768 rfl w
theorem power_17 (w : World) : Calls Tryd.prog 65 #[.int .i64 17] w fun e w_ => e = .returned (.int .u32 131072) ∧ w_ = w := power_any 17 (by decide) _ rfl 131072 rfl w
theorem power_18 (w : World) : Calls Tryd.prog 65 #[.int .i64 18] w fun e w_ => e = .returned (.int .u32 262144) ∧ w_ = w := power_any 18 (by decide) _ rfl 262144 rfl w
theorem power_19 (w : World) : Calls Tryd.prog 65 #[.int .i64 19] w fun e w_ => e = .returned (.int .u32 524288) ∧ w_ = w := power_any 19 (by decide) _ rfl 524288 rfl w
theorem power_21 (w : World) : Calls Tryd.prog 65 #[.int .i64 21] w fun e w_ => e = .returned (.int .u32 2097152) ∧ w_ = w := power_any 21 (by decide) _ rfl 2097152 rfl w
theorem power_22 (w : World) : Calls Tryd.prog 65 #[.int .i64 22] w fun e w_ => e = .returned (.int .u32 4194304) ∧ w_ = w := power_any 22 (by decide) _ rfl 4194304 rfl w
theorem power_25 (w : World) : Calls Tryd.prog 65 #[.int .i64 25] w fun e w_ => e = .returned (.int .u32 33554432) ∧ w_ = w := power_any 25 (by decide) _ rfl 33554432 rfl w
theorem power_26 (w : World) : Calls Tryd.prog 65 #[.int .i64 26] w fun e w_ => e = .returned (.int .u32 67108864) ∧ w_ = w := power_any 26 (by decide) _ rfl 67108864 rfl w
theorem power_30 (w : World) : Calls Tryd.prog 65 #[.int .i64 30] w fun e w_ => e = .returned (.int .u32 1073741824) ∧ w_ = w := power_any 30 (by decide) _ rfl 1073741824 rfl w

set_option maxHeartbeats 400000 in
theorem turned_2 (x : W) (w : World) : Calls Tryd.prog 51 #[.int .u32 (x.toNat : Int), .int .i64 2] w fun e w' => e = .returned (.int .u32 ((rot x 2).toNat : Int)) ∧ ∃ k, w' = w.drewN k := by
  have hx := lt32 x
  have h := rot_page x 2 (by decide) 4 1073741824 rfl rfl
  have H := Lib.hid h; clear h
  have hs : IntKind.i64.wrap (32 - 2) = 30 := by decide
  go_enter Tryd.func51, Tryd.ntmps51
  go_wp2_with fail
  go_quiet ((go_at_call 65; first | with_reducible exact Calls.quiet_of_same (power_2 _) | with_reducible exact Calls.quiet_of_same (power_30 _)))
  go_wp2_with fail
  go_ret
  exact ⟨congrArg (fun n => Ending.returned (.int .u32 n)) H.out, _, rfl⟩

set_option maxHeartbeats 400000 in
theorem turned_6 (x : W) (w : World) : Calls Tryd.prog 51 #[.int .u32 (x.toNat : Int), .int .i64 6] w fun e w' => e = .returned (.int .u32 ((rot x 6).toNat : Int)) ∧ ∃ k, w' = w.drewN k := by
  have hx := lt32 x
  have h := rot_page x 6 (by decide) 64 67108864 rfl rfl
  have H := Lib.hid h; clear h
  have hs : IntKind.i64.wrap (32 - 6) = 26 := by decide
  go_enter Tryd.func51, Tryd.ntmps51
  go_wp2_with fail
  go_quiet ((go_at_call 65; first | with_reducible exact Calls.quiet_of_same (power_6 _) | with_reducible exact Calls.quiet_of_same (power_26 _)))
  go_wp2_with fail
  go_ret
  exact ⟨congrArg (fun n => Ending.returned (.int .u32 n)) H.out, _, rfl⟩

set_option maxHeartbeats 400000 in
theorem turned_7 (x : W) (w : World) : Calls Tryd.prog 51 #[.int .u32 (x.toNat : Int), .int .i64 7] w fun e w' => e = .returned (.int .u32 ((rot x 7).toNat : Int)) ∧ ∃ k, w' = w.drewN k := by
  have hx := lt32 x
  have h := rot_page x 7 (by decide) 128 33554432 rfl rfl
  have H := Lib.hid h; clear h
  have hs : IntKind.i64.wrap (32 - 7) = 25 := by decide
  go_enter Tryd.func51, Tryd.ntmps51
  go_wp2_with fail
  go_quiet ((go_at_call 65; first | with_reducible exact Calls.quiet_of_same (power_7 _) | with_reducible exact Calls.quiet_of_same (power_25 _)))
  go_wp2_with fail
  go_ret
  exact ⟨congrArg (fun n => Ending.returned (.int .u32 n)) H.out, _, rfl⟩

set_option maxHeartbeats 400000 in
theorem turned_11 (x : W) (w : World) : Calls Tryd.prog 51 #[.int .u32 (x.toNat : Int), .int .i64 11] w fun e w' => e = .returned (.int .u32 ((rot x 11).toNat : Int)) ∧ ∃ k, w' = w.drewN k := by
  have hx := lt32 x
  have h := rot_page x 11 (by decide) 2048 2097152 rfl rfl
  have H := Lib.hid h; clear h
  have hs : IntKind.i64.wrap (32 - 11) = 21 := by decide
  go_enter Tryd.func51, Tryd.ntmps51
  go_wp2_with fail
  go_quiet ((go_at_call 65; first | with_reducible exact Calls.quiet_of_same (power_11 _) | with_reducible exact Calls.quiet_of_same (power_21 _)))
  go_wp2_with fail
  go_ret
  exact ⟨congrArg (fun n => Ending.returned (.int .u32 n)) H.out, _, rfl⟩

set_option maxHeartbeats 400000 in
theorem turned_13 (x : W) (w : World) : Calls Tryd.prog 51 #[.int .u32 (x.toNat : Int), .int .i64 13] w fun e w' => e = .returned (.int .u32 ((rot x 13).toNat : Int)) ∧ ∃ k, w' = w.drewN k := by
  have hx := lt32 x
  have h := rot_page x 13 (by decide) 8192 524288 rfl rfl
  have H := Lib.hid h; clear h
  have hs : IntKind.i64.wrap (32 - 13) = 19 := by decide
  go_enter Tryd.func51, Tryd.ntmps51
  go_wp2_with fail
  go_quiet ((go_at_call 65; first | with_reducible exact Calls.quiet_of_same (power_13 _) | with_reducible exact Calls.quiet_of_same (power_19 _)))
  go_wp2_with fail
  go_ret
  exact ⟨congrArg (fun n => Ending.returned (.int .u32 n)) H.out, _, rfl⟩

set_option maxHeartbeats 400000 in
theorem turned_17 (x : W) (w : World) : Calls Tryd.prog 51 #[.int .u32 (x.toNat : Int), .int .i64 17] w fun e w' => e = .returned (.int .u32 ((rot x 17).toNat : Int)) ∧ ∃ k, w' = w.drewN k := by
  have hx := lt32 x
  have h := rot_page x 17 (by decide) 131072 32768 rfl rfl
  have H := Lib.hid h; clear h
  have hs : IntKind.i64.wrap (32 - 17) = 15 := by decide
  go_enter Tryd.func51, Tryd.ntmps51
  go_wp2_with fail
  go_quiet ((go_at_call 65; first | with_reducible exact Calls.quiet_of_same (power_17 _) | with_reducible exact Calls.quiet_of_same (power_15 _)))
  go_wp2_with fail
  go_ret
  exact ⟨congrArg (fun n => Ending.returned (.int .u32 n)) H.out, _, rfl⟩

set_option maxHeartbeats 400000 in
theorem turned_18 (x : W) (w : World) : Calls Tryd.prog 51 #[.int .u32 (x.toNat : Int), .int .i64 18] w fun e w' => e = .returned (.int .u32 ((rot x 18).toNat : Int)) ∧ ∃ k, w' = w.drewN k := by
  have hx := lt32 x
  have h := rot_page x 18 (by decide) 262144 16384 rfl rfl
  have H := Lib.hid h; clear h
  have hs : IntKind.i64.wrap (32 - 18) = 14 := by decide
  go_enter Tryd.func51, Tryd.ntmps51
  go_wp2_with fail
  go_quiet ((go_at_call 65; first | with_reducible exact Calls.quiet_of_same (power_18 _) | with_reducible exact Calls.quiet_of_same (power_14 _)))
  go_wp2_with fail
  go_ret
  exact ⟨congrArg (fun n => Ending.returned (.int .u32 n)) H.out, _, rfl⟩

set_option maxHeartbeats 400000 in
theorem turned_19 (x : W) (w : World) : Calls Tryd.prog 51 #[.int .u32 (x.toNat : Int), .int .i64 19] w fun e w' => e = .returned (.int .u32 ((rot x 19).toNat : Int)) ∧ ∃ k, w' = w.drewN k := by
  have hx := lt32 x
  have h := rot_page x 19 (by decide) 524288 8192 rfl rfl
  have H := Lib.hid h; clear h
  have hs : IntKind.i64.wrap (32 - 19) = 13 := by decide
  go_enter Tryd.func51, Tryd.ntmps51
  go_wp2_with fail
  go_quiet ((go_at_call 65; first | with_reducible exact Calls.quiet_of_same (power_19 _) | with_reducible exact Calls.quiet_of_same (power_13 _)))
  go_wp2_with fail
  go_ret
  exact ⟨congrArg (fun n => Ending.returned (.int .u32 n)) H.out, _, rfl⟩

set_option maxHeartbeats 400000 in
theorem turned_22 (x : W) (w : World) : Calls Tryd.prog 51 #[.int .u32 (x.toNat : Int), .int .i64 22] w fun e w' => e = .returned (.int .u32 ((rot x 22).toNat : Int)) ∧ ∃ k, w' = w.drewN k := by
  have hx := lt32 x
  have h := rot_page x 22 (by decide) 4194304 1024 rfl rfl
  have H := Lib.hid h; clear h
  have hs : IntKind.i64.wrap (32 - 22) = 10 := by decide
  go_enter Tryd.func51, Tryd.ntmps51
  go_wp2_with fail
  go_quiet ((go_at_call 65; first | with_reducible exact Calls.quiet_of_same (power_22 _) | with_reducible exact Calls.quiet_of_same (power_10 _)))
  go_wp2_with fail
  go_ret
  exact ⟨congrArg (fun n => Ending.returned (.int .u32 n)) H.out, _, rfl⟩

set_option maxHeartbeats 400000 in
theorem turned_25 (x : W) (w : World) : Calls Tryd.prog 51 #[.int .u32 (x.toNat : Int), .int .i64 25] w fun e w' => e = .returned (.int .u32 ((rot x 25).toNat : Int)) ∧ ∃ k, w' = w.drewN k := by
  have hx := lt32 x
  have h := rot_page x 25 (by decide) 33554432 128 rfl rfl
  have H := Lib.hid h; clear h
  have hs : IntKind.i64.wrap (32 - 25) = 7 := by decide
  go_enter Tryd.func51, Tryd.ntmps51
  go_wp2_with fail
  go_quiet ((go_at_call 65; first | with_reducible exact Calls.quiet_of_same (power_25 _) | with_reducible exact Calls.quiet_of_same (power_7 _)))
  go_wp2_with fail
  go_ret
  exact ⟨congrArg (fun n => Ending.returned (.int .u32 n)) H.out, _, rfl⟩

theorem turned_any (x : W) (n : Int) (w : World) (h : n = 2 ∨ n = 6 ∨ n = 7 ∨ n = 11 ∨ n = 13 ∨ n = 17 ∨ n = 18 ∨ n = 19 ∨ n = 22 ∨ n = 25) : Calls Tryd.prog 51 #[.int .u32 (x.toNat : Int), .int .i64 n] w fun e w' => e = .returned (.int .u32 ((rot x n.toNat).toNat : Int)) ∧ ∃ k, w' = w.drewN k := by
  rcases h with rfl | rfl | rfl | rfl | rfl | rfl | rfl | rfl | rfl | rfl
  · exact turned_2 x w
  · exact turned_6 x w
  · exact turned_7 x w
  · exact turned_11 x w
  · exact turned_13 x w
  · exact turned_17 x w
  · exact turned_18 x w
  · exact turned_19 x w
  · exact turned_22 x w
  · exact turned_25 x w
end Go.Proofs.YtpakefgbjncdiacDoor.Sha
