/- 'FnvSums' holds for every input: the hash of any bytes is the page's, wherever they are cut. No condition. -/
import Derived.Test.YtoojifhaaglljaaFnvWalks
import Derived.OpenShut
namespace Go.Proofs.Ytoojifhaaglljaa.fnvSums
open Go.RowKit Fnv

theorem walk0 (s : ByteArray) (a h : Int) (ha : 0 ≤ a) (ha' : a ≤ 65535) (hs : s.size ≤ maxLen) (w : World) :
    Calls Try.prog 3 #[.string s, .int .u16 a, .int .u64 h] w fun e w' => e = .returned (.bool true) ∧ ∃ n, w' = w.drewN n := by
  unfold maxLen at hs
  by_cases hc : 500 < s.size
  · go_enter Try.func3, Try.ntmps3
    go_wp2_with (go_at_call 15; refine (awake_any _).mono ?_; rintro e w' ⟨rfl, rfl⟩)
    go_ret
    exact ⟨rfl, 0, rfl⟩
  · have hk0 : 0 ≤ a % ((s.size : Int) + 1) := Int.emod_nonneg _ (by omega)
    have hk1 : a % ((s.size : Int) + 1) ≤ s.size := by have := Int.emod_lt_of_pos a (show (0 : Int) < (s.size : Int) + 1 by omega); omega
    go_enter Try.func3, Try.ntmps3
    go_wp2
    generalize a % ((s.size : Int) + 1) = j at *
    obtain ⟨k, rfl⟩ := Int.eq_ofNat_of_zero_le hk0
    have hk : k ≤ s.size := by omega
    have h1 : (s.extract 0 k).size ≤ maxLen := by simp [maxLen]; omega
    have h2 : (s.extract k s.size).size ≤ maxLen := by simp [maxLen]; omega
    have hm : s.size ≤ maxLen := by unfold maxLen; omega
    have hcut : (fold (fold 14695981039346656037 (List.take k s.data.toList)) (List.take (s.size - k) (List.drop k s.data.toList)) == fold 14695981039346656037 s.data.toList) = true := by
      rw [beq_iff_eq, List.take_of_length_le (l := List.drop k s.data.toList) (by simp)]
      unfold fold
      rw [← List.foldl_append, List.take_append_drop]
    go_quiet ((first
      | (go_at_call 15; exact Calls.quiet_of_same (awake_any _))
      | (go_at_call 16; exact Calls.quiet_of_same (sum_any _ _ (by assumption)))
      | (go_at_call 18; exact Calls.quiet_of_same (more_any _ _ _ (by assumption)))
      | (go_at_call 17; exact Calls.quiet_of_same (ref_more_any _ _ _ (by assumption)))))
    go_wp2
    go_ret
    exact ⟨rfl, _, rfl⟩
theorem walk (s : ByteArray) (hs : s.size ≤ maxLen) (a : Int) (wa : (Lit.int .u16 a).wf = true) (h : Int) (_wh : (Lit.int .u64 h).wf = true) (w : World) :
    Calls Try.prog 3 #[.string s, .int .u16 a, .int .u64 h] w fun e w' => e = .returned (.bool true) ∧ Below w.heap.size w w' := by
  have hb := bounds_u16 wa
  exact (walk0 s a h hb.1 hb.2 hs w).mono fun e w' ⟨he, n, hw⟩ => ⟨he, by rw [hw]; exact below_drewN (Below.refl _ _) n⟩
end Go.Proofs.Ytoojifhaaglljaa.fnvSums
