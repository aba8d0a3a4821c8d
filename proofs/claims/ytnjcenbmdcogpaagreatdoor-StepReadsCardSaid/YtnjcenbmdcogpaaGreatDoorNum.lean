/- digit.Num: the bytes of a number. -/
import Derived.Test.YtnjcenbmdcogpaaGreatDoorNum0
namespace Go.Proofs.YtnjcenbmdcogpaaGreatDoor.Num
open Go.RowKit

set_option maxRecDepth 20000 in
set_option maxHeartbeats 400000 in
theorem num_any (n : Nat) (hn : n < 18446744073709551616) (w : World) :
    Calls Tryz.prog 26 #[.int .u64 (n : Int)] w fun e w' => e = .returned (.string (numS n)) ∧ Below w.heap.size w w' := by
  obtain ⟨i0, hi, hz0, hz1, hz2⟩ := info_parts info5
  have HN := Lib.hid hn; clear hn
  go_enter Tryz.func26, Tryz.ntmps26
  go_wp2
  go_loopw [3, 4] (fun v i wr => ∃ j : Nat, j ≤ 8 ∧ i = .int .i64 (56 - 8 * (j : Int)) ∧ wr.ownsRow w.heap.size 5 1 v (dig (n / 2 ^ (64 - 8 * j))).length (vals (dig (n / 2 ^ (64 - 8 * j)))) ∧ Below w.heap.size w wr)
    (fun _ i _ => (64 + intOf i).toNat)
  case atStart =>
    refine ⟨0, by omega, rfl, ?_, Below.refl _ _⟩
    rw [show n / 2 ^ (64 - 8 * 0) = 0 from Nat.div_eq_of_lt (by simpa using HN.out), dig_zero]
    exact World.ownsRow_nil _ _ _ _
  case round =>
    obtain ⟨j, hj, rfl, hown, hb⟩ := hrel
    obtain ⟨A, c, rfl⟩ := own_form hown
    by_cases hlt : j < 8
    · have hs0 : (0 : Int) ≤ 56 - 8 * (j : Int) := by omega
      have hlen : (dig (n / 2 ^ (64 - 8 * j))).length ≤ 8 := dig_len (Nat.lt_of_le_of_lt (Nat.div_le_self _ _) (by simpa using HN.out))
      have hsz := hb.size
      have e1 : n / 2 ^ (56 - 8 * j) / 256 = n / 2 ^ (64 - 8 * j) := by
        rw [Nat.div_div_eq_div_mul, show (256 : Nat) = 2 ^ 8 from rfl, ← Nat.pow_add, show 56 - 8 * j + 8 = 64 - 8 * j from by omega]
      have e2 : 64 - 8 * (j + 1) = 56 - 8 * j := by omega
      have E : ∀ b, ((n / 2 ^ (56 - 8 * j) % 256 : Nat) : Int) = b → n / 2 ^ (56 - 8 * j) ≠ 0 → dig (n / 2 ^ (64 - 8 * (j + 1))) = dig (n / 2 ^ (64 - 8 * j)) ++ [b] := by
        intro b hb0 h0; rw [e2, dig_pos h0, e1, hb0]
      have E0 : n / 2 ^ (56 - 8 * j) = 0 → dig (n / 2 ^ (64 - 8 * (j + 1))) = dig (n / 2 ^ (64 - 8 * j)) := by
        intro h0; rw [e2, ← e1, h0]
      have HC := Lib.hid (show ((n / 2 ^ (56 - 8 * j) % 256 : Nat) : Int) = (n : Int) / 2 ^ (56 - 8 * j) % 256 from by push_cast; rfl)
      have E1 := Lib.hid e1; have EH := Lib.hid E; have EH0 := Lib.hid E0
      clear e1 e2 E E0
      by_cases hz : (n : Int) / 2 ^ (56 - 8 * j) % 256 = 0
      · by_cases hl : 0 < (dig (n / 2 ^ (64 - 8 * j))).length
        · go_wp2_with (at_builtin; refine wpList_append_own _ rfl _ _ 75 rfl w.heap.size 5 i0 (.int .u8 0) 1 1 Tryz.underlying75 hi hz0 hz1 hz2 rfl (by decide) _ _ _ rfl (hown.alloc _) ⟨wr.heap.size, 0, none⟩ 1 1 [.int .u8 0] rfl rfl (cell_one_new _ _ _) (one_one rfl) (by unfold maxLen; omega) (by omega) (by simp; omega) ?_; intro v1 w1 hown1 hg1 _)
          refine ⟨⟨j + 1, by omega, by go_num, ?_, below_push hb hsz hown hg1⟩, by simp [intOf]; omega⟩
          rw [EH.out 0 (HC.out.trans hz) (fun h0 => ?_), vals_snoc, List.length_append]
          · exact hown1
          · rw [← E1.out, h0, Nat.zero_div, dig_zero] at hl; simp at hl
        · go_wp2
          refine ⟨⟨j + 1, by omega, by go_num, ?_, hb⟩, by simp [intOf]; omega⟩
          have h0 : n / 2 ^ (56 - 8 * j) = 0 := by
            have h1 := dig_nil (m := n / 2 ^ (64 - 8 * j)) (by omega)
            rw [← E1.out] at h1
            have h2 : n / 2 ^ (56 - 8 * j) % 256 = 0 := by have := HC.out; rw [hz] at this; exact Int.ofNat.inj this
            omega
          rw [EH0.out h0]
          exact hown
      · have hz' : ((n : Int) / 2 ^ (56 - 8 * j) % 256 == 0) = false := by simpa using hz
        go_wp2_with (at_builtin; refine wpList_append_own _ rfl _ _ 75 rfl w.heap.size 5 i0 (.int .u8 0) 1 1 Tryz.underlying75 hi hz0 hz1 hz2 rfl (by decide) _ _ _ rfl (hown.alloc _) ⟨wr.heap.size, 0, none⟩ 1 1 [.int .u8 ((n : Int) / 2 ^ (56 - 8 * j) % 256)] rfl rfl (cell_one_new _ _ _) (one_one rfl) (by unfold maxLen; omega) (by omega) (by simp; omega) ?_; intro v1 w1 hown1 hg1 _)
        all_goals
          refine ⟨⟨j + 1, by omega, by go_num, ?_, below_push hb hsz hown hg1⟩, by simp [intOf]; omega⟩
          rw [EH.out _ HC.out (fun h0 => hz (by rw [← HC.out, h0]; rfl)), vals_snoc, List.length_append]
          exact hown1
    · have hj8 : j = 8 := by omega
      subst hj8
      have hlen : (dig (n / 2 ^ (64 - 8 * 8))).length ≤ 8 := dig_len (Nat.lt_of_le_of_lt (Nat.div_le_self _ _) (by simpa using HN.out))
      have h1 := one_text wr ((dig (n / 2 ^ (64 - 8 * 8))).length : Int)
      have h2 := own_text (hown.alloc (.cells #[.int .u8 ((dig (n / 2 ^ (64 - 8 * 8))).length : Int)] 5))
      have h3 : (strOfNums [((dig (n / 2 ^ (64 - 8 * 8))).length : Int)]).size + (strOfNums (dig (n / 2 ^ (64 - 8 * 8)))).size ≤ 9223372036854775807 := by
        rw [strOfNums_size, strOfNums_size, List.length_singleton]; omega
      rw [show n / 2 ^ (64 - 8 * 8) = n from by simp] at *
      go_wp2
      go_ret
      exact ⟨rfl, hb.alloc hb.size _⟩

end Go.Proofs.YtnjcenbmdcogpaaGreatDoor.Num
