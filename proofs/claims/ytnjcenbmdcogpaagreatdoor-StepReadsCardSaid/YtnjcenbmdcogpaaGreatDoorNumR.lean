import Derived.Test.YtnjcenbmdcogpaaGreatDoorNum
import Derived.Test.YtnjcenbmdcogpaaGreatDoorNumB
/- The page's Num: the bytes of a number. -/
namespace Go.Proofs.YtnjcenbmdcogpaaGreatDoor.Num
open Go.RowKit

theorem u8_one (l : List Int) : ∀ u ∈ vals l, u.oneCell' = true := by
  intro u hu; simp only [vals, List.mem_map] at hu; obtain ⟨x, _, rfl⟩ := hu; rfl

set_option maxRecDepth 20000 in
set_option maxHeartbeats 400000 in
theorem ref_num_any (n : Nat) (hn : n < 18446744073709551616) (w : World) :
    Calls Tryz.prog 49 #[.int .u64 (n : Int)] w fun e w' => e = .returned (.string (numS n)) ∧ Below w.heap.size w w' := by
  obtain ⟨i0, hi, hz0, hz1, hz2⟩ := info_parts info5
  have HL : Hid ((dig n).length ≤ 8) := Lib.hid (dig_len (by simpa using hn))
  have HN := Lib.hid hn
  clear hn
  go_enter Tryz.func49, Tryz.ntmps49
  go_wp2
  go_loopw [0, 3] (fun x v wr => ∃ (m : Nat) (B : List Int), x = .int .u64 (m : Int) ∧ Hid (dig n = dig m ++ B ∧ m ≤ n) ∧ wr.ownsRow w.heap.size 5 1 v B.length (vals B) ∧ Below w.heap.size w wr)
    (fun x _ _ => (intOf x).toNat)
  case atStart => exact ⟨n, [], rfl, Lib.hid ⟨by simp, Nat.le_refl _⟩, World.ownsRow_nil _ _ _ _, Below.refl _ _⟩
  case round =>
    obtain ⟨m, B, rfl, HD, hown, hb⟩ := hrel
    obtain ⟨A, c, rfl⟩ := own_form hown
    have hsz := hb.size
    have hlen : B.length ≤ 8 := by have h1 := congrArg List.length HD.out.1; have h2 := HL.out; simp at h1; omega
    by_cases hz : 0 < m
    · have hm : (0 : Int) < (m : Int) := by omega
      have hnew : (wr.alloc (.cells #[.int .u8 ((m : Int) % 256)] 5)).ownsRow w.heap.size 5 1 (.slice (some ⟨wr.heap.size, 0, none⟩) 1 1) 1 (vals [(m : Int) % 256]) := World.ownsRow_lit _ _ 1 hsz (by decide) rfl
      go_wp2_with (at_builtin; refine wpList_append_rows rfl _ _ 75 rfl w.heap.size w.heap.size 5 i0 (.int .u8 0) 1 1 Tryz.underlying75 hi hz0 hz1 hz2 rfl (by decide) (.slice (some ⟨wr.heap.size, 0, none⟩) 1 1) 1 (vals [(m : Int) % 256]) rfl hnew _ _ _ rfl (hown.alloc _) (u8_one _) (by unfold maxLen; omega) (by omega) (by simp; omega) ?_; intro v1 w1 hown1 hg1)
      have hw : IntKind.u64.wrap ((m : Int) / 256) = ((m / 256 : Nat) : Int) := by
        have h1 := HD.out.2; have h2 := HN.out
        rw [IntWalk.u64_in _ ⟨by omega, by omega⟩]; rfl
      rw [hw]
      refine ⟨⟨m / 256, ((m : Int) % 256) :: B, rfl, Lib.hid ⟨?_, by have := HD.out.2; omega⟩, ?_, (hb.alloc hsz _).grown hg1 (by simp; omega) (own_ge hnew)⟩, by simp [intOf]; omega⟩
      · have h1 := HD.out.1; rw [dig_pos (m := m) (by omega)] at h1; rw [h1]; simp
      · rw [List.length_cons, Nat.add_comm]; exact hown1
    · have hm : m = 0 := by omega
      subst hm
      have hD := HD.out.1
      rw [dig_zero, List.nil_append] at hD
      subst hD
      have h1 := one_text wr ((dig n).length : Int)
      have h2 := own_text (hown.alloc (.cells #[.int .u8 ((dig n).length : Int)] 5))
      have h3 : (strOfNums [((dig n).length : Int)]).size + (strOfNums (dig n)).size ≤ 9223372036854775807 := by
        rw [strOfNums_size, strOfNums_size, List.length_singleton]; omega
      go_wp2
      go_ret
      exact ⟨rfl, hb.alloc hb.size _⟩
end Go.Proofs.YtnjcenbmdcogpaaGreatDoor.Num
/- The page's Num, of whole numbers as the walk has them. -/
namespace Go.Proofs.YtnjcenbmdcogpaaGreatDoor.Num
open Go.RowKit

theorem ref_num_int (x : Int) (h0 : 0 ≤ x) (h1 : x < 18446744073709551616) (w : World) :
    Calls Tryz.prog 49 #[.int .u64 x] w fun e w' => e = .returned (.string (kS x)) ∧ Below w.heap.size w w' := by
  obtain ⟨n, rfl⟩ := Int.eq_ofNat_of_zero_le h0
  unfold kS
  rw [Int.toNat_natCast, Nat.mod_eq_of_lt (by omega)]
  exact ref_num_any n (by omega) w

end Go.Proofs.YtnjcenbmdcogpaaGreatDoor.Num
