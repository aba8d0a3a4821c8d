import Derived.Test.YtnjcenbmdcogpaaGreatDoorHexA
/- The page's steps: a number of digits. -/
namespace Go.Proofs.YtnjcenbmdcogpaaGreatDoor.Sp
open Go Go.Lib Go.RowKit

theorem ix_str0 (d : ByteArray) (hk : 0 < d.size) (w : World) : (Instr.index 9 (.string d) (.int .i64 0)).run Tryz.prog w = .ok (.int .u8 ((d.data.toList.getD 0 0).toNat : Int)) w := ix_str d 0 hk w
theorem drop1 (l : Bs) (p : Nat) (h : p < l.length) : l.drop p = l.getD p 0 :: l.drop (p + 1) := by
  rw [List.drop_eq_getElem_cons h, List.getD_eq_getElem?_getD, List.getElem?_eq_getElem h]; rfl
theorem head_getD (l : Bs) (h : 0 < l.length) : l.head? = some (l.getD 0 0) := by cases l with | nil => simp at h | cons a t => rfl
def numE (l : Bs) : Ending := .returned (.tuple #[.int .u64 ((numL l).getD 0 : Nat), .bool (numL l).isSome])

set_option maxHeartbeats 1000000 in
theorem number_loop (s : ByteArray) (hs : s.size ≤ 1000000) (hne : s.data.toList ≠ []) (h48 : ¬ (1 < s.data.toList.length ∧ s.data.toList.head? = some 48)) (w : World) :
    Calls Tryz.prog 99 #[.string s] w fun e w' => e = numE s.data.toList ∧ w' = w := by
  have HE := Lib.hid (show numE s.data.toList = .returned (.tuple #[.int .u64 ((numAcc 0 s.data.toList).getD 0 : Nat), .bool (numAcc 0 s.data.toList).isSome]) by unfold numE numL; rw [if_neg (fun h => h.elim hne h48)])
  have HLen := Lib.hid (show s.data.toList.length = s.size by simp)
  have e1 : ¬ s.toList = [] := by rw [ByteArray.toList_eq]; exact hne
  have e2 : s.toList.isEmpty = false := by rw [List.isEmpty_eq_false_iff]; exact e1
  have hpos : 0 < s.size := by have := List.length_pos_iff.2 hne; rw [HLen.out] at this; exact this
  have hx0 := fun W => ix_str0 s hpos W
  have hhd := head_getD s.data.toList (by rw [HLen.out]; exact hpos)
  rw [hhd, HLen.out] at h48
  have hge1 : (1 : Int) ≤ (s.size : Int) := by omega
  clear hhd hne
  by_cases h1 : 1 < s.size
  · have h1i : (1 : Int) < (s.size : Int) := by omega
    have hz : ¬ s.data.toList.getD 0 0 = 48 := fun e => h48 ⟨h1, by rw [e]⟩
    have hz0 : (((s.data.toList.getD 0 0).toNat : Int) == 48) = false := by
      rw [beq_eq_false_iff_ne]; intro e
      exact hz (UInt8.toNat.inj (by show _ = 48; omega))
    clear hz h48 h1
    generalize (s.data.toList.getD 0 0).toNat = x0 at *
    go_enter Tryz.func99, Tryz.ntmps99
    go_upto_region 4 with fail
    clear hx0 hz0 e1 e2 h1i
    go_wp2_with fail
    go_loopw [4, 5] (fun n i wr => ∃ (k acc : Nat), i = .int .i64 (k : Int) ∧ k ≤ s.size ∧ n = .int .u64 (acc : Int) ∧ acc < 18446744073709551616 ∧ Hid (numAcc 0 s.data.toList = numAcc acc (s.data.toList.drop k)) ∧ wr = w) (fun _ i _ => s.size - (RowKit.intOf i).toNat)
    case atStart => exact ⟨0, 0, rfl, Nat.zero_le _, rfl, by decide, Lib.hid rfl, rfl⟩
    case round =>
      obtain ⟨k, acc, rfl, hk, rfl, hacc, HN, rfl⟩ := hrel
      have hacci : (acc : Int) < 18446744073709551616 := by omega
      have hacc0 : (0 : Int) ≤ (acc : Int) := by omega
      rcases Nat.lt_or_ge k s.size with hlt | hge
      · have hlti : (k : Int) < (s.size : Int) := by omega
        have hix := fun W => ix_str s k hlt W
        have hd := drop1 s.data.toList k (by rw [HLen.out]; exact hlt)
        have hn := HN.out
        rw [hd] at hn
        generalize s.data.toList.getD k 0 = c at *
        by_cases hc : c.toNat < 48
        · have HB := Lib.hid (show numE s.data.toList = .returned (.tuple #[.int .u64 0, .bool false]) by rw [HE.out, hn, numAcc, if_pos (.inl hc)]; rfl)
          have hci : (c.toNat : Int) < 48 := by omega
          clear hn hd HN hc hlt
          go_wp2
          go_ret2
          exact ⟨by rw [HB.out]; rfl, rfl⟩
        by_cases hc2 : 57 < c.toNat
        · have HB := Lib.hid (show numE s.data.toList = .returned (.tuple #[.int .u64 0, .bool false]) by rw [HE.out, hn, numAcc, if_pos (.inr hc2)]; rfl)
          have hci : ¬ (c.toNat : Int) < 48 := by omega
          have hci2 : (57 : Int) < (c.toNat : Int) := by omega
          clear hn hd HN hc hc2 hlt
          go_wp2
          go_ret2
          exact ⟨by rw [HB.out]; rfl, rfl⟩
        have hci : ¬ (c.toNat : Int) < 48 := by omega
        have hci2 : ¬ (57 : Int) < (c.toNat : Int) := by omega
        obtain ⟨d, hcd⟩ : ∃ d, c.toNat = d + 48 := ⟨c.toNat - 48, by omega⟩
        rw [numAcc, if_neg (by omega), show c.toNat - 48 = d by omega] at hn
        have hsub : (c.toNat : Int) - 48 = (d : Int) := by omega
        have hd9 : (d : Int) ≤ 9 := by omega
        have hd0 : (0 : Int) ≤ (d : Int) := by omega
        have hc256 : (c.toNat : Int) ≤ 57 := by omega
        clear hc hc2 hd HN
        generalize c.toNat = x at *
        have hx0' : (0 : Int) ≤ (x : Int) := by omega
        by_cases hb : 1844674407370955161 < acc
        · have HB := Lib.hid (show numE s.data.toList = .returned (.tuple #[.int .u64 0, .bool false]) by rw [HE.out, hn, if_pos (.inl hb)]; rfl)
          have hbi : (1844674407370955161 : Int) < (acc : Int) := by omega
          clear hn hb hlt hcd
          go_wp2
          go_ret2
          exact ⟨by rw [HB.out]; rfl, rfl⟩
        have hbi : ¬ (1844674407370955161 : Int) < (acc : Int) := by omega
        by_cases heq : acc = 1844674407370955161
        · have hq : ((acc : Int) == 1844674407370955161) = true := by simp [heq]
          by_cases h5 : 5 < d
          · have HB := Lib.hid (show numE s.data.toList = .returned (.tuple #[.int .u64 0, .bool false]) by rw [HE.out, hn, if_pos (.inr ⟨heq, h5⟩)]; rfl)
            have h5i : (5 : Int) < (d : Int) := by omega
            clear hn hb hlt hcd heq h5
            go_wp2
            go_ret2
            exact ⟨by rw [HB.out]; rfl, rfl⟩
          · have HG := Lib.hid (show numAcc 0 s.data.toList = numAcc (acc * 10 + d) (s.data.toList.drop (k + 1)) by rw [hn, if_neg (by omega)])
            have h5i : ¬ (5 : Int) < (d : Int) := by omega
            have hs1 : (acc : Int) * 10 < 18446744073709551616 := by omega
            have hs2 : (acc : Int) * 10 + (d : Int) < 18446744073709551616 := by omega
            have HS := Lib.hid (show acc * 10 + d < 18446744073709551616 by omega)
            have HK := Lib.hid hlt
            clear hn hb hlt hcd heq h5
            go_wp2
            go_roundw
            case rel => exact ⟨k + 1, acc * 10 + d, by go_num, by have := HK.out; omega, by go_num, HS.out, HG, trivial⟩
            case measure => have := HK.out; simp [RowKit.intOf]; omega
        · have hq : ((acc : Int) == 1844674407370955161) = false := by rw [beq_eq_false_iff_ne]; omega
          have HG := Lib.hid (show numAcc 0 s.data.toList = numAcc (acc * 10 + d) (s.data.toList.drop (k + 1)) by rw [hn, if_neg (by omega)])
          have hs1 : (acc : Int) * 10 < 18446744073709551616 := by omega
          have hs2 : (acc : Int) * 10 + (d : Int) < 18446744073709551616 := by omega
          have HS := Lib.hid (show acc * 10 + d < 18446744073709551616 by omega)
          have HK := Lib.hid hlt
          clear hn hb hlt hcd heq
          go_wp2
          go_roundw
          case rel => exact ⟨k + 1, acc * 10 + d, by go_num, by have := HK.out; omega, by go_num, HS.out, HG, trivial⟩
          case measure => have := HK.out; simp [RowKit.intOf]; omega
      · have hk2 : k = s.size := by omega
        have HB := Lib.hid (show numE s.data.toList = .returned (.tuple #[.int .u64 (acc : Int), .bool true]) by
          rw [HE.out, HN.out, List.drop_eq_nil_of_le (by rw [HLen.out]; omega)]; rfl)
        subst hk2
        go_wp2
        go_ret2
        exact ⟨by rw [HB.out]; rfl, rfl⟩
  · obtain hsz : s.size = 1 := by omega
    have h1i : ¬ (1 : Int) < (s.size : Int) := by omega
    clear h48 h1 hsz
    go_enter Tryz.func99, Tryz.ntmps99
    go_upto_region 4 with fail
    clear hx0 e1 e2 h1i
    go_wp2_with fail
    go_loopw [4, 5] (fun n i wr => ∃ (k acc : Nat), i = .int .i64 (k : Int) ∧ k ≤ s.size ∧ n = .int .u64 (acc : Int) ∧ acc < 18446744073709551616 ∧ Hid (numAcc 0 s.data.toList = numAcc acc (s.data.toList.drop k)) ∧ wr = w) (fun _ i _ => s.size - (RowKit.intOf i).toNat)
    case atStart => exact ⟨0, 0, rfl, Nat.zero_le _, rfl, by decide, Lib.hid rfl, rfl⟩
    case round =>
      obtain ⟨k, acc, rfl, hk, rfl, hacc, HN, rfl⟩ := hrel
      have hacci : (acc : Int) < 18446744073709551616 := by omega
      have hacc0 : (0 : Int) ≤ (acc : Int) := by omega
      rcases Nat.lt_or_ge k s.size with hlt | hge
      · have hlti : (k : Int) < (s.size : Int) := by omega
        have hix := fun W => ix_str s k hlt W
        have hd := drop1 s.data.toList k (by rw [HLen.out]; exact hlt)
        have hn := HN.out
        rw [hd] at hn
        generalize s.data.toList.getD k 0 = c at *
        by_cases hc : c.toNat < 48
        · have HB := Lib.hid (show numE s.data.toList = .returned (.tuple #[.int .u64 0, .bool false]) by rw [HE.out, hn, numAcc, if_pos (.inl hc)]; rfl)
          have hci : (c.toNat : Int) < 48 := by omega
          clear hn hd HN hc hlt
          go_wp2
          go_ret2
          exact ⟨by rw [HB.out]; rfl, rfl⟩
        by_cases hc2 : 57 < c.toNat
        · have HB := Lib.hid (show numE s.data.toList = .returned (.tuple #[.int .u64 0, .bool false]) by rw [HE.out, hn, numAcc, if_pos (.inr hc2)]; rfl)
          have hci : ¬ (c.toNat : Int) < 48 := by omega
          have hci2 : (57 : Int) < (c.toNat : Int) := by omega
          clear hn hd HN hc hc2 hlt
          go_wp2
          go_ret2
          exact ⟨by rw [HB.out]; rfl, rfl⟩
        have hci : ¬ (c.toNat : Int) < 48 := by omega
        have hci2 : ¬ (57 : Int) < (c.toNat : Int) := by omega
        obtain ⟨d, hcd⟩ : ∃ d, c.toNat = d + 48 := ⟨c.toNat - 48, by omega⟩
        rw [numAcc, if_neg (by omega), show c.toNat - 48 = d by omega] at hn
        have hsub : (c.toNat : Int) - 48 = (d : Int) := by omega
        have hd9 : (d : Int) ≤ 9 := by omega
        have hd0 : (0 : Int) ≤ (d : Int) := by omega
        have hc256 : (c.toNat : Int) ≤ 57 := by omega
        clear hc hc2 hd HN
        generalize c.toNat = x at *
        have hx0' : (0 : Int) ≤ (x : Int) := by omega
        by_cases hb : 1844674407370955161 < acc
        · have HB := Lib.hid (show numE s.data.toList = .returned (.tuple #[.int .u64 0, .bool false]) by rw [HE.out, hn, if_pos (.inl hb)]; rfl)
          have hbi : (1844674407370955161 : Int) < (acc : Int) := by omega
          clear hn hb hlt hcd
          go_wp2
          go_ret2
          exact ⟨by rw [HB.out]; rfl, rfl⟩
        have hbi : ¬ (1844674407370955161 : Int) < (acc : Int) := by omega
        by_cases heq : acc = 1844674407370955161
        · have hq : ((acc : Int) == 1844674407370955161) = true := by simp [heq]
          by_cases h5 : 5 < d
          · have HB := Lib.hid (show numE s.data.toList = .returned (.tuple #[.int .u64 0, .bool false]) by rw [HE.out, hn, if_pos (.inr ⟨heq, h5⟩)]; rfl)
            have h5i : (5 : Int) < (d : Int) := by omega
            clear hn hb hlt hcd heq h5
            go_wp2
            go_ret2
            exact ⟨by rw [HB.out]; rfl, rfl⟩
          · have HG := Lib.hid (show numAcc 0 s.data.toList = numAcc (acc * 10 + d) (s.data.toList.drop (k + 1)) by rw [hn, if_neg (by omega)])
            have h5i : ¬ (5 : Int) < (d : Int) := by omega
            have hs1 : (acc : Int) * 10 < 18446744073709551616 := by omega
            have hs2 : (acc : Int) * 10 + (d : Int) < 18446744073709551616 := by omega
            have HS := Lib.hid (show acc * 10 + d < 18446744073709551616 by omega)
            have HK := Lib.hid hlt
            clear hn hb hlt hcd heq h5
            go_wp2
            go_roundw
            case rel => exact ⟨k + 1, acc * 10 + d, by go_num, by have := HK.out; omega, by go_num, HS.out, HG, trivial⟩
            case measure => have := HK.out; simp [RowKit.intOf]; omega
        · have hq : ((acc : Int) == 1844674407370955161) = false := by rw [beq_eq_false_iff_ne]; omega
          have HG := Lib.hid (show numAcc 0 s.data.toList = numAcc (acc * 10 + d) (s.data.toList.drop (k + 1)) by rw [hn, if_neg (by omega)])
          have hs1 : (acc : Int) * 10 < 18446744073709551616 := by omega
          have hs2 : (acc : Int) * 10 + (d : Int) < 18446744073709551616 := by omega
          have HS := Lib.hid (show acc * 10 + d < 18446744073709551616 by omega)
          have HK := Lib.hid hlt
          clear hn hb hlt hcd heq
          go_wp2
          go_roundw
          case rel => exact ⟨k + 1, acc * 10 + d, by go_num, by have := HK.out; omega, by go_num, HS.out, HG, trivial⟩
          case measure => have := HK.out; simp [RowKit.intOf]; omega
      · have hk2 : k = s.size := by omega
        have HB := Lib.hid (show numE s.data.toList = .returned (.tuple #[.int .u64 (acc : Int), .bool true]) by
          rw [HE.out, HN.out, List.drop_eq_nil_of_le (by rw [HLen.out]; omega)]; rfl)
        subst hk2
        go_wp2
        go_ret2
        exact ⟨by rw [HB.out]; rfl, rfl⟩
theorem number_any (s : ByteArray) (hs : s.size ≤ 1000000) (w : World) :
    Calls Tryz.prog 99 #[.string s] w fun e w' => e = numE s.data.toList ∧ w' = w := by
  by_cases hne : s.data.toList = []
  · obtain rfl : s = ⟨#[]⟩ := Go.WideShapes.bytes_inj hne
    go_enter Tryz.func99, Tryz.ntmps99
    go_wp2
    go_ret2
    exact ⟨rfl, rfl⟩
  by_cases h48 : 1 < s.data.toList.length ∧ s.data.toList.head? = some 48
  · have HE := Lib.hid (show numE s.data.toList = .returned (.tuple #[.int .u64 0, .bool false]) by unfold numE numL; rw [if_pos (.inr h48)]; rfl)
    have e1 : ¬ s.toList = [] := by rw [ByteArray.toList_eq]; exact hne
    have e2 : s.toList.isEmpty = false := by rw [List.isEmpty_eq_false_iff]; exact e1
    have hlen : s.data.toList.length = s.size := by simp
    have hx0 := fun W => ix_str0 s (by omega) W
    rw [head_getD s.data.toList (by omega)] at h48
    have h1i : (1 : Int) < (s.size : Int) := by omega
    have hz : (s.data.toList.getD 0 0).toNat = 48 := by rw [Option.some.inj h48.2]; rfl
    rw [hz] at hx0
    clear hz h48 hlen hne
    go_enter Tryz.func99, Tryz.ntmps99
    go_wp2
    go_ret2
    exact ⟨by rw [HE.out]; rfl, rfl⟩
  · exact number_loop s hs hne h48 w
end Go.Proofs.YtnjcenbmdcogpaaGreatDoor.Sp
