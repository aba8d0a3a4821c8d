import Derived.Test.YtnjcenbmdcogpaaGreatDoorHexA
import Derived.Test.YtnjcenbmdcogpaaGreatDoorStpUnhex
/- The page's steps: a number of digits. -/
namespace Go.Proofs.YtnjcenbmdcogpaaGreatDoor.Sp
open Go Go.Lib Go.RowKit

theorem ix_str0 (d : ByteArray) (hk : 0 < d.size) (w : World) : (Instr.index 9 (.string d) (.int .i64 0)).run Tryz.prog w = .ok (.int .u8 ((d.data.toList.getD 0 0).toNat : Int)) w := ix_str d 0 hk w
theorem drop1 (l : Bs) (p : Nat) (h : p < l.length) : l.drop p = l.getD p 0 :: l.drop (p + 1) := by
  rw [List.drop_eq_getElem_cons h, List.getD_eq_getElem?_getD, List.getElem?_eq_getElem h]; rfl
theorem head_getD (l : Bs) (h : 0 < l.length) : l.head? = some (l.getD 0 0) := by cases l with | nil => simp at h | cons a t => rfl
def numE (l : Bs) : Ending := .returned (.tuple #[.int .u64 ((numL l).getD 0 : Nat), .bool (numL l).isSome])

set_option maxHeartbeats 1000000 in
theorem number_loop (s : ByteArray) (hs : s.size ≤ 1000000) (hne : s.data.toList ≠ []) (h48 : ¬ (1 < s.data.toList.length ∧ s.data.toList.head? = some 48)) (w : World) :
    Calls Tryz.prog 99 #[.string s] w fun e w' => e = numE s.data.toList ∧ w' = w := by
  have HE := Lib.hid (show numE s.data.toList = .returned (.tuple #[.int .u64 ((numAcc 0 s.data.toList).getD 0 : Nat), .bool (numAcc 0 s.data.toList).isSome]) by unfold numE numL; rw [if_neg (fun h => h.elim hne h48)])
  have HLen := Lib.hid (show s.data.toList.length = s.size by simp)
  have e1 : ¬ s.toList = [] := by rw [ByteArray.toList_eq]; exact hne
  have e2 : s.toList.isEmpty = false := by rw [List.isEmpty_eq_false_iff]; exact e1
  have hpos : 0 < s.size := by have := List.length_pos_iff.2 hne; rw [HLen.out] at this; exact this
  have hx0 := fun W => ix_str0 s hpos W
  have hhd := head_getD s.data.toList (by rw [HLen.out]; exact hpos)
  rw [hhd, HLen.out] at h48
  have hge1 : (1 : Int) ≤ (s.size : Int) := by omega
  clear hhd hne
  by_cases h1 : 1 < s.size
  · have h1i : (1 : Int) < (s.size : Int) := by omega
    have hz : ¬ s.data.toList.getD 0 0 = 48 := fun e => h48 ⟨h1, by rw [e]⟩
    have hz0 : (((s.data.toList.getD 0 0).toNat : Int) == 48) = false := by
      rw [beq_eq_false_iff_ne]; intro e
      exact hz (UInt8.toNat.inj (by show _ = 48; omega))
    clear hz h48 h1
    generalize (s.data.toList.getD 0 0).toNat = x0 at *
    go_enter Tryz.func99, Tryz.ntmps99
    go_upto_region 4 with fail
    clear hx0 hz0 e1 e2 h1i
    go_wp2_with fail
    go_loopw [4, 5] (fun n i wr => ∃ (k acc : Nat), i = .int .i64 (k : Int) ∧ k ≤ s.size ∧ n = .int .u64 (acc : Int) ∧ acc < 18446744073709551616 ∧ Hid (numAcc 0 s.data.toList = numAcc acc (s.data.toList.drop k)) ∧ wr = w) (fun _ i _ => s.size - (RowKit.intOf i).toNat)
    case atStart => exact ⟨0, 0, rfl, Nat.zero_le _, rfl, by decide, Lib.hid rfl, rfl⟩
    case round =>
      obtain ⟨k, acc, rfl, hk, rfl, hacc, HN, rfl⟩ := hrel
      have hacci : (acc : Int) < 18446744073709551616 := by omega
      have hacc0 : (0 : Int) ≤ (acc : Int) := by omega
      rcases Nat.lt_or_ge k s.size with hlt | hge
      · have hlti : (k : Int) < (s.size : Int) := by omega
        have hix := fun W => ix_str s k hlt W
        have hd := drop1 s.data.toList k (by rw [HLen.out]; exact hlt)
        have hn := HN.out
        rw [hd] at hn
        generalize s.data.toList.getD k 0 = c at *
        by_cases hc : c.toNat < 48
        · have HB := Lib.hid (show numE s.data.toList = .returned (.tuple #[.int .u64 0, .bool false]) by rw [HE.out, hn, numAcc, if_pos (.inl hc)]; rfl)
          have hci : (c.toNat : Int) < 48 := by omega
          clear hn hd HN hc hlt
          go_wp2
          go_ret2
          exact ⟨by rw [HB.out]; rfl, rfl⟩
        by_cases hc2 : 57 < c.toNat
        · have HB := Lib.hid (show numE s.data.toList = .returned (.tuple #[.int .u64 0, .bool false]) by rw [HE.out, hn, numAcc, if_pos (.inr hc2)]; rfl)
          have hci : ¬ (c.toNat : Int) < 48 := by omega
          have hci2 : (57 : Int) < (c.toNat : Int) := by omega
          clear hn hd HN hc hc2 hlt
          go_wp2
          go_ret2
          exact ⟨by rw [HB.out]; rfl, rfl⟩
        have hci : ¬ (c.toNat : Int) < 48 := by omega
        have hci2 : ¬ (57 : Int) < (c.toNat : Int) := by omega
        obtain ⟨d, hcd⟩ : ∃ d, c.toNat = d + 48 := ⟨c.toNat - 48, by omega⟩
        rw [numAcc, if_neg (by omega), show c.toNat - 48 = d by omega] at hn
        have hsub : (c.toNat : Int) - 48 = (d : Int) := by omega
        have hd9 : (d : Int) ≤ 9 := by omega
        have hd0 : (0 : Int) ≤ (d : Int) := by omega
        have hc256 : (c.toNat : Int) ≤ 57 := by omega
        clear hc hc2 hd HN
        generalize c.toNat = x at *
        have hx0' : (0 : Int) ≤ (x : Int) := by omega
        by_cases hb : 1844674407370955161 < acc
        · have HB := Lib.hid (show numE s.data.toList = .returned (.tuple #[.int .u64 0, .bool false]) by rw [HE.out, hn, if_pos (.inl hb)]; rfl)
          have hbi : (1844674407370955161 : Int) < (acc : Int) := by omega
          clear hn hb hlt hcd
          go_wp2
          go_ret2
          exact ⟨by rw [HB.out]; rfl, rfl⟩
        have hbi : ¬ (1844674407370955161 : Int) < (acc : Int) := by omega
        by_cases heq : acc = 1844674407370955161
        · have hq : ((acc : Int) == 1844674407370955161) = true := by simp [heq]
          by_cases h5 : 5 < d
          · have HB := Lib.hid (show numE s.data.toList = .returned (.tuple #[.int .u64 0, .bool false]) by rw [HE.out, hn, if_pos (.inr ⟨heq, h5⟩)]; rfl)
            have h5i : (5 : Int) < (d : Int) := by omega
            clear hn hb hlt hcd heq h5
            go_wp2
            go_ret2
            exact ⟨by rw [HB.out]; rfl, rfl⟩
          · have HG := Lib.hid (show numAcc 0 s.data.toList = numAcc (acc * 10 + d) (s.data.toList.drop (k + 1)) by rw [hn, if_neg (by omega)])
            have h5i : ¬ (5 : Int) < (d : Int) := by omega
            have hs1 : (acc : Int) * 10 < 18446744073709551616 := by omega
            have hs2 : (acc : Int) * 10 + (d : Int) < 18446744073709551616 := by omega
            have HS := Lib.hid (show acc * 10 + d < 18446744073709551616 by omega)
            have HK := Lib.hid hlt
            clear hn hb hlt hcd heq h5
            go_wp2
            go_roundw
            case rel => exact ⟨k + 1, acc * 10 + d, by go_num, by have := HK.out; omega, by go_num, HS.out, HG, trivial⟩
            case measure => have := HK.out; simp [RowKit.intOf]; omega
        · have hq : ((acc : Int) == 1844674407370955161) = false := by rw [beq_eq_false_iff_ne]; omega
          have HG := Lib.hid (show numAcc 0 s.data.toList = numAcc (acc * 10 + d) (s.data.toList.drop (k + 1)) by rw [hn, if_neg (by omega)])
          have hs1 : (acc : Int) * 10 < 18446744073709551616 := by omega
          have hs2 : (acc : Int) * 10 + (d : Int) < 18446744073709551616 := by omega
          have HS := Lib.hid (show acc * 10 + d < 18446744073709551616 by omega)
          have HK := Lib.hid hlt
          clear hn hb hlt hcd heq
          go_wp2
          go_roundw
          case rel => exact ⟨k + 1, acc * 10 + d, by go_num, by have := HK.out; omega, by go_num, HS.out, HG, trivial⟩
          case measure => have := HK.out; simp [RowKit.intOf]; omega
      · have hk2 : k = s.size := by omega
        have HB := Lib.hid (show numE s.data.toList = .returned (.tuple #[.int .u64 (acc : Int), .bool true]) by
          rw [HE.out, HN.out, List.drop_eq_nil_of_le (by rw [HLen.out]; omega)]; rfl)
        subst hk2
        go_wp2
        go_ret2
        exact ⟨by rw [HB.out]; rfl, rfl⟩
  · obtain hsz : s.size = 1 := by omega
    have h1i : ¬ (1 : Int) < (s.size : Int) := by omega
    clear h48 h1 hsz
    go_enter Tryz.func99, Tryz.ntmps99
    go_upto_region 4 with fail
    clear hx0 e1 e2 h1i
    go_wp2_with fail
    go_loopw [4, 5] (fun n i wr => ∃ (k acc : Nat), i = .int .i64 (k : Int) ∧ k ≤ s.size ∧ n = .int .u64 (acc : Int) ∧ acc < 18446744073709551616 ∧ Hid (numAcc 0 s.data.toList = numAcc acc (s.data.toList.drop k)) ∧ wr = w) (fun _ i _ => s.size - (RowKit.intOf i).toNat)
    case atStart => exact ⟨0, 0, rfl, Nat.zero_le _, rfl, by decide, Lib.hid rfl, rfl⟩
    case round =>
      obtain ⟨k, acc, rfl, hk, rfl, hacc, HN, rfl⟩ := hrel
      have hacci : (acc : Int) < 18446744073709551616 := by omega
      have hacc0 : (0 : Int) ≤ (acc : Int) := by omega
      rcases Nat.lt_or_ge k s.size with hlt | hge
      · have hlti : (k : Int) < (s.size : Int) := by omega
        have hix := fun W => ix_str s k hlt W
        have hd := drop1 s.data.toList k (by rw [HLen.out]; exact hlt)
        have hn := HN.out
        rw [hd] at hn
        generalize s.data.toList.getD k 0 = c at *
        by_cases hc : c.toNat < 48
        · have HB := Lib.hid (show numE s.data.toList = .returned (.tuple #[.int .u64 0, .bool false]) by rw [HE.out, hn, numAcc, if_pos (.inl hc)]; rfl)
          have hci : (c.toNat : Int) < 48 := by omega
          clear hn hd HN hc hlt
          go_wp2
          go_ret2
          exact ⟨by rw [HB.out]; rfl, rfl⟩
        by_cases hc2 : 57 < c.toNat
        · have HB := Lib.hid (show numE s.data.toList = .returned (.tuple #[.int .u64 0, .bool false]) by rw [HE.out, hn, numAcc, if_pos (.inr hc2)]; rfl)
          have hci : ¬ (c.toNat : Int) < 48 := by omega
          have hci2 : (57 : Int) < (c.toNat : Int) := by omega
          clear hn hd HN hc hc2 hlt
          go_wp2
          go_ret2
          exact ⟨by rw [HB.out]; rfl, rfl⟩
        have hci : ¬ (c.toNat : Int) < 48 := by omega
        have hci2 : ¬ (57 : Int) < (c.toNat : Int) := by omega
        obtain ⟨d, hcd⟩ : ∃ d, c.toNat = d + 48 := ⟨c.toNat - 48, by omega⟩
        rw [numAcc, if_neg (by omega), show c.toNat - 48 = d by omega] at hn
        have hsub : (c.toNat : Int) - 48 = (d : Int) := by omega
        have hd9 : (d : Int) ≤ 9 := by omega
        have hd0 : (0 : Int) ≤ (d : Int) := by omega
        have hc256 : (c.toNat : Int) ≤ 57 := by omega
        clear hc hc2 hd HN
        generalize c.toNat = x at *
        have hx0' : (0 : Int) ≤ (x : Int) := by omega
        by_cases hb : 1844674407370955161 < acc
        · have HB := Lib.hid (show numE s.data.toList = .returned (.tuple #[.int .u64 0, .bool false]) by rw [HE.out, hn, if_pos (.inl hb)]; rfl)
          have hbi : (1844674407370955161 : Int) < (acc : Int) := by omega
          clear hn hb hlt hcd
          go_wp2
          go_ret2
          exact ⟨by rw [HB.out]; rfl, rfl⟩
        have hbi : ¬ (1844674407370955161 : Int) < (acc : Int) := by omega
        by_cases heq : acc = 1844674407370955161
        · have hq : ((acc : Int) == 1844674407370955161) = true := by simp [heq]
          by_cases h5 : 5 < d
          · have HB := Lib.hid (show numE s.data.toList = .returned (.tuple #[.int .u64 0, .bool false]) by rw [HE.out, hn, if_pos (.inr ⟨heq, h5⟩)]; rfl)
            have h5i : (5 : Int) < (d : Int) := by omega
            clear hn hb hlt hcd heq h5
            go_wp2
            go_ret2
            exact ⟨by rw [HB.out]; rfl, rfl⟩
          · have HG := Lib.hid (show numAcc 0 s.data.toList = numAcc (acc * 10 + d) (s.data.toList.drop (k + 1)) by rw [hn, if_neg (by omega)])
            have h5i : ¬ (5 : Int) < (d : Int) := by omega
            have hs1 : (acc : Int) * 10 < 18446744073709551616 := by omega
            have hs2 : (acc : Int) * 10 + (d : Int) < 18446744073709551616 := by omega
            have HS := Lib.hid (show acc * 10 + d < 18446744073709551616 by omega)
            have HK := Lib.hid hlt
            clear hn hb hlt hcd heq h5
            go_wp2
            go_roundw
            case rel => exact ⟨k + 1, acc * 10 + d, by go_num, by have := HK.out; omega, by go_num, HS.out, HG, trivial⟩
            case measure => have := HK.out; simp [RowKit.intOf]; omega
        · have hq : ((acc : Int) == 1844674407370955161) = false := by rw [beq_eq_false_iff_ne]; omega
          have HG := Lib.hid (show numAcc 0 s.data.toList = numAcc (acc * 10 + d) (s.data.toList.drop (k + 1)) by rw [hn, if_neg (by omega)])
          have hs1 : (acc : Int) * 10 < 18446744073709551616 := by omega
          have hs2 : (acc : Int) * 10 + (d : Int) < 18446744073709551616 := by omega
          have HS := Lib.hid (show acc * 10 + d < 18446744073709551616 by omega)
          have HK := Lib.hid hlt
          clear hn hb hlt hcd heq
          go_wp2
          go_roundw
          case rel => exact ⟨k + 1, acc * 10 + d, by go_num, by have := HK.out; omega, by go_num, HS.out, HG, trivial⟩
          case measure => have := HK.out; simp [RowKit.intOf]; omega
      · have hk2 : k = s.size := by omega
        have HB := Lib.hid (show numE s.data.toList = .returned (.tuple #[.int .u64 (acc : Int), .bool true]) by
          rw [HE.out, HN.out, List.drop_eq_nil_of_le (by rw [HLen.out]; omega)]; rfl)
        subst hk2
        go_wp2
        go_ret2
        exact ⟨by rw [HB.out]; rfl, rfl⟩
theorem number_any (s : ByteArray) (hs : s.size ≤ 1000000) (w : World) :
    Calls Tryz.prog 99 #[.string s] w fun e w' => e = numE s.data.toList ∧ w' = w := by
  by_cases hne : s.data.toList = []
  · obtain rfl : s = ⟨#[]⟩ := Go.WideShapes.bytes_inj hne
    go_enter Tryz.func99, Tryz.ntmps99
    go_wp2
    go_ret2
    exact ⟨rfl, rfl⟩
  by_cases h48 : 1 < s.data.toList.length ∧ s.data.toList.head? = some 48
  · have HE := Lib.hid (show numE s.data.toList = .returned (.tuple #[.int .u64 0, .bool false]) by unfold numE numL; rw [if_pos (.inr h48)]; rfl)
    have e1 : ¬ s.toList = [] := by rw [ByteArray.toList_eq]; exact hne
    have e2 : s.toList.isEmpty = false := by rw [List.isEmpty_eq_false_iff]; exact e1
    have hlen : s.data.toList.length = s.size := by simp
    have hx0 := fun W => ix_str0 s (by omega) W
    rw [head_getD s.data.toList (by omega)] at h48
    have h1i : (1 : Int) < (s.size : Int) := by omega
    have hz : (s.data.toList.getD 0 0).toNat = 48 := by rw [Option.some.inj h48.2]; rfl
    rw [hz] at hx0
    clear hz h48 hlen hne
    go_enter Tryz.func99, Tryz.ntmps99
    go_wp2
    go_ret2
    exact ⟨by rw [HE.out]; rfl, rfl⟩
  · exact number_loop s hs hne h48 w
end Go.Proofs.YtnjcenbmdcogpaaGreatDoor.Sp
/- The page's steps: a small number; a hexadecimal digit; data of digits; the words of a line. -/
namespace Go.Proofs.YtnjcenbmdcogpaaGreatDoor.Sp
open Go Go.Lib Go.RowKit

def smE (l : Bs) (m : Nat) : Ending := .returned (.tuple #[.int .i64 ((sm l m).getD 0 : Nat), .bool (sm l m).isSome])
set_option maxHeartbeats 1000000 in
theorem small_any (s : ByteArray) (hs : s.size ≤ 1000000) (m : Nat) (hm : m ≤ 2147483647) (w : World) :
    Calls Tryz.prog 98 #[.string s, .int .i64 (m : Int)] w fun e w' => e = smE s.data.toList m ∧ w' = w := by
  have hN := number_any s hs w
  have hmi : (m : Int) ≤ 2147483647 := by omega
  have hmi0 : (0 : Int) ≤ (m : Int) := by omega
  unfold numE at hN
  cases hn : numL s.data.toList with
  | none =>
    have HE := Lib.hid (show smE s.data.toList m = .returned (.tuple #[.int .i64 0, .bool false]) by unfold smE sm; rw [hn]; rfl)
    rw [hn] at hN
    have hN : Calls Tryz.prog 99 #[.string s] w fun e w' => e = .returned (.tuple #[.int .u64 0, .bool false]) ∧ w' = w := hN
    clear hn
    go_enter Tryz.func98, Tryz.ntmps98
    go_wp2_with fail
    refine hN.mono ?_
    rintro _ w1 ⟨rfl, h1⟩
    obtain rfl := h1.symm
    go_wp2
    go_ret2
    exact ⟨by rw [HE.out]; rfl, rfl⟩
  | some u =>
    rw [hn] at hN
    have hN : Calls Tryz.prog 99 #[.string s] w fun e w' => e = .returned (.tuple #[.int .u64 (u : Int), .bool true]) ∧ w' = w := hN
    by_cases hu : u ≤ m
    · have HE := Lib.hid (show smE s.data.toList m = .returned (.tuple #[.int .i64 (u : Int), .bool true]) by unfold smE sm; rw [hn]; show Ending.returned (.tuple #[.int .i64 ((if u ≤ m then some u else none).getD 0 : Nat), .bool (if u ≤ m then some u else none).isSome]) = _; rw [if_pos hu]; rfl)
      have hui : ¬ (m : Int) < (u : Int) := by omega
      have hu3 : (u : Int) ≤ 2147483647 := by omega
      have hu0 : (0 : Int) ≤ (u : Int) := by omega
      clear hn hu
      go_enter Tryz.func98, Tryz.ntmps98
      go_wp2_with fail
      refine hN.mono ?_
      rintro _ w1 ⟨rfl, h1⟩
      obtain rfl := h1.symm
      go_wp2
      go_ret2
      exact ⟨by rw [HE.out]; rfl, rfl⟩
    · have HE := Lib.hid (show smE s.data.toList m = .returned (.tuple #[.int .i64 0, .bool false]) by unfold smE sm; rw [hn]; show Ending.returned (.tuple #[.int .i64 ((if u ≤ m then some u else none).getD 0 : Nat), .bool (if u ≤ m then some u else none).isSome]) = _; rw [if_neg hu]; rfl)
      have hui : (m : Int) < (u : Int) := by omega
      clear hn hu
      go_enter Tryz.func98, Tryz.ntmps98
      go_wp2_with fail
      refine hN.mono ?_
      rintro _ w1 ⟨rfl, h1⟩
      obtain rfl := h1.symm
      go_wp2
      go_ret2
      exact ⟨by rw [HE.out]; rfl, rfl⟩
theorem nibble_any (c : UInt8) (w : World) : Calls Tryz.prog 126 #[.int .u8 (c.toNat : Int)] w fun e w' => e = .returned (.int .i64 (nib c : Int)) ∧ w' = w := by
  have h256 := c.toNat_lt
  have hn : nib c = if 48 ≤ c.toNat ∧ c.toNat ≤ 57 then c.toNat - 48 else if 97 ≤ c.toNat ∧ c.toNat ≤ 102 then c.toNat - 87 else 16 := rfl
  generalize nib c = d at *
  generalize c.toNat = x at *
  have hx2 : (x : Int) ≤ 255 := by omega
  have hx0 : (0 : Int) ≤ (x : Int) := by omega
  by_cases a : 48 ≤ x
  · by_cases b : x ≤ 57
    · rw [if_pos ⟨a, b⟩] at hn
      have h1 : (48 : Int) ≤ (x : Int) := by omega
      have h2 : (x : Int) ≤ 57 := by omega
      have h3 : (x : Int) - 48 = (d : Int) := by omega
      clear hn a b h256
      go_enter Tryz.func126, Tryz.ntmps126
      go_wp2
      go_ret
      exact ⟨rfl, rfl⟩
    · rw [if_neg (by omega)] at hn
      have h1 : (48 : Int) ≤ (x : Int) := by omega
      have h2 : ¬ (x : Int) ≤ 57 := by omega
      by_cases e : 97 ≤ x
      · by_cases f : x ≤ 102
        · rw [if_pos ⟨e, f⟩] at hn
          have h3 : (97 : Int) ≤ (x : Int) := by omega
          have h4 : (x : Int) ≤ 102 := by omega
          have h5 : (x : Int) - 87 = (d : Int) := by omega
          clear hn a b e f h256
          go_enter Tryz.func126, Tryz.ntmps126
          go_wp2
          go_ret
          exact ⟨rfl, rfl⟩
        · rw [if_neg (by omega)] at hn
          have h3 : (97 : Int) ≤ (x : Int) := by omega
          have h4 : ¬ (x : Int) ≤ 102 := by omega
          subst hn
          clear a b e f h256
          go_enter Tryz.func126, Tryz.ntmps126
          go_wp2
          go_ret
          exact ⟨rfl, rfl⟩
      · rw [if_neg (by omega)] at hn
        have h3 : ¬ (97 : Int) ≤ (x : Int) := by omega
        subst hn
        clear a b e h256
        go_enter Tryz.func126, Tryz.ntmps126
        go_wp2
        go_ret
        exact ⟨rfl, rfl⟩
  · rw [if_neg (by omega), if_neg (by omega)] at hn
    have h1 : ¬ (48 : Int) ≤ (x : Int) := by omega
    have h3 : ¬ (97 : Int) ≤ (x : Int) := by omega
    subst hn
    clear a h256
    go_enter Tryz.func126, Tryz.ntmps126
    go_wp2
    go_ret
    exact ⟨rfl, rfl⟩
end Go.Proofs.YtnjcenbmdcogpaaGreatDoor.Sp
/- The page's steps: data of digits. -/
namespace Go.Proofs.YtnjcenbmdcogpaaGreatDoor.Sp
open Go Go.Lib Go.RowKit

def byE (l : Bs) : Ending := .returned (.tuple #[.string ⟨((bytesL l).getD []).toArray⟩, .bool (bytesL l).isSome])
theorem mul_fin : ∀ a b : Fin 16, ((UInt8.ofNat (16 * a.val + b.val)).toNat : Int) = 16 * (a.val : Int) + (b.val : Int) := by decide +kernel
theorem mul_or (a b : Nat) (ha : a ≤ 15) (hb : b ≤ 15) : ((UInt8.ofNat (16 * a + b)).toNat : Int) = 16 * (a : Int) + (b : Int) := mul_fin ⟨a, by omega⟩ ⟨b, by omega⟩
set_option maxRecDepth 100000 in
set_option maxHeartbeats 1000000 in
theorem bytes_any (s : ByteArray) (hs : s.size ≤ 1000000) (w : World) :
    Calls Tryz.prog 100 #[.string s] w fun e w' => e = byE s.data.toList ∧ Below w.heap.size w w' := by
  have HLen := Lib.hid (show s.data.toList.length = s.size by simp)
  by_cases h45 : s = ⟨#[45]⟩
  · subst h45
    go_enter Tryz.func100, Tryz.ntmps100
    go_wp2
    go_ret2
    exact ⟨rfl, Below.refl _ _⟩
  have n45 : s.data.toList ≠ [45] := fun e => h45 (Go.WideShapes.bytes_inj e)
  have f45 : (s.toList == [45]) = false := by rw [beq_eq_false_iff_ne, ByteArray.toList_eq]; exact n45
  clear h45
  by_cases hne : s.data.toList = []
  · obtain rfl : s = ⟨#[]⟩ := Go.WideShapes.bytes_inj hne
    go_enter Tryz.func100, Tryz.ntmps100
    go_wp2
    go_ret2
    exact ⟨rfl, Below.refl _ _⟩
  have e1 : ¬ s.toList = [] := by rw [ByteArray.toList_eq]; exact hne
  have e2 : s.toList.isEmpty = false := by rw [List.isEmpty_eq_false_iff]; exact e1
  by_cases hodd : s.size % 2 = 1
  · have HE := Lib.hid (show byE s.data.toList = .returned (.tuple #[.string ⟨#[]⟩, .bool false]) by unfold byE bytesL; rw [if_neg n45, if_pos (.inr (by rw [HLen.out]; exact hodd))]; rfl)
    have h1 : ((s.size : Int).tmod 2 == 1) = true := by rw [Int.tmod_eq_emod_of_nonneg (by omega)]; simp; omega
    have h2 : (s.size : Int) % 2 = 1 := by omega
    clear n45 hne hodd
    go_enter Tryz.func100, Tryz.ntmps100
    go_wp2
    go_ret2
    exact ⟨by rw [HE.out]; rfl, Below.refl _ _⟩
  have HE := Lib.hid (show byE s.data.toList = .returned (.tuple #[.string ⟨((unP s.data.toList).getD []).toArray⟩, .bool (unP s.data.toList).isSome]) by unfold byE bytesL; rw [if_neg n45, if_neg (fun h => h.elim hne (fun h => hodd (by rw [HLen.out] at h; exact h)))])
  have h1 : ((s.size : Int).tmod 2 == 1) = false := by rw [Int.tmod_eq_emod_of_nonneg (by omega), beq_eq_false_iff_ne]; omega
  have h2 : ¬ (s.size : Int) % 2 = 1 := by omega
  have h3 : ((s.size : Int) % 2 == 1) = false := by rw [beq_eq_false_iff_ne]; omega
  have HEv := Lib.hid (show s.size % 2 = 0 by omega)
  obtain ⟨i0, hinf, hy0, hy1, hy2⟩ := info_parts infoU8
  have HI := Lib.hid (And.intro hinf (And.intro hy0 (And.intro hy1 hy2)))
  clear hinf hy0 hy1 hy2 n45 hne hodd
  go_enter Tryz.func100, Tryz.ntmps100
  go_wp2_with fail
  clear e1 e2 f45 h1 h2 h3
  go_loopw [4, 5] (fun v i wr => ∃ (p : Nat) (xs : Bs), i = .int .i64 (p : Int) ∧ p % 2 = 0 ∧ p ≤ s.size ∧ xs.length ≤ p ∧ wr.ownsRow w.heap.size 5 1 v xs.length (Sha.vals (bv xs)) ∧ Below w.heap.size w wr ∧ Hid (unP s.data.toList = (unP (s.data.toList.drop p)).map (xs ++ ·))) (fun _ i _ => s.size - (RowKit.intOf i).toNat)
  case atStart => exact ⟨0, [], rfl, rfl, by omega, by simp, World.ownsRow_nil _ _ _ _, Below.refl _ _, Lib.hid (by simp)⟩
  case round =>
    obtain ⟨p, xs, rfl, hodd, hq, hxl, hown, hB, HU2⟩ := hrel
    obtain ⟨A1, c1, rfl⟩ := own_form hown
    have HW := Lib.hid hown
    have HO := Lib.hid hodd
    have HXL := Lib.hid hxl
    have HB0 := Lib.hid hB
    clear hown hodd hxl hB
    have p0 : (0 : Int) ≤ (p : Int) := by omega
    rcases Nat.lt_or_ge p s.size with hlt | hge
    · have hlt1 : p + 1 < s.size := by have := HEv.out; have := HO.out; omega
      have hlti : (p : Int) < (s.size : Int) := by omega
      have hd := drop2 s.data.toList p (by rw [HLen.out]; omega)
      have hx1 := fun W => ix_str s p hlt W
      have hx2 := fun W => ix_str s (p + 1) hlt1 W
      obtain ⟨q, hqp⟩ : ∃ q, p + 1 = q := ⟨_, rfl⟩
      rw [hqp] at hx2 hd
      rw [show p + 2 = q + 1 by omega] at hd
      generalize s.data.toList.getD p 0 = x at *
      generalize s.data.toList.getD q 0 = y at *
      have e1 : (p : Int) + 1 = (q : Int) := by omega
      have hqs : (q : Int) < (s.size : Int) := by omega
      have HD := Lib.hid hd
      have HP := Lib.hid hqp
      have hsz : (s.size : Int) ≤ 1000000 := by omega
      clear hd hlt hlt1 hqp
      have hcx := nibble_any x wr
      have hcy := nibble_any y wr
      by_cases hn : nib x ≤ 15 ∧ nib y ≤ 15
      · obtain ⟨n1, n2⟩ := hn
        have a1 : ¬ (15 : Int) < (nib x : Int) := by omega
        have a2 : ¬ (15 : Int) < (nib y : Int) := by omega
        have a3 : (nib x : Int) ≤ 15 := by omega
        have a4 : (nib y : Int) ≤ 15 := by omega
        have a5 : (0 : Int) ≤ (nib x : Int) := by omega
        have a6 : (0 : Int) ≤ (nib y : Int) := by omega
        have HUP := Lib.hid (show unP (x :: y :: s.data.toList.drop (q + 1)) = (unP (s.data.toList.drop (q + 1))).map (UInt8.ofNat (16 * nib x + nib y) :: ·) by rw [unP, if_neg (by omega)])
        have HBy := Lib.hid (mul_or (nib x) (nib y) n1 n2)
        clear n1 n2
        generalize nib x = a at *
        generalize nib y = b at *
        go_wp2_with fail
        refine hcx.mono ?_
        rintro _ w1 ⟨rfl, hw1⟩
        obtain rfl := hw1.symm
        go_wp2_with fail
        refine hcy.mono ?_
        rintro _ w2 ⟨rfl, hw2⟩
        obtain rfl := hw2.symm
        clear hcx hcy hx1 hx2 e1
        have hxs : xs.length ≤ 1000000 := by have := HXL.out; omega
        go_wp2_with (at_builtin; refine wpList_append_own _ rfl _ _ 75 rfl w.heap.size 5 i0 (.int .u8 0) 1 1 Tryz.underlying75 HI.out.1 HI.out.2.1 HI.out.2.2.1 HI.out.2.2.2 rfl (by decide) _ _ _ rfl (HW.out.alloc _) ⟨wr.heap.size, 0, none⟩ 1 1 [.int .u8 _] rfl rfl (news_u8 wr _) (one_u8 _) (by unfold maxLen; omega) (by omega) (by have := HB0.out.size; simp; omega) ?_)
        intro v' w4 hown4 hg4 _
        rw [← HBy.out, ← vals_snoc] at hown4
        have HB4 := Lib.hid (below_push HB0.out HB0.out.size HW.out hg4)
        have HW4 := Lib.hid hown4
        clear hown4 hg4
        go_wp2
        go_roundw
        case rel =>
          refine ⟨p + 2, xs ++ [UInt8.ofNat (16 * a + b)], by go_num, by have := HO.out; omega, by have := HP.out; omega, by have := HXL.out; rw [List.length_append]; simp; omega, by rw [List.length_append]; exact HW4.out, HB4.out, Lib.hid ?_⟩
          rw [HU2.out, HD.out, HUP.out, show p + 2 = q + 1 by have := HP.out; omega]
          cases unP (s.data.toList.drop (q + 1)) with
          | none => rfl
          | some t => simp
        case measure => simp [RowKit.intOf]; omega
      · have HR := Lib.hid (show byE s.data.toList = .returned (.tuple #[.string ⟨#[]⟩, .bool false]) by
          rw [HE.out, HU2.out, HD.out, unP, if_pos (by omega)]; rfl)
        by_cases n1 : nib x ≤ 15
        · have a1 : ¬ (15 : Int) < (nib x : Int) := by omega
          have a2 : (15 : Int) < (nib y : Int) := by omega
          clear n1 hn
          generalize nib x = a at *
          generalize nib y = b at *
          go_wp2_with fail
          refine hcx.mono ?_
          rintro _ w1 ⟨rfl, hw1⟩
          obtain rfl := hw1.symm
          go_wp2_with fail
          refine hcy.mono ?_
          rintro _ w2 ⟨rfl, hw2⟩
          obtain rfl := hw2.symm
          clear hcx hcy hx1 hx2 e1
          go_wp2
          go_ret2
          exact ⟨by rw [HR.out]; rfl, HB0.out⟩
        · have a1 : (15 : Int) < (nib x : Int) := by omega
          clear n1 hn
          generalize nib x = a at *
          generalize nib y = b at *
          go_wp2_with fail
          refine hcx.mono ?_
          rintro _ w1 ⟨rfl, hw1⟩
          obtain rfl := hw1.symm
          go_wp2_with fail
          refine hcy.mono ?_
          rintro _ w2 ⟨rfl, hw2⟩
          obtain rfl := hw2.symm
          clear hcx hcy hx1 hx2 e1
          go_wp2
          go_ret2
          exact ⟨by rw [HR.out]; rfl, HB0.out⟩
    · obtain rfl : p = s.size := by omega
      have HR := Lib.hid (show byE s.data.toList = .returned (.tuple #[.string ⟨xs.toArray⟩, .bool true]) by
        have : s.data.toList.drop s.size = [] := List.drop_eq_nil_of_le (by rw [HLen.out]; omega)
        rw [HE.out, HU2.out, this]; simp [unP])
      have hcv := Sha.own_text HW.out
      rw [bv_str] at hcv
      clear hge HW
      go_wp2
      go_ret2
      exact ⟨by rw [HR.out]; rfl, HB0.out⟩
end Go.Proofs.YtnjcenbmdcogpaaGreatDoor.Sp
