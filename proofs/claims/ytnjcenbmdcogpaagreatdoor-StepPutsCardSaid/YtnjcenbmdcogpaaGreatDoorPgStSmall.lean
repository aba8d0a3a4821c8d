/- The page's steps: a small number; a hexadecimal digit; data of digits; the words of a line. -/
import Derived.Test.YtnjcenbmdcogpaaGreatDoorPgStNum
import Derived.Test.YtnjcenbmdcogpaaGreatDoorStpUnhex
namespace Go.Proofs.YtnjcenbmdcogpaaGreatDoor.Sp
open Go Go.Lib Go.RowKit

def smE (l : Bs) (m : Nat) : Ending := .returned (.tuple #[.int .i64 ((sm l m).getD 0 : Nat), .bool (sm l m).isSome])
set_option maxHeartbeats 1000000 in
theorem small_any (s : ByteArray) (hs : s.size ≤ 1000000) (m : Nat) (hm : m ≤ 2147483647) (w : World) :
    Calls Tryz.prog 98 #[.string s, .int .i64 (m : Int)] w fun e w' => e = smE s.data.toList m ∧ w' = w := by
  have hN := number_any s hs w
  have hmi : (m : Int) ≤ 2147483647 := by omega
  have hmi0 : (0 : Int) ≤ (m : Int) := by omega
  unfold numE at hN
  cases hn : numL s.data.toList with
  | none =>
    have HE := Lib.hid (show smE s.data.toList m = .returned (.tuple #[.int .i64 0, .bool false]) by unfold smE sm; rw [hn]; rfl)
    rw [hn] at hN
    have hN : Calls Tryz.prog 99 #[.string s] w fun e w' => e = .returned (.tuple #[.int .u64 0, .bool false]) ∧ w' = w := hN
    clear hn
    go_enter Tryz.func98, Tryz.ntmps98
    go_wp2_with fail
    refine hN.mono ?_
    rintro _ w1 ⟨rfl, h1⟩
    obtain rfl := h1.symm
    go_wp2
    go_ret2
    exact ⟨by rw [HE.out]; rfl, rfl⟩
  | some u =>
    rw [hn] at hN
    have hN : Calls Tryz.prog 99 #[.string s] w fun e w' => e = .returned (.tuple #[.int .u64 (u : Int), .bool true]) ∧ w' = w := hN
    by_cases hu : u ≤ m
    · have HE := Lib.hid (show smE s.data.toList m = .returned (.tuple #[.int .i64 (u : Int), .bool true]) by unfold smE sm; rw [hn]; show Ending.returned (.tuple #[.int .i64 ((if u ≤ m then some u else none).getD 0 : Nat), .bool (if u ≤ m then some u else none).isSome]) = _; rw [if_pos hu]; rfl)
      have hui : ¬ (m : Int) < (u : Int) := by omega
      have hu3 : (u : Int) ≤ 2147483647 := by omega
      have hu0 : (0 : Int) ≤ (u : Int) := by omega
      clear hn hu
      go_enter Tryz.func98, Tryz.ntmps98
      go_wp2_with fail
      refine hN.mono ?_
      rintro _ w1 ⟨rfl, h1⟩
      obtain rfl := h1.symm
      go_wp2
      go_ret2
      exact ⟨by rw [HE.out]; rfl, rfl⟩
    · have HE := Lib.hid (show smE s.data.toList m = .returned (.tuple #[.int .i64 0, .bool false]) by unfold smE sm; rw [hn]; show Ending.returned (.tuple #[.int .i64 ((if u ≤ m then some u else none).getD 0 : Nat), .bool (if u ≤ m then some u else none).isSome]) = _; rw [if_neg hu]; rfl)
      have hui : (m : Int) < (u : Int) := by omega
      clear hn hu
      go_enter Tryz.func98, Tryz.ntmps98
      go_wp2_with fail
      refine hN.mono ?_
      rintro _ w1 ⟨rfl, h1⟩
      obtain rfl := h1.symm
      go_wp2
      go_ret2
      exact ⟨by rw [HE.out]; rfl, rfl⟩
theorem nibble_any (c : UInt8) (w : World) : Calls Tryz.prog 126 #[.int .u8 (c.toNat : Int)] w fun e w' => e = .returned (.int .i64 (nib c : Int)) ∧ w' = w := by
  have h256 := c.toNat_lt
  have hn : nib c = if 48 ≤ c.toNat ∧ c.toNat ≤ 57 then c.toNat - 48 else if 97 ≤ c.toNat ∧ c.toNat ≤ 102 then c.toNat - 87 else 16 := rfl
  generalize nib c = d at *
  generalize c.toNat = x at *
  have hx2 : (x : Int) ≤ 255 := by omega
  have hx0 : (0 : Int) ≤ (x : Int) := by omega
  by_cases a : 48 ≤ x
  · by_cases b : x ≤ 57
    · rw [if_pos ⟨a, b⟩] at hn
      have h1 : (48 : Int) ≤ (x : Int) := by omega
      have h2 : (x : Int) ≤ 57 := by omega
      have h3 : (x : Int) - 48 = (d : Int) := by omega
      clear hn a b h256
      go_enter Tryz.func126, Tryz.ntmps126
      go_wp2
      go_ret
      exact ⟨rfl, rfl⟩
    · rw [if_neg (by omega)] at hn
      have h1 : (48 : Int) ≤ (x : Int) := by omega
      have h2 : ¬ (x : Int) ≤ 57 := by omega
      by_cases e : 97 ≤ x
      · by_cases f : x ≤ 102
        · rw [if_pos ⟨e, f⟩] at hn
          have h3 : (97 : Int) ≤ (x : Int) := by omega
          have h4 : (x : Int) ≤ 102 := by omega
          have h5 : (x : Int) - 87 = (d : Int) := by omega
          clear hn a b e f h256
          go_enter Tryz.func126, Tryz.ntmps126
          go_wp2
          go_ret
          exact ⟨rfl, rfl⟩
        · rw [if_neg (by omega)] at hn
          have h3 : (97 : Int) ≤ (x : Int) := by omega
          have h4 : ¬ (x : Int) ≤ 102 := by omega
          subst hn
          clear a b e f h256
          go_enter Tryz.func126, Tryz.ntmps126
          go_wp2
          go_ret
          exact ⟨rfl, rfl⟩
      · rw [if_neg (by omega)] at hn
        have h3 : ¬ (97 : Int) ≤ (x : Int) := by omega
        subst hn
        clear a b e h256
        go_enter Tryz.func126, Tryz.ntmps126
        go_wp2
        go_ret
        exact ⟨rfl, rfl⟩
  · rw [if_neg (by omega), if_neg (by omega)] at hn
    have h1 : ¬ (48 : Int) ≤ (x : Int) := by omega
    have h3 : ¬ (97 : Int) ≤ (x : Int) := by omega
    subst hn
    clear a h256
    go_enter Tryz.func126, Tryz.ntmps126
    go_wp2
    go_ret
    exact ⟨rfl, rfl⟩
end Go.Proofs.YtnjcenbmdcogpaaGreatDoor.Sp
