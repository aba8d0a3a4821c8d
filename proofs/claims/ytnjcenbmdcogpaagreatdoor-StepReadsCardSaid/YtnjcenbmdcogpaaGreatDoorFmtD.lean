import Derived.Test.YtnjcenbmdcogpaaGreatDoorNum0
import Derived.Lib.ItoaNum
import Derived.ProofKit
import Derived.ChangeSlices
import Derived.LoopIn
import Derived.LoopNIn
/- Digits of a number: sums. -/
namespace Go.Proofs.YtnjcenbmdcogpaaGreatDoor.Dec
open Go Go.RowKit Num

theorem dec_small {u : Nat} (h : u < 10) : Lib.decDigits u = [UInt8.ofNat (48 + u)] := by rw [Lib.decDigits, dif_pos h]
theorem dec_big {u : Nat} (h : ¬ u < 10) : Lib.decDigits u = Lib.decDigits (u / 10) ++ [UInt8.ofNat (48 + u % 10)] := by rw [Lib.decDigits, dif_neg h]

theorem dec_len20 (u : Nat) (hu : u < 18446744073709551616) : (Lib.decDigits u).length ≤ 20 := by
  rw [Lib.decDigits_length]
  by_cases h : 1 ≤ u
  · have := Lib.numDigits_eq u h hu
    split at this <;> omega
  · obtain rfl : u = 0 := by omega
    rw [Lib.nDigits_small (by omega)]
    omega
theorem bytes_eq (s : ByteArray) (l : List UInt8) (h : s.data.toList = l) : s = ⟨l.toArray⟩ := by
  cases s; simp only at h; rw [← h]

theorem itoa_neg (u : Nat) (h : 1 ≤ u) : Lib.itoa (-(u : Int)) = 45 :: Lib.decDigits u := by
  unfold Lib.itoa
  rw [if_pos (by omega)]
  have : (-(u : Int)).natAbs = u := by omega
  rw [this]
theorem itoa_pos (u : Nat) : Lib.itoa (u : Int) = Lib.decDigits u := by
  unfold Lib.itoa
  rw [if_neg (by omega)]
  rfl
end Go.Proofs.YtnjcenbmdcogpaaGreatDoor.Dec
/- The page's digits of a number, and of a whole number. -/
namespace Go.Proofs.YtnjcenbmdcogpaaGreatDoor.Dec
open Go Go.RowKit Num

set_option maxRecDepth 100000 in
set_option maxHeartbeats 1000000 in
theorem rdigits_any (u : Nat) (hu : u < 18446744073709551616) (w : World) :
    Calls Tryz.prog 53 #[.int .u64 (u : Int)] w fun e w' => e = .returned (.string ⟨(Lib.decDigits u).toArray⟩) ∧ Below w.heap.size w w' := by
  go_enter Tryz.func53, Tryz.ntmps53
  go_wp2
  go_loopw [0, 3] (fun n s wr => ∃ (m : Nat) (t : ByteArray), n = .int .u64 (m : Int) ∧ s = .string t ∧ m ≤ u ∧ Hid (Lib.decDigits u = Lib.decDigits m ++ t.data.toList) ∧ Hid (Below w.heap.size w wr)) (fun n _ _ => (intOf n).toNat)
  case atStart => exact ⟨u, ByteArray.empty, rfl, rfl, Nat.le_refl _, Lib.hid (by simp), Lib.hid (Below.refl _ _)⟩
  case round =>
    obtain ⟨m, t, rfl, rfl, hm, hd, hb⟩ := hrel
    have hT := one_text wr ((48 : Int) + (m : Int) % 10)
    have r0 : 0 ≤ (m : Int) % 10 := by omega
    have r1 : (m : Int) % 10 < 10 := by omega
    have rt : (m : Int).tmod 10 = (m : Int) % 10 := by rw [Int.tmod_eq_emod_of_nonneg (by omega)]
    have qt : (m : Int).tdiv 10 = (m : Int) / 10 := by rw [Int.tdiv_eq_ediv_of_nonneg (by omega)]
    have q0 : 0 ≤ (m : Int) / 10 := by omega
    have q1 : (m : Int) / 10 ≤ (m : Int) := by omega
    have hts : t.size ≤ 20 := by
      have h1 := congrArg List.length hd.out
      rw [List.length_append] at h1
      have h2 := dec_len20 u hu
      have h3 : t.data.toList.length = t.size := rfl
      omega
    have hsz : (strOfNums [(48 : Int) + (m : Int) % 10]).size = 1 := strOfNums_size _
    have hcat : ¬ 9223372036854775807 < (strOfNums [(48 : Int) + (m : Int) % 10]).size + t.size := by omega
    have hcat' : (strOfNums [(48 : Int) + (m : Int) % 10]).size + t.size ≤ 9223372036854775807 := by omega
    have HS := Lib.hid (show (strOfNums [(48 : Int) + (m : Int) % 10] ++ t).data.toList = [UInt8.ofNat (48 + m % 10)] ++ t.data.toList by
      rw [ByteArray.data_append, Array.toList_append, strOfNums_data]
      have : ((48 : Int) + (m : Int) % 10).toNat = 48 + m % 10 := by omega
      simp [this])
    clear hsz hts
    by_cases hlt : 9 < m
    · have HD := Lib.hid (show Lib.decDigits u = Lib.decDigits (m / 10) ++ ([UInt8.ofNat (48 + m % 10)] ++ t.data.toList) by rw [hd.out, dec_big (by omega), List.append_assoc])
      go_wp2
      exact ⟨⟨m / 10, _, by rw [Int.natCast_ediv]; rfl, rfl, by omega, Lib.hid (by rw [HS.out]; exact HD.out), Lib.hid (hb.out.alloc hb.out.size _)⟩, by simp [intOf]; omega⟩
    · have hmm : m % 10 = m := by omega
      have HD := Lib.hid (show Lib.decDigits u = [UInt8.ofNat (48 + m % 10)] ++ t.data.toList by rw [hd.out, dec_small (by omega), hmm])
      have hm10 : (m : Int) % 10 = (m : Int) := by omega
      rw [hm10] at hT hcat hcat' HS
      go_wp2
      go_ret
      exact ⟨by rw [bytes_eq _ _ (HS.out.trans HD.out.symm)]; rfl, hb.out.alloc hb.out.size _⟩

set_option maxRecDepth 100000 in
set_option maxHeartbeats 1000000 in
theorem rwhole_any (n : Int) (h0 : -9223372036854775808 ≤ n) (h1 : n ≤ 9223372036854775807) (w : World) :
    Calls Tryz.prog 52 #[.int .i64 n] w fun e w' => e = .returned (.string ⟨(Lib.itoa n).toArray⟩) ∧ Below w.heap.size w w' := by
  by_cases hneg : n < 0
  · obtain ⟨u, rfl⟩ : ∃ u : Nat, n = -((u : Int) + 1) := ⟨(-n - 1).toNat, by omega⟩
    have hu : u + 1 < 18446744073709551616 := by omega
    have HD := Lib.hid (rdigits_any (u + 1) hu w)
    have hlen := dec_len20 (u + 1) hu
    have hI := Lib.hid (show Lib.itoa (-((u : Int) + 1)) = 45 :: Lib.decDigits (u + 1) from itoa_neg (u + 1) (by omega))
    obtain ⟨ds, hds⟩ : ∃ ds, ds = Lib.decDigits (u + 1) := ⟨_, rfl⟩
    rw [← hds] at HD hlen hI
    have he : -(-((u : Int) + 1) + 1) = (u : Int) := by omega
    have hcast : ((u + 1 : Nat) : Int) = (u : Int) + 1 := by omega
    rw [hcast] at HD
    clear hds hcast
    go_enter Tryz.func52, Tryz.ntmps52
    go_wp2_with fail
    refine HD.out.mono ?_
    rintro e w1 ⟨rfl, hb⟩
    have HB := Lib.hid hb
    have hsz : ByteArray.size { data := ds.toArray } = ds.length := by simp [ByteArray.size]
    go_wp2
    go_ret
    refine ⟨?_, HB.out⟩
    rw [hI.out, ← bytes_eq ((⟨#[45]⟩ : ByteArray) ++ ⟨ds.toArray⟩) (45 :: ds) (by simp [ByteArray.data_append])]
    rfl
  · obtain ⟨u, rfl⟩ : ∃ u : Nat, n = (u : Int) := ⟨n.toNat, by omega⟩
    have HD := Lib.hid (rdigits_any u (by omega) w)
    rw [itoa_pos]
    go_enter Tryz.func52, Tryz.ntmps52
    go_wp2_with fail
    refine HD.out.mono ?_
    rintro e w1 ⟨rfl, hb⟩
    go_wp2
    go_ret
    exact ⟨rfl, hb⟩
end Go.Proofs.YtnjcenbmdcogpaaGreatDoor.Dec
