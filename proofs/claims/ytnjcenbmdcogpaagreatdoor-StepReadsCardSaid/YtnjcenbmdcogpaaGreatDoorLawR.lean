import Derived.Test.YtnjcenbmdcogpaaGreatDoorStU
import Derived.Deep.QuietTactic
import Derived.BigQuiet
import Derived.Test.YtnjcenbmdcogpaaGreatDoorStRd
import Derived.Test.YtnjcenbmdcogpaaGreatDoorPgStRead
import Derived.Test.YtnjcenbmdcogpaaGreatDoorPgS
import Derived.Test.YtnjcenbmdcogpaaGreatDoorStepAwake
/- The page's Same of steps. -/
namespace Go.Proofs.YtnjcenbmdcogpaaGreatDoor.Sp
open Go Go.RowKit

theorem sneq_run (m : St) (W : World) : (binOp .neq 26 (.agg #[.int .i64 m.k, .int .i64 m.sd, .int .i64 m.n, .int .i64 m.c, .int .i64 m.f, .int .u64 m.s, .int .u64 m.t, .string m.d]) (.agg #[.int .i64 m.k, .int .i64 m.sd, .int .i64 m.n, .int .i64 m.c, .int .i64 m.f, .int .u64 m.s, .int .u64 m.t, .string m.d])).run Tryz.prog W = .ok (.bool false) W := by
  go_simp

set_option maxRecDepth 20000 in
set_option maxHeartbeats 1000000 in
theorem same_sts (A B : Option Addr) (n c d : Nat) (ms : List St) (w : World) (hn : n ≤ 9223372036854775807) (ha : RdT w A n ms) (hb : RdT w B n ms) :
    Calls Tryz.prog 22 #[.slice A n c, .slice B n d] w fun e w' => e = .returned (.bool true) ∧ Below w.heap.size w w' := by
  go_enter Tryz.func22, Tryz.ntmps22
  go_wp2
  go_loopw [5] (fun i wr => ∃ k : Nat, i = .int .i64 (k : Int) ∧ k ≤ n ∧ ∃ q, wr = w.drewN q) (fun i _ => n - (intOf i).toNat)
  case atStart => exact ⟨0, rfl, Nat.zero_le _, 0, rfl⟩
  case round =>
    obtain ⟨k, rfl, hk, q, rfl⟩ := hrel
    by_cases hlt : k < n
    · obtain ⟨b, off, rfl, _, hc⟩ := ha.at (Below.refl _ w) (by omega)
      obtain ⟨b', off', rfl, _, hc'⟩ := hb.at (Below.refl _ w) (by omega)
      have hck := hc k hlt
      have hck' := hc' k hlt
      clear hc hc' ha hb
      generalize ms.getD k St0 = m at hck hck'
      obtain ⟨c0, c1, c2, c3, c4, c5, c6, c7⟩ := hck
      obtain ⟨d0, d1, d2, d3, d4, d5, d6, d7⟩ := hck'
      have hne := sneq_run m
      have hi0 : (0 : Int) ≤ (k : Int) := by omega
      have hi1 : (k : Int) < (n : Int) := by omega
      go_wp2
      go_quiet (fail)
      go_wp2
      exact ⟨⟨k + 1, by go_num, by omega, _, rfl⟩, by simp [intOf]; omega⟩
    · obtain rfl : k = n := by omega
      go_wp2
      go_ret
      exact ⟨rfl, below_drewN (Below.refl _ _) _⟩
end Go.Proofs.YtnjcenbmdcogpaaGreatDoor.Sp
/- The law StepReads, of any two texts. -/
namespace Go.Proofs.YtnjcenbmdcogpaaGreatDoor.Sp
open Go Go.Lib Go.RowKit
set_option linter.unusedSimpArgs false
set_option linter.unusedVariables false

theorem eachS_len : ∀ (l : List ByteArray) (i : Nat), (Rd.eachS i l).1.length ≤ l.length
  | [], _ => Nat.le_refl _
  | s :: r, i => by
    have := eachS_len r (i + 1)
    unfold Rd.eachS
    split
    · exact Nat.zero_le _
    · split
      · exact Nat.zero_le _
      · simp only [List.length_cons]; omega
theorem eachP_len : ∀ (l : List Bs) (i : Nat), (eachP i l).1.length ≤ l.length
  | [], _ => Nat.le_refl _
  | s :: r, i => by
    have := eachP_len r (i + 1)
    unfold eachP
    split
    · exact Nat.zero_le _
    · split
      · exact Nat.zero_le _
      · simp only [List.length_cons]; omega
theorem unpackS_len (s : ByteArray) : (Rd.unpackS s).1.length ≤ 1024 := by
  have h := (Rd.R2.list_size ⟨s, 0⟩ 1024).1
  have h2 := eachS_len ((Rd.R2.mk s 0).list 1024).1 0
  unfold Rd.unpackS
  split
  · exact Nat.zero_le _
  · omega
theorem readS_len (l : Bs) : (readS l).1.length ≤ l.length := by
  have h := lnA_len l []
  have h2 := eachP_len (lnA [] l) 0
  unfold readS
  split
  · exact Nat.zero_le _
  · split
    · exact Nat.zero_le _
    · omega
theorem lnA_in : ∀ (l acc : Bs), ∀ y ∈ lnA acc l, y.length ≤ acc.length + l.length
  | [], acc, y, h => by simp [lnA] at h
  | c :: r, acc, y, h => by
    unfold lnA at h
    split at h
    · rcases List.mem_cons.1 h with rfl | h
      · simp only [List.length_cons]; omega
      · have := lnA_in r [] y h; simp only [List.length_cons, List.length_nil] at *; omega
    · have := lnA_in r (acc ++ [c]) y h; simp only [List.length_append, List.length_cons, List.length_nil] at *; omega
set_option maxRecDepth 100000 in
theorem reads_s (s t : ByteArray) (h : 1500 < s.size) (w : World) (ht : Dec.Tab w) : Calls Tryz.prog 5 #[.string s, .string t] w fun e w' => e = .returned (.bool true) ∧ Below w.heap.size w w' := by
  have hi : (1500 : Int) < (s.size : Int) := by omega
  have HA := Lib.hid (awake_any w ht)
  clear ht
  go_enter Tryz.func5, Tryz.ntmps5
  go_wp2_with fail
  refine HA.out.mono ?_
  rintro _ w1 ⟨rfl, hb1⟩
  go_wp2
  go_ret
  exact ⟨rfl, hb1⟩
set_option maxRecDepth 100000 in
theorem reads_t (s t : ByteArray) (h0 : s.size ≤ 1500) (h : 1500 < t.size) (w : World) (ht : Dec.Tab w) : Calls Tryz.prog 5 #[.string s, .string t] w fun e w' => e = .returned (.bool true) ∧ Below w.heap.size w w' := by
  have hi0 : ¬ (1500 : Int) < (s.size : Int) := by omega
  have hi : (1500 : Int) < (t.size : Int) := by omega
  have HA := Lib.hid (awake_any w ht)
  clear ht
  go_enter Tryz.func5, Tryz.ntmps5
  go_wp2_with fail
  refine HA.out.mono ?_
  rintro _ w1 ⟨rfl, hb1⟩
  go_wp2
  go_ret
  exact ⟨rfl, hb1⟩
set_option maxRecDepth 100000 in
set_option maxHeartbeats 1000000 in
theorem reads_main (s t : ByteArray) (hs : s.size ≤ 1500) (ht1 : t.size ≤ 1500) (w : World) (ht : Dec.Tab w) (hE : ErrsLie w) : Calls Tryz.prog 5 #[.string s, .string t] w fun e w' => e = .returned (.bool true) ∧ Below w.heap.size w w' := by
  have hi0 : ¬ (1500 : Int) < (s.size : Int) := by omega
  have hi1 : ¬ (1500 : Int) < (t.size : Int) := by omega
  have hln : ∀ y ∈ lnA [] t.data.toList, y.length ≤ 2000 := fun y hy => by
    have := lnA_in t.data.toList [] y hy
    have e : t.data.toList.length = t.size := by rw [Array.length_toList]; rfl
    simp only [List.length_nil] at this; omega
  have H1 := Lib.hid (fun W => Rd.sunpack_any s (by omega) W)
  have H2 := Lib.hid (fun W => Rd.psunpack_any s (by omega) W)
  have H3 := Lib.hid (fun (W : World) (h : Dec.Tab W) (h2 : ErrsLie W) => sread_any t (by omega) hln W h h2)
  have H4 := Lib.hid (fun W => pread_any t (by omega) hln W)
  have hul := unpackS_len s
  have hrl := readS_len t.data.toList
  have hrl2 : (readS t.data.toList).1.length ≤ 1500 := by
    have e : t.data.toList.length = t.size := by rw [Array.length_toList]; rfl
    omega
  generalize Rd.unpackS s = U at H1 H2 hul
  generalize readS t.data.toList = V at H3 H4 hrl2
  obtain ⟨us, ui, ue⟩ := U
  obtain ⟨vs, vi, ve⟩ := V
  dsimp only at H1 H2 H3 H4 hul hrl2
  have HT := Lib.hid ht
  have HEe := Lib.hid hE
  have HUl := Lib.hid (And.intro hul hrl2)
  clear hul hrl hrl2 hln ht hE hs ht1
  go_enter Tryz.func5, Tryz.ntmps5
  go_wp2_with fail
  refine (H1.out _).mono ?_
  rintro _ w1 ⟨⟨v1, rfl, hr1⟩, hb1⟩
  obtain ⟨A1, k1, rfl⟩ := own_form8 hr1
  have HR1 := Lib.hid (row_at hr1 rfl)
  have HB1 := Lib.hid (hb1)
  have HW1 := Lib.hid hb1
  clear hr1 hb1
  go_wp2_with fail
  refine (H2.out _).mono ?_
  rintro _ w2 ⟨⟨v2, rfl, hr2⟩, hb2⟩
  obtain ⟨A2, k2, rfl⟩ := own_form8 hr2
  have HR2 := Lib.hid (row_at hr2 rfl)
  have HB2 := Lib.hid (HB1.out.trans (hb2.mono HB1.out.size))
  have HW2 := Lib.hid hb2
  clear hr2 hb2
  go_wp2_with fail
  refine (H3.out _ (tabB HT.out HB2.out) (HEe.out.below HB2.out)).mono ?_
  rintro _ w3 ⟨⟨v3, rfl, hr3⟩, hb3⟩
  obtain ⟨A3, k3, rfl⟩ := own_form8 hr3
  have HR3 := Lib.hid (row_at hr3 rfl)
  have HB3 := Lib.hid (HB2.out.trans (hb3.mono HB2.out.size))
  have HW3 := Lib.hid hb3
  clear hr3 hb3
  go_wp2_with fail
  refine (H4.out _).mono ?_
  rintro _ w4 ⟨⟨v4, rfl, hr4⟩, hb4⟩
  obtain ⟨A4, k4, rfl⟩ := own_form8 hr4
  have HR4 := Lib.hid (row_at hr4 rfl)
  have HB4 := Lib.hid (HB3.out.trans (hb4.mono HB3.out.size))
  have HW4 := Lib.hid hb4
  clear hr4 hb4
  go_wp2_with fail
  refine (awake_any _ (tabB HT.out HB4.out)).mono ?_
  rintro _ w5 ⟨rfl, hb5⟩
  have HB5 := Lib.hid (HB4.out.trans (hb5.mono HB4.out.size))
  have HW5 := Lib.hid hb5
  clear hb5
  go_wp2_with fail
  refine (same_sts A1 A2 us.length k1 k2 us w5 (by have := HUl.out.1; omega) ((((HR1.out.below HW2.out).below HW3.out).below HW4.out).below HW5.out) (((HR2.out.below HW3.out).below HW4.out).below HW5.out)).mono ?_
  rintro _ w6 ⟨rfl, hb6⟩
  have HB6 := Lib.hid (HB5.out.trans (hb6.mono HB5.out.size))
  have HW6 := Lib.hid hb6
  clear hb6
  go_wp2_with fail
  refine (same_sts A3 A4 vs.length k3 k4 vs w6 (by have := HUl.out.2; omega) (((HR3.out.below HW4.out).below HW5.out).below HW6.out) ((HR4.out.below HW5.out).below HW6.out)).mono ?_
  rintro _ w7 ⟨rfl, hb7⟩
  have HB7 := Lib.hid (HB6.out.trans (hb7.mono HB6.out.size))
  clear hb7
  go_wp2
  go_ret
  exact ⟨rfl, HB7.out⟩
theorem readsWalk (s : ByteArray) (hs : s.size ≤ maxLen) (t : ByteArray) (ht1 : t.size ≤ maxLen) (w : World) (hg : Dec.Tab w ∧ ErrsLie w) : Calls Tryz.prog 5 #[.string s, .string t] w fun e w' => e = .returned (.bool true) ∧ Below w.heap.size w w' := by
  by_cases h : s.size ≤ 1500
  · by_cases h2 : t.size ≤ 1500
    · exact reads_main s t h h2 w hg.1 hg.2
    · exact reads_t s t h (by omega) w hg.1
  · exact reads_s s t (by omega) w hg.1
end Go.Proofs.YtnjcenbmdcogpaaGreatDoor.Sp
