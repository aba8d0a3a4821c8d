/- 'DigitPuts' holds for every input, with no condition: the bytes of any number, any text, any list of texts. -/
import Derived.Test.YtfdcofnccbhaaaaDigitAwake
import Derived.Test.YtfdcofnccbhaaaaDigitRef
import Derived.Test.YtfdcofnccbhaaaaTextsOpen
import Derived.OpenShut
import Derived.ProofKit
namespace Go.Proofs.Ytfdcofnccbhaaaa.digitPuts
open Go.RowKit Num Bld Texts DigitAwake

set_option maxHeartbeats 1000000 in
theorem walk_text (n : Nat) (s : ByteArray) (A : Option Addr) (len cap : Nat) (w : World) (hs : s.size ≤ maxLen) (h : 300 < s.size) :
    Calls Try.prog 3 #[.int .u64 (n : Int), .string s, .slice A len cap] w fun e w' => e = .returned (.bool true) ∧ Below w.heap.size w w' := by
  unfold maxLen at hs
  have h1 : (300 : Int) < (s.size : Int) := by omega
  go_enter Try.func3, Try.ntmps3
  go_wp2_with (go_at_call 13; ((with_reducible refine (awake_any _).mono ?_); rintro e w1 ⟨rfl, hb⟩))
  go_ret
  exact ⟨rfl, hb⟩

set_option maxHeartbeats 1000000 in
theorem walk_long (n : Nat) (s : ByteArray) (A : Option Addr) (len cap : Nat) (w : World) (hs : ¬ 300 < s.size) (h : 40 < len) (hm : len ≤ maxLen) :
    Calls Try.prog 3 #[.int .u64 (n : Int), .string s, .slice A len cap] w fun e w' => e = .returned (.bool true) ∧ Below w.heap.size w w' := by
  unfold maxLen at hm
  have h1 : ¬ (300 : Int) < (s.size : Int) := by omega
  have h2 : (40 : Int) < (len : Int) := by omega
  go_enter Try.func3, Try.ntmps3
  go_wp2_with (go_at_call 13; ((with_reducible refine (awake_any _).mono ?_); rintro e w1 ⟨rfl, hb⟩))
  go_ret
  exact ⟨rfl, hb⟩

theorem texts_small (ss : List ByteArray) (hs : ∀ i, (ss.getD i .empty).size ≤ 300) (k : Nat) (hk : k ≤ ss.length) : (textsL (ss.take k)).length ≤ 309 * k := by
  induction k with
  | zero => simp [textsL]
  | succ k ih =>
    have h1 := ih (by omega)
    rw [textsL_take ss k (by omega)]
    have h2 := hs k
    have h3 := numS_size' (ss.getD k .empty).size (by omega)
    have e1 : (numS (ss.getD k .empty).size).data.toList.length = (numS (ss.getD k .empty).size).size := by simp
    have e2 : (ss.getD k .empty).data.toList.length = (ss.getD k .empty).size := by simp
    have e3 : (textL (ss.getD k .empty)).length ≤ 309 := by unfold textL; rw [List.length_append]; omega
    simp only [List.length_append] at h1 ⊢
    omega

set_option maxRecDepth 20000 in
set_option maxHeartbeats 2000000 in
theorem walk_short (n : Nat) (hn : n < 18446744073709551616) (s : ByteArray) (A : Option Addr) (len cap : Nat) (ss : List ByteArray) (w : World) (hr : RdS w A len ss) (hs : ¬ 300 < s.size) (h : ¬ 40 < len) :
    Calls Try.prog 3 #[.int .u64 (n : Int), .string s, .slice A len cap] w fun e w' => e = .returned (.bool true) ∧ Below w.heap.size w w' := by
  have h1 : ¬ (300 : Int) < (s.size : Int) := by omega
  have h2 : ¬ (40 : Int) < (len : Int) := by omega
  have HN := Lib.hid hn; clear hn
  go_enter Try.func3, Try.ntmps3
  go_wp2
  go_loopw [7] (fun i wr => wr = w ∧ ∃ k : Nat, i = .int .i64 (k : Int) ∧ k ≤ len ∧ Hid (∀ j, j < k → (ss.getD j .empty).size ≤ 300)) (fun i _ => len - (intOf i).toNat)
  case atStart => exact ⟨rfl, 0, rfl, Nat.zero_le _, Lib.hid (by omega)⟩
  case round =>
    obtain ⟨rfl, k, rfl, hk, HA⟩ := hrel
    by_cases hlt : k < len
    · obtain ⟨b, off, rfl, hbl, hc0⟩ := hr.2 (by omega)
      have hc := hc0 k hlt
      clear hc0
      have hi0 : (0 : Int) ≤ (k : Int) := by omega
      have hi1 : (k : Int) < (len : Int) := by omega
      by_cases hz : 300 < (ss.getD k .empty).size
      · generalize ss.getD k .empty = x at hc hz
        have hz' : (300 : Int) < (x.size : Int) := by omega
        go_wp2_with (go_at_call 13; ((with_reducible refine (awake_any _).mono ?_); rintro e w1 ⟨rfl, hb⟩))
        go_ret
        exact ⟨rfl, hb⟩
      · have HZ := Lib.hid (show (ss.getD k .empty).size ≤ 300 by omega)
        have HA2 : Hid (∀ j, j < k + 1 → (ss.getD j .empty).size ≤ 300) := Lib.hid fun j hj => by
          rcases Nat.lt_or_ge j k with h | h
          · exact HA.out j h
          · obtain rfl : j = k := by omega
            exact HZ.out
        have hz' : ¬ (300 : Int) < ((ss.getD k .empty).size : Int) := by omega
        clear HZ
        generalize ss.getD k .empty = x at hc hz hz'
        go_wp2
        exact ⟨⟨trivial, k + 1, by go_num, by omega, HA2⟩, by simp [intOf]; omega⟩
    · obtain rfl : k = len := by omega
      have hall : ∀ i, (ss.getD i .empty).size ≤ 300 := fun i => by
        rcases Nat.lt_or_ge i k with h | h
        · exact HA.out i h
        · rw [List.getD_eq_getElem?_getD, List.getElem?_eq_none (by have := hr.1; omega)]; decide
      have ht : (textsL ss).length ≤ 309 * k := by
        have := texts_small ss hall k (by have := hr.1; omega)
        rwa [List.take_of_length_le (by have := hr.1; omega)] at this
      have hx : (textL s).length ≤ 309 := by
        have h3 := numS_size' s.size (by omega)
        have e1 : (numS s.size).data.toList.length = (numS s.size).size := by simp
        have e2 : s.data.toList.length = s.size := by simp
        unfold textL; rw [List.length_append]; omega
      have HH := Lib.hid (And.intro hall (And.intro ht hx))
      clear hall ht hx
      go_wp2_with fail
      refine (awake_any _).mono ?_
      rintro e w1 ⟨rfl, b1⟩
      go_wp2_with fail
      refine (num_any n HN.out _).mono ?_
      rintro e w2 ⟨rfl, b2⟩
      have B2 := Lib.hid (b1.trans (b2.mono b1.size)); clear b1 b2
      go_wp2_with fail
      refine (ref_num_any n HN.out _).mono ?_
      rintro e w3 ⟨rfl, b3⟩
      have B3 := Lib.hid (B2.out.trans (b3.mono B2.out.size)); clear b3 B2
      go_wp2_with fail
      refine (text_any s _ (by omega) (by have := HH.out.2.2; omega)).mono ?_
      rintro e w4 ⟨rfl, b4⟩
      have B4 := Lib.hid (B3.out.trans (b4.mono B3.out.size)); clear b4 B3
      go_wp2_with fail
      refine (ref_text_any s _ (by omega)).mono ?_
      rintro e w5 ⟨rfl, b5⟩
      have B5 := Lib.hid (B4.out.trans (b5.mono B4.out.size)); clear b5 B4
      go_wp2_with fail
      refine (list_any A k cap ss _ (hr.below B5.out) (by omega) (fun i => by have := HH.out.1 i; omega) (by have := HH.out.2.1; omega)).mono ?_
      rintro e w6 ⟨rfl, b6⟩
      have B6 := Lib.hid (B5.out.trans (b6.mono B5.out.size)); clear b6 B5
      go_wp2_with fail
      refine (ref_list_any A k cap ss _ (hr.below B6.out) (by omega) HH.out.1).mono ?_
      rintro e w7 ⟨rfl, b7⟩
      have B7 := Lib.hid (B6.out.trans (b7.mono B6.out.size)); clear b7 B6
      go_wp2
      go_ret
      exact ⟨rfl, B7.out⟩
set_option maxRecDepth 100000 in
theorem walk {H : Type} {enc : TypeId × Value → H} {spare : Nat → Bool} {held : Bool} {w : World} {base : Nat} {v : Value} {d : DataW H} {p : List MemPlace}
    (n : Int) (wn : (Lit.int .u64 n).wf = true) (s : ByteArray) (hs : s.size ≤ maxLen) (ok : Value.okWide Try.prog w .any base 23 v) (h : DataW.Trod enc Try.prog w 0 spare held 23 v d p) :
    Calls Try.prog 3 #[.int .u64 n, .string s, v] w fun e w' => e = .returned (.bool true) ∧ Below w.heap.size w w' := by
  obtain ⟨A, len, cap, ss, rfl, hl, hr, _⟩ := open_texts ok h
  have hb := bounds_u64 wn
  obtain ⟨m, rfl⟩ := Int.eq_ofNat_of_zero_le hb.1
  by_cases h1 : 300 < s.size
  · exact walk_text m s A len cap w hs h1
  · by_cases h2 : 40 < len
    · exact walk_long m s A len cap w h1 h2 hl
    · exact walk_short m (by omega) s A len cap ss w hr h1 h2
end Go.Proofs.Ytfdcofnccbhaaaa.digitPuts
