/- The page's List of longer parts. -/
import Derived.Test.YthamemaomedldaaDigitRef
namespace Go.Proofs.Ythamemaomedldaa.Texts
open Go.RowKit Num Bld

set_option maxRecDepth 20000 in
set_option maxHeartbeats 1000000 in
theorem ref_list_wide (A : Option Addr) (len cap : Nat) (ss : List ByteArray) (w : World) (h : RdS w A len ss) (hlen : len ≤ 40) (hs : ∀ i, (ss.getD i .empty).size ≤ 2000) :
    Calls Try.prog 10 #[.slice A len cap] w fun e w' => e = .returned (.string ⟨(listL ss).toArray⟩) ∧ Below w.heap.size w w' := by
  have hbound : ∀ k, k ≤ len → ((numS len).data.toList ++ textsL (ss.take k)).length ≤ 9 + 2009 * k := by
    intro k
    induction k with
    | zero => intro _; have := numS_size' len (by omega); simp [textsL]; omega
    | succ k ih =>
      intro hk
      have h1 := ih (by omega)
      rw [textsL_take ss k (by have := h.1; omega)]
      have h2 := hs k
      have h3 := numS_size' (ss.getD k .empty).size (by omega)
      have e1 : (numS (ss.getD k .empty).size).data.toList.length = (numS (ss.getD k .empty).size).size := by simp
      have e2 : (ss.getD k .empty).data.toList.length = (ss.getD k .empty).size := by simp
      have e3 : (textL (ss.getD k .empty)).length ≤ 2009 := by unfold textL; rw [List.length_append]; omega
      simp only [List.length_append] at h1 ⊢
      omega
  have HB := Lib.hid hbound; clear hbound
  have HS := Lib.hid hs; clear hs
  go_enter Try.func10, Try.ntmps10
  go_wp2_with fail
  refine (ref_num_any len (by omega) _).mono ?_
  rintro e w1 ⟨rfl, b1⟩
  go_wp2_with fail
  go_loopw [3, 4] (fun o i wr => ∃ k : Nat, i = .int .i64 (k : Int) ∧ k ≤ len ∧ o = .string ⟨((numS len).data.toList ++ textsL (ss.take k)).toArray⟩ ∧ Below w.heap.size w wr)
    (fun _ i _ => len - (intOf i).toNat)
  case atStart => exact ⟨0, rfl, Nat.zero_le _, by simp [textsL], b1⟩
  case round =>
    clear b1
    obtain ⟨k, rfl, hk, rfl, hb⟩ := hrel
    by_cases hlt : k < len
    · obtain ⟨b, off, rfl, hbl, hc⟩ := h.2 (by omega)
      have hc := (hb.cell (p := ⟨b, off + k, none⟩) hbl).trans (hc k hlt)
      have ht := textsL_take ss k (by have := h.1; omega)
      have hs := HS.out k
      have hle := HB.out (k + 1) (by omega)
      rw [ht] at hle
      generalize ss.getD k .empty = s at hc ht hs hle
      have hadd : ∀ W, (Op.stringOp .add (⟨((numS len).data.toList ++ textsL (ss.take k)).toArray⟩ : ByteArray) ⟨(textL s).toArray⟩).run Try.prog W = .ok (.string ⟨((numS len).data.toList ++ textsL (ss.take (k + 1))).toArray⟩) W := fun W => by
        rw [run_string_add_sum W _ _ (by simp only [ByteArray.size, List.size_toArray, List.length_append] at hle ⊢; omega), mk_append, ht, List.append_assoc]
      have HT := Lib.hid ht
      clear ht hle
      have hi0 : (0 : Int) ≤ (k : Int) := by omega
      have hi1 : (k : Int) < (len : Int) := by omega
      go_wp2_with fail
      refine (ref_text_any s _ (by omega)).mono ?_
      rintro e w2 ⟨rfl, b2⟩
      go_wp2
      exact ⟨⟨k + 1, by go_num, by omega, rfl, hb.trans (b2.mono hb.size)⟩, by simp [intOf]; omega⟩
    · have hk2 : k = len := by omega
      subst hk2
      go_wp2
      go_ret
      refine ⟨?_, hb⟩
      rw [List.take_of_length_le (by have := h.1; omega)]
      have e : listL ss = (numS k).data.toList ++ textsL ss := by unfold listL; rw [h.1]
      rw [e]
      rfl
end Go.Proofs.Ythamemaomedldaa.Texts
