/- Sizes of what a reader's List reads; an own row of texts reads as texts. -/
import Derived.Test.YthamemaomedldaaReadLists
namespace Go.Proofs.Ythamemaomedldaa.Rd
open Go Go.RowKit Num Texts

theorem textR_size (m : Nat) (s : ByteArray) : (textR m s).1.size ≤ s.size := by
  have := numR_rest 18446744073709551615 s
  unfold textR
  dsimp only
  split
  · exact Nat.zero_le _
  · split
    · exact Nat.zero_le _
    · split
      · exact Nat.zero_le _
      · show ((numR 18446744073709551615 s).2.2.extract _ _).size ≤ _
        rw [ByteArray.size_extract]; omega
theorem textsN_size : ∀ (n : Nat) (s : ByteArray), (textsN n s).1.length ≤ n ∧ ∀ x ∈ (textsN n s).1, x.size ≤ s.size
  | 0, s => ⟨Nat.le_refl _, fun x hx => by simp [textsN] at hx⟩
  | n + 1, s => by
    have h1 := textR_size 18446744073709551615 s
    have h2 := textR_rest 18446744073709551615 s
    have h3 := textsN_size n (textR 18446744073709551615 s).2.2
    unfold textsN
    split
    · exact ⟨Nat.zero_le _, fun x hx => by simp at hx⟩
    · split
      · exact ⟨Nat.zero_le _, fun x hx => by simp at hx⟩
      · refine ⟨by simp only [List.length_cons]; omega, fun x hx => ?_⟩
        rcases List.mem_cons.1 hx with rfl | hx
        · exact h1
        · have := h3.2 x hx; omega
theorem listR_size (m : Nat) (s : ByteArray) : (listR m s).1.length ≤ m ∧ ∀ x ∈ (listR m s).1, x.size ≤ s.size := by
  have h1 := numR_rest 18446744073709551615 s
  unfold listR
  split
  · exact ⟨Nat.zero_le _, fun x hx => by simp at hx⟩
  · split
    · exact ⟨Nat.zero_le _, fun x hx => by simp at hx⟩
    · have h3 := textsN_size (numR 18446744073709551615 s).1 (numR 18446744073709551615 s).2.2
      exact ⟨by have := h3.1; omega, fun x hx => by have := h3.2 x hx; omega⟩
theorem R2.list_size (r : R2) (m : Nat) : (r.list m).1.length ≤ m ∧ ∀ x ∈ (r.list m).1, x.size ≤ r.s.size := by
  unfold R2.list
  split
  · exact listR_size m r.s
  · exact ⟨Nat.zero_le _, fun x hx => by simp at hx⟩
/-- an own row of texts reads as texts -/
theorem own_rds {W : World} {base c : Nat} {A : Option Addr} {xs : List ByteArray} (h : W.ownsRow base 9 1 (.slice A xs.length c) xs.length (xs.map Value.string)) : RdS W A xs.length xs := by
  refine ⟨rfl, fun hl => ?_⟩
  rcases h.2 with ⟨_, h0⟩ | ⟨g, cap, cur, hv, _, hh, hc, _, hsz, htk⟩
  · have : xs = [] := by simpa using h0
    subst this; simp at hl
  · injection hv with hA _ hcc
    subst hA
    refine ⟨g, 0, rfl, (Array.getElem?_eq_some_iff.1 hh).1, fun i hi => ?_⟩
    rw [cell_of_row W g _ cur _ (0, 0) hh, ← Array.getElem?_toList]
    have h1 : (cur.toList.take (xs.length * 1))[0 + i]? = cur.toList[0 + i]? := List.getElem?_take_of_lt (by omega)
    rw [← h1, htk, Nat.zero_add, List.getElem?_map, List.getD_eq_getElem?_getD, List.getElem?_eq_getElem hi]; rfl
end Go.Proofs.Ythamemaomedldaa.Rd
