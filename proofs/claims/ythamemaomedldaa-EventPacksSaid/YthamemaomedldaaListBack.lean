/- A list of texts that was put is read as it was. -/
import Derived.Test.YthamemaomedldaaReadBack
import Derived.Test.YthamemaomedldaaReadList
import Derived.Test.YthamemaomedldaaDigitRef
namespace Go.Proofs.Ythamemaomedldaa.Msg
open Go Go.RowKit Num Texts
open _root_.Go.Proofs.Ythamemaomedldaa.Rd (textR textsN listR text_back num_back ext_list)

theorem texts_back : ∀ (ss : List ByteArray) (s rest : ByteArray), (∀ x ∈ ss, x.size ≤ 1600) → s.data.toList = textsL ss ++ rest.data.toList → textsN ss.length s = (ss, 0, rest)
  | [], s, rest, _, hs => by
    have : s = rest := ext_list (by rw [hs]; rfl)
    rw [this]; rfl
  | d :: ss, s, rest, h, hs => by
    have hd := h d (by simp)
    obtain ⟨r, hr⟩ : ∃ r : ByteArray, r.data.toList = textsL ss ++ rest.data.toList := ⟨⟨(textsL ss ++ rest.data.toList).toArray⟩, by simp⟩
    have h1 := text_back 18446744073709551615 s d r (by omega) (by omega) (by rw [hs, hr]; show (textL d ++ textsL ss) ++ _ = _; unfold textL; simp)
    have h2 := texts_back ss r rest (fun x hx => h x (by simp [hx])) hr
    show textsN (ss.length + 1) s = _
    rw [textsN, h1]
    dsimp only
    rw [if_neg (by simp), h2]
    dsimp only
    rw [if_neg (by simp)]
theorem list_back (m : Nat) (ss : List ByteArray) (h : ∀ x ∈ ss, x.size ≤ 1600) (hm : ss.length ≤ m) (hl : ss.length ≤ 1024) : listR m ⟨(listL ss).toArray⟩ = (ss, 0, ⟨#[]⟩) := by
  obtain ⟨r, hr⟩ : ∃ r : ByteArray, r.data.toList = textsL ss := ⟨⟨(textsL ss).toArray⟩, by simp⟩
  have h1 := num_back 18446744073709551615 ss.length ⟨(listL ss).toArray⟩ r (by omega) (by omega) (by rw [hr]; simp [listL])
  have h2 := texts_back ss r ⟨#[]⟩ h (by rw [hr]; simp)
  unfold listR
  rw [h1]
  dsimp only
  rw [if_neg (by simp), if_neg (by omega), h2]
end Go.Proofs.Ythamemaomedldaa.Msg
