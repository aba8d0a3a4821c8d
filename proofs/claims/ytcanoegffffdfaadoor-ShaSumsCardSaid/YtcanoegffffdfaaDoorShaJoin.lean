/- Four parts of a text, put together, are the text. -/
import Derived.Test.YtcanoegffffdfaaDoorShaSums
namespace Go.Proofs.YtcanoegffffdfaaDoor.Sha
open Go Go.RowKit

theorem join_four (s : ByteArray) (i k : Nat) (h1 : i ≤ k) :
    (⟨(Lib.join ([s.extract 0 i, s.extract i k, ⟨#[]⟩, s.extract k s.size].map (·.data.toList)) []).toArray⟩ : ByteArray) = s := by
  have hl : s.data.toList.length = s.size := rfl
  have e : Lib.join ([s.extract 0 i, s.extract i k, ⟨#[]⟩, s.extract k s.size].map (·.data.toList)) [] = (s.extract 0 i).data.toList ++ ((s.extract i k).data.toList ++ (s.extract k s.size).data.toList) := by
    simp [Lib.join]
  rw [e, Lib.extract_data, Lib.extract_data, Lib.extract_data]
  have f : (s.data.toList.drop 0).take (i - 0) ++ ((s.data.toList.drop i).take (k - i) ++ (s.data.toList.drop k).take (s.size - k)) = s.data.toList := by
    rw [List.drop_zero, Nat.sub_zero, List.take_of_length_le (l := s.data.toList.drop k) (by simp [hl])]
    have g : (s.data.toList.drop i).take (k - i) ++ s.data.toList.drop k = s.data.toList.drop i := by
      have := List.take_append_drop (k - i) (s.data.toList.drop i)
      rw [List.drop_drop, show i + (k - i) = k by omega] at this
      exact this
    rw [g, List.take_append_drop]
  rw [f]
theorem join_one (s : ByteArray) : (⟨(Lib.join ([s].map (·.data.toList)) []).toArray⟩ : ByteArray) = s := by
  have e : Lib.join ([s].map (·.data.toList)) [] = s.data.toList := Lib.join_one _ _
  rw [e]
end Go.Proofs.YtcanoegffffdfaaDoor.Sha
