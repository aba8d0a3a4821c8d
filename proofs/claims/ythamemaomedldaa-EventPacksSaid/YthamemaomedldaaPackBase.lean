/- How long the bytes of a list of texts are. -/
import Derived.Test.YthamemaomedldaaTextRef
namespace Go.Proofs.Ythamemaomedldaa.Msg
open Go Go.RowKit Num Texts

theorem textsL_len (B : Nat) (hB : B ≤ 1000000) : ∀ (ss : List ByteArray), (∀ x ∈ ss, x.size ≤ B) → (textsL ss).length ≤ ss.length * (B + 9)
  | [], _ => by simp [textsL]
  | s :: ss, h => by
    have h1 := textsL_len B hB ss (fun x hx => h x (by simp [hx]))
    have h2 := h s (by simp)
    have h3 := numS_size' s.size (by omega)
    have e : (textsL (s :: ss)).length = (numS s.size).size + s.size + (textsL ss).length := by
      show ((textL s) ++ textsL ss).length = _
      unfold textL
      simp only [List.length_append]
      have e1 : (numS s.size).data.toList.length = (numS s.size).size := by simp
      have e2 : s.data.toList.length = s.size := by simp
      omega
    rw [e, List.length_cons, Nat.succ_mul]
    omega
end Go.Proofs.Ythamemaomedldaa.Msg
