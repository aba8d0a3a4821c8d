/- Two numbers of 16 bits that came in, opened. -/
import Derived.Test.YtcanoegffffdfaaDoorShaSums
import Derived.Test.YtcanoegffffdfaaDoorShaLaid
namespace Go.Proofs.YtcanoegffffdfaaDoor.Sha
open Go Go.ChangeShapes Go.WideShapes Go.RowKit Go.Deep
variable {H : Type} {enc : TypeId × Value → H} {w : World} {base : Nat} {spare : Nat → Bool} {held : Bool}
set_option maxRecDepth 100000 in
theorem open_two {fuel : Nat} {cs : List Value} {x : DataW H × List MemPlace} (h : DataW.trod enc Tryd.prog w base spare held fuel 23 cs = some x) :
    ∃ p q : Int, cs = [.int .u16 p, .int .u16 q] ∧ (0 ≤ p ∧ p < 65536) ∧ (0 ≤ q ∧ q < 65536) := by
  obtain ⟨xs, m, _, _, hcl, hlen, hf⟩ := DataW.trod_array Tryd.underlying23 h
  have hc1 : Tryd.prog.cellsOf 22 = 1 := by kernel_rfl
  have hc2 : Tryd.prog.cellsOf 23 = 2 := by kernel_rfl
  rw [hc2] at hcl
  rw [hc1] at hf
  have get : ∀ i, i < 2 → ∃ a : Int, (cs.drop i).take 1 = [.int .u16 a] ∧ 0 ≤ a ∧ a < 65536 := fun i hi => by
    have h1 := hf i hi
    rw [Nat.mul_one, List.getElem?_eq_getElem (by omega)] at h1
    obtain ⟨a, e, _, wf⟩ := DataW.trod_int Tryd.underlying22 h1
    simp [Lit.wf, IntKind.min, IntKind.max, IntKind.bits, IntKind.signed] at wf
    exact ⟨a, e, by omega, by omega⟩
  obtain ⟨a0, e0, l0, u0⟩ := get 0 (by decide)
  obtain ⟨a1, e1, l1, u1⟩ := get 1 (by decide)
  refine ⟨a0, a1, ?_, ⟨l0, u0⟩, ⟨l1, u1⟩⟩
  match cs, hcl with
  | [b0, b1], _ => simp at e0 e1; subst e0 e1; rfl
end Go.Proofs.YtcanoegffffdfaaDoor.Sha
