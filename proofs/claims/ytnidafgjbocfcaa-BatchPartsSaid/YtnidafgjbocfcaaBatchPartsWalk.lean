/- 'BatchParts': its arguments opened. -/
import Derived.Test.YtnidafgjbocfcaaBatchLaw
namespace Go.Proofs.Ytnidafgjbocfcaa.batchParts
open Go.RowKit Go.Deep Go.WideShapes Msg

set_option maxRecDepth 100000 in
theorem walk {H : Type} {enc : TypeId × Value → H} {spare : Nat → Bool} {held : Bool} {w : World} {base : Nat} {v : Value} {d : DataW H} {p : List MemPlace}
    (ok : Value.okWide Try.prog w .any base 23 v) (h : DataW.Trod enc Try.prog w 0 spare held 23 v d p) (most : Int) (wf : (Lit.int .i64 most).wf = true) :
    Calls Try.prog 5 #[v, .int .i64 most] w fun e w' => e = .returned (.bool true) ∧ Below w.heap.size w w' := by
  obtain ⟨A, len, cap, ms, rfl, hl, hc, hr⟩ := open_msgs2 ok h
  unfold maxLen at hc
  by_cases hm : most < 1
  · exact law_less A len cap ms most w hr hl (by omega) hm
  · obtain ⟨m, rfl⟩ : ∃ m : Nat, most = (m : Int) := ⟨most.toNat, by omega⟩
    have hm2 : m ≤ 9223372036854775807 := by
      simp [Lit.wf] at wf
      omega
    exact law_more A len cap ms m w hr hl (by omega) (by omega) hm2
end Go.Proofs.Ytnidafgjbocfcaa.batchParts
