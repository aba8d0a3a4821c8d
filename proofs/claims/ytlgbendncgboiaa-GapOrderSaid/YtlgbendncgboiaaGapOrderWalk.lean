/- 'GapOrder' holds for every input, with no condition: the walk over what came in. -/
import Derived.Test.YtlgbendncgboiaaGapOrder
import Derived.Test.YtlgbendncgboiaaNumsOpen64
namespace Go.Proofs.Ytlgbendncgboiaa.gapOrder
open Go Go.RowKit Go.ChangeShapes Go.WideShapes Gp

set_option maxRecDepth 100000 in
theorem walk {H : Type} {enc : TypeId × Value → H} {spare : Nat → Bool} {held : Bool} {w : World} {base : Nat} {v : Value} {d : DataW H} {p : List MemPlace}
    (ok : Value.okWide Try.prog w .any base 27 v) (h : DataW.Trod enc Try.prog w 0 spare held 27 v d p) (f : Int) (hf : (Lit.int .u64 f).wf = true) :
    Calls Try.prog 4 #[v, .int .u64 f] w fun e w' => e = .returned (.bool true) ∧ Below w.heap.size w w' := by
  simp [Lit.wf, IntKind.min, IntKind.max, IntKind.signed, IntKind.bits] at hf
  obtain ⟨A, len, cap, zs, rfl, hl, hr, hz⟩ := open_u64s ok h
  by_cases hc : 40 < len
  · exact order_long f A len cap hc w
  · exact order_few f hf.1 (by omega) A len cap zs (by omega) w hr hz
end Go.Proofs.Ytlgbendncgboiaa.gapOrder
