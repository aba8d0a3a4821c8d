/- 'GapAll' holds for every input, with no condition: the walk over what came in. -/
import Derived.Test.YtlgbendncgboiaaGapAll
import Derived.Test.YtlgbendncgboiaaNumsOpen8
namespace Go.Proofs.Ytlgbendncgboiaa.gapAll
open Go Go.RowKit Go.ChangeShapes Go.WideShapes Gp

set_option maxRecDepth 100000 in
theorem walk {H : Type} {enc : TypeId × Value → H} {spare : Nat → Bool} {held : Bool} {w : World} {base : Nat} {v : Value} {d : DataW H} {p : List MemPlace} (f : Int) (hf : (Lit.int .u64 f).wf = true)
    (ok : Value.okWide Try.prog w .any base 45 v) (h : DataW.Trod enc Try.prog w 0 spare held 45 v d p) :
    Calls Try.prog 5 #[.int .u64 f, v] w fun e w' => e = .returned (.bool true) ∧ Below w.heap.size w w' := by
  simp [Lit.wf, IntKind.min, IntKind.max, IntKind.signed, IntKind.bits] at hf
  obtain ⟨A, len, cap, zs, rfl, hl, hr, hz⟩ := open_bytes ok h
  by_cases hc : 60 < len
  · exact all_long f A len cap hc w
  · by_cases h2 : f ≤ 18446744073709551565
    · exact all_few f hf.1 h2 A len cap zs (by omega) w hr hz
    · exact all_high f (by omega) A len cap (by omega) w
end Go.Proofs.Ytlgbendncgboiaa.gapAll
