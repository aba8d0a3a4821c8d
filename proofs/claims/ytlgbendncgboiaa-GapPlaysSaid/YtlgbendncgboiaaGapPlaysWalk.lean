/- 'GapPlays' holds for every input, with no condition: the walk over what came in. -/
import Derived.Test.YtlgbendncgboiaaGapPlays
import Derived.Test.YtlgbendncgboiaaPairsOpen
namespace Go.Proofs.Ytlgbendncgboiaa.gapPlays
open Go Go.RowKit Go.Deep Go.WideShapes Gp

set_option maxRecDepth 100000 in
theorem walk {H : Type} {enc : TypeId × Value → H} {spare : Nat → Bool} {held : Bool} {w : World} {base : Nat} {v : Value} {d : DataW H} {p : List MemPlace}
    (ok : Value.okWide Try.prog w .any base 22 v) (h : DataW.Trod enc Try.prog w 0 spare held 22 v d p) :
    Calls Try.prog 3 #[v] w fun e w' => e = .returned (.bool true) ∧ Below w.heap.size w w' := by
  obtain ⟨A, len, cap, zs, rfl, hl, hr, hz⟩ := open_pairs ok h
  by_cases hc : 80 < len
  · exact plays_long A len cap hc w
  · exact plays_few A len cap zs (by omega) w hr hz
end Go.Proofs.Ytlgbendncgboiaa.gapPlays
