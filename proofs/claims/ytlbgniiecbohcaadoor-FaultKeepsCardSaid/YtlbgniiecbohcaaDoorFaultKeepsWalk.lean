/- 'FaultKeeps' holds for every input: the walk over what came in. -/
import Derived.Test.YtlbgniiecbohcaaDoorFaultKeeps
namespace Go.Proofs.YtlbgniiecbohcaaDoor.faultKeeps
open Go.RowKit Errs Go.ChangeShapes Go.WideShapes

set_option maxRecDepth 100000 in
theorem walk {H : Type} {enc : TypeId × Value → H} {spare : Nat → Bool} {held : Bool} {w : World} {base : Nat} {v : Value} {d : DataW H} {p : List MemPlace} (c : Int) (_ : (Lit.int .i64 c).wf = true)
    (ok : Value.okWide Tryd.prog w .any base 23 v) (h : DataW.Trod enc Tryd.prog w 0 spare held 23 v d p) (hg : Hg w) :
    Calls Tryd.prog 3 #[.int .i64 c, v] w fun e w' => e = .returned (.bool true) ∧ Below w.heap.size w w' := by
  obtain ⟨xs, _, hn⟩ := open_nums ok h
  by_cases hl : 40 < xs.length
  · obtain ⟨A, cap, rfl, _⟩ := hn
    exact fk_long c A _ cap hl w hg
  · by_cases hc : c = 0
    · subst hc
      obtain ⟨A, cap, rfl, _⟩ := hn
      exact fk_ok A _ cap hl w hg
    · exact fk_some c hc xs v hl w hn hg
end Go.Proofs.YtlbgniiecbohcaaDoor.faultKeeps
