/- 'FaultOthers' holds for every input: the walk over what came in. -/
import Derived.Test.YtlbgniiecbohcaaDoorFaultOthers
namespace Go.Proofs.YtlbgniiecbohcaaDoor.faultOthers
open Go.RowKit Errs Go.ChangeShapes Go.WideShapes

set_option maxRecDepth 100000 in
theorem walk {H : Type} {enc : TypeId × Value → H} {spare : Nat → Bool} {held : Bool} {w : World} {base : Nat} {v : Value} {d : DataW H} {p : List MemPlace} (s : ByteArray) (_ : s.size ≤ maxLen)
    (ok : Value.okWide Tryd.prog w .any base 23 v) (h : DataW.Trod enc Tryd.prog w 0 spare held 23 v d p) (x : Int) (_ : (Lit.int .i64 x).wf = true) (hg : Hg w) :
    Calls Tryd.prog 4 #[.string s, v, .int .i64 x] w fun e w' => e = .returned (.bool true) ∧ Below w.heap.size w w' := by
  obtain ⟨xs, _, hn⟩ := open_nums ok h
  by_cases hl : 40 < xs.length ∨ 100 < s.size
  · obtain ⟨A, cap, rfl, _⟩ := hn
    exact fo_long s x A _ cap hl w hg
  · exact fo_few s x xs v (fun h => hl (Or.inl h)) (fun h => hl (Or.inr h)) w hn hg
end Go.Proofs.YtlbgniiecbohcaaDoor.faultOthers
