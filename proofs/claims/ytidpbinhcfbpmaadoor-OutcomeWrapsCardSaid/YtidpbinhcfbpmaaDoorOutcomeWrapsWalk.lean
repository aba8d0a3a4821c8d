/- 'OutcomeWraps' holds for every input: the walk over what came in. -/
import Derived.Test.YtidpbinhcfbpmaaDoorOutcomeWraps
import Derived.Test.YtidpbinhcfbpmaaDoorNums
namespace Go.Proofs.YtidpbinhcfbpmaaDoor.outcomeWraps
open Go.RowKit Errs Go.ChangeShapes Go.WideShapes

set_option maxRecDepth 100000 in
theorem walk {H : Type} {enc : TypeId × Value → H} {spare : Nat → Bool} {held : Bool} {w : World} {base : Nat} {v : Value} {d : DataW H} {p : List MemPlace} (c : Int) (_ : (Lit.int .i64 c).wf = true)
    (ok : Value.okWide Tryd.prog w .any base 23 v) (h : DataW.Trod enc Tryd.prog w 0 spare held 23 v d p) (x : Int) (_ : (Lit.int .i64 x).wf = true) (hg : Hg w) :
    Calls Tryd.prog 4 #[.int .i64 c, v, .int .i64 x] w fun e w' => e = .returned (.bool true) ∧ Below w.heap.size w w' := by
  obtain ⟨xs, _, hn⟩ := open_nums ok h
  by_cases hl : 40 < xs.length
  · obtain ⟨A, cap, rfl, _⟩ := hn
    exact wrap_long c x A _ cap hl w hg
  · by_cases hc : c = 0
    · subst hc
      obtain ⟨A, cap, rfl, _⟩ := hn
      exact wrap_ok x A _ cap hl w hg
    · by_cases hx : x = 1
      · subst hx
        by_cases ha : outK c (hasP 1 xs) = 3
        · exact wrap_low c hc xs v hl w hn hg ha
        · exact wrap_same c hc xs v hl w hn hg ha
      · exact wrap_other c x hc xs v hl w hn hg hx
end Go.Proofs.YtidpbinhcfbpmaaDoor.outcomeWraps
