/- 'ConfMay': the walk over configs as they come in. -/
import Derived.Test.YtfdcofnccbhaaaaConfMay
import Derived.Test.YtfdcofnccbhaaaaConfOpen
namespace Go.Proofs.Ytfdcofnccbhaaaa.confMay
open Go.RowKit Conf
set_option maxRecDepth 100000 in
theorem walk {H : Type} {enc : TypeId × Value → H} {spare : Nat → Bool} {held : Bool} {w : World} {base : Nat} {v : Value} {d : DataW H} {p : List MemPlace}
    (ok : Value.okWide Try.prog w .any base 40 v) (h : DataW.Trod enc Try.prog w 0 spare held 40 v d p) (n : Int) (_ : (Lit.int .i64 n).wf = true) :
    Calls Try.prog 5 #[v, .int .i64 n] w fun e w' => e = .returned (.bool true) ∧ Below w.heap.size w w' := by
  obtain ⟨c, rfl, _⟩ := open_config_val ok h
  exact walk_any c n w
end Go.Proofs.Ytfdcofnccbhaaaa.confMay
