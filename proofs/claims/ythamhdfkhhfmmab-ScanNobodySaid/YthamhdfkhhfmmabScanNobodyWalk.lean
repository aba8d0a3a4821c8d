/- 'ScanNobody' holds for every input: the walk over what came in. -/
import Derived.Test.YthamhdfkhhfmmabScanNobody
import Derived.Test.YthamhdfkhhfmmabEvOpenE
namespace Go.Proofs.Ythamhdfkhhfmmab.scanNobody
open Go.RowKit Go.ChangeShapes Go.WideShapes
set_option maxRecDepth 100000 in
theorem walk {H : Type} {enc : TypeId × Value → H} {spare : Nat → Bool} {held : Bool} {w : World} {base : Nat} {v : Value} {d : DataW H} {p : List MemPlace}
    (ok : Value.okWide Try.prog w .any base 26 v) (h : DataW.Trod enc Try.prog w 0 spare held 26 v d p) (n : Int) (_ : (Lit.int .i64 n).wf = true) :
    Calls Try.prog 3 #[v, .int .i64 n] w fun e w' => e = .returned (.bool true) ∧ Below w.heap.size w w' := by
  obtain ⟨m, rfl, -⟩ := EvO.open_event_val ok h
  by_cases hl : 200 < m.d.size ∨ 200 < m.a.size
  · exact Wd.law_long m.k m.h m.c m.f m.s m.t m.d m.a n hl w
  · exact Wd.law0 m.k m.h m.c m.f m.s m.t m.d m.a n (by omega) (by omega) w
end Go.Proofs.Ythamhdfkhhfmmab.scanNobody
