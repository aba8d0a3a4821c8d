/- 'TraceParts' holds for every input: the walk over what came in. -/
import Derived.Test.YtfojmjgnndlfnabTrOpen
import Derived.Test.YtfojmjgnndlfnabTrMainFine
import Derived.Test.YtfojmjgnndlfnabTrMainBad
import Derived.Test.YtfojmjgnndlfnabTrMainNil
namespace Go.Proofs.Ytfojmjgnndlfnab.traceParts
open Go Go.RowKit Tr Go.Deep Go.WideShapes
theorem any {w : World} {O A : Option Addr} {on ocap n cap : Nat} {ord : Nat → Bool} {f : Nat → Mk} (ho : Bo w O on ord) (hon : on ≤ maxLen) (hr : Rd w A n f) (hn : n ≤ maxLen) (ht : ∀ i, 0 ≤ (f i).t) (hcap : n ≤ cap) (hcm : cap ≤ 9223372036854775807) (hA : (A = none ∧ n = 0 ∧ cap = 0) ∨ ∃ a, A = some a) :
    Calls Try.prog 3 #[.slice O on ocap, .slice A n cap] w fun e w' => e = .returned (.bool true) ∧ Below w.heap.size w w' := by
  have hF := few_any (O := O) (ocap := ocap) (cap := cap) hr (by unfold maxLen at hn; omega) (show on ≤ 9223372036854775807 by unfold maxLen at hon; omega)
  by_cases hb : n ≤ 40 ∧ on ≤ 20
  · have hC : Cx w O on ord A n f := ⟨ho, hr, by omega, by omega⟩
    by_cases h0 : n = 0
    · have hw : wy (fun i => wrongF ord on f i (f i)) n = 0 := by rw [h0]; rfl
      rcases hA with ⟨h1, _, _⟩ | h1
      · exact law_none hb.1 hC ht hcap hcm ⟨h0, h1⟩ hw hF
      · exact law_zero hb.1 hC ht hcap hcm ⟨h0, h1⟩ hw hF
    · have h1 : ∃ b off, A = some ⟨b, off, none⟩ := by
        obtain ⟨b, off, e, _⟩ := hr (by omega)
        exact ⟨b, off, e⟩
      by_cases hy : wy (fun i => wrongF ord on f i (f i)) n = 0
      · exact law_fine hb.1 hC ht hcap hcm h1 hy hF
      · exact law_bad hb.1 hC ht hcap hcm h1 hy hF
  · exact law_few (ord := ord) (f := f) hF hb
set_option maxRecDepth 100000 in
theorem walk {H : Type} {enc : TypeId × Value → H} {spare : Nat → Bool} {held : Bool} {w : World} {base : Nat} {v : Value} {d : DataW H} {p : List MemPlace} {base2 : Nat} {v2 : Value} {d2 : DataW H} {p2 : List MemPlace} {spare2 : Nat → Bool} {held2 : Bool}
    (ok : Value.okWide Try.prog w .any base 22 v) (h : DataW.Trod enc Try.prog w 0 spare held 22 v d p)
    (ok2 : Value.okWide Try.prog w .any base2 23 v2) (h2 : DataW.Trod enc Try.prog w 0 spare2 held2 23 v2 d2 p2) :
    Calls Try.prog 3 #[v, v2] w fun e w' => e = .returned (.bool true) ∧ Below w.heap.size w w' := by
  obtain ⟨O, on, ocap, ord, rfl, hl, ho⟩ := open_bs ok h
  obtain ⟨A, n, cap, f, rfl, hn, hcap, hcm, hr, ht, hA⟩ := open_marks ok2 h2
  exact any ho hl hr hn ht hcap hcm hA
end Go.Proofs.Ytfojmjgnndlfnab.traceParts
