/- 'PoolOwn': its argument opened. -/
import Derived.Test.YtjjomlideieofaaPoolOwnLaw
import Derived.ChangeSlices
namespace Go.Proofs.Ytjjomlideieofaa.poolOwn
open Go Go.RowKit Go.Deep Go.WideShapes Msg

set_option maxRecDepth 100000 in
theorem open_tx_nil {H : Type} {enc : TypeId × Value → H} {w : World} {base : Nat} {spare : Nat → Bool} {held : Bool} {fuel : Nat} {t : T4} {x : DataW H × List MemPlace} (h : DataW.trod enc Try.prog w base spare held fuel 40 t.cells.toList = some x) : t.A = none → t.cap = 0 := by
  intro hn
  obtain ⟨xs, n, _, _, hcl, hlen, hf⟩ := DataW.trod_struct Try.underlying40 h
  obtain ⟨y3, h3⟩ := field_at hlen hf 3 _ rfl rfl
  have e : (t.cells.toList.drop 3).take 1 = [.slice t.A t.len t.cap] := rfl
  rcases open_slice Try.underlying38 h3 with ⟨hcs, _⟩ | ⟨a, len', cap', m, n, D, Pl, hcs, _⟩
  · have hcs' := e.symm.trans hcs
    simp at hcs'
    exact hcs'.2.2
  · have hcs' := e.symm.trans hcs
    simp [hn] at hcs'

set_option maxRecDepth 100000 in
theorem walk {H : Type} {enc : TypeId × Value → H} {spare : Nat → Bool} {held : Bool} {w : World} {base : Nat} {v : Value} {d : DataW H} {p : List MemPlace}
    (ok : Value.okWide Try.prog w .any base 40 v) (h : DataW.Trod enc Try.prog w 0 spare held 40 v d p) :
    Calls Try.prog 5 #[v] w fun e w' => e = .returned (.bool true) ∧ Below w.heap.size w w' := by
  obtain ⟨cs, rfl, _⟩ := okWide_struct Try.underlying40 ok
  obtain ⟨fuel, hf⟩ := h
  obtain ⟨t, hm, ht⟩ := open_tx (cs := cs.toList) hf
  obtain rfl : cs = t.cells := Array.toList_inj.1 hm
  exact own_law t w ht (open_tx_nil hf)
end Go.Proofs.Ytjjomlideieofaa.poolOwn
