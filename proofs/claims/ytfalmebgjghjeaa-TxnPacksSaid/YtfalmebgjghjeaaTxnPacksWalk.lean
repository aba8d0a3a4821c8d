/- 'TxnPacks': its arguments opened. -/
import Derived.Test.YtfalmebgjghjeaaTxnPacks
namespace Go.Proofs.Ytfalmebgjghjeaa.txnPacks
open Go Go.RowKit Go.Deep Go.WideShapes Msg

set_option maxRecDepth 100000 in
theorem walk {H : Type} {enc : TypeId × Value → H} {spare : Nat → Bool} {held : Bool} {w : World} {base : Nat} {v : Value} {d : DataW H} {p : List MemPlace}
    (ok : Value.okWide Try.prog w .any base 22 v) (h : DataW.Trod enc Try.prog w 0 spare held 22 v d p) (b : Bool) :
    Calls Try.prog 3 #[v, .bool b] w fun e w' => e = .returned (.bool true) ∧ Below w.heap.size w w' := by
  obtain ⟨A, len, cap, qs, rfl, hl, hr, hq⟩ := open_txs_wf ok h
  unfold maxLen at hl
  by_cases hb : 20 < len
  · exact packs_long A len cap b w hb (by omega)
  · exact packs_main A len cap b qs w hr hq (by omega)
end Go.Proofs.Ytfalmebgjghjeaa.txnPacks
