/- 'LineOnce': acts that came in. -/
import Derived.Test.YtdljphbfbiganaaDoorLineOnce
namespace Go.Proofs.YtdljphbfbiganaaDoor.lineOnce
open Go Go.RowKit Packet Lo
section
variable {H : Type} {enc : TypeId × Value → H} {spare : Nat → Bool} {held : Bool} {w : World} {base : Nat}
set_option maxRecDepth 100000 in
theorem walk (o : Bool) {v : Value} {d : DataW H} {p : List MemPlace}
    (ok : Value.okWide Tryd.prog w .any base 22 v) (h : DataW.Trod enc Tryd.prog w 0 spare held 22 v d p) (hg : Sha.Tab w) :
    Calls Tryd.prog 3 #[.bool o, v] w fun e w' => e = .returned (.bool true) ∧ Below w.heap.size w w' := by
  obtain ⟨A, len, cap, qs, rfl, hl, hq⟩ := open_acs ok h
  exact law o A len cap qs w hg hq (by unfold maxLen at hl; omega)
end
end Go.Proofs.YtdljphbfbiganaaDoor.lineOnce
