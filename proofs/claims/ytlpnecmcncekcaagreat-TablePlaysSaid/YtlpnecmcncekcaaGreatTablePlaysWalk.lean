/- 'TablePlays' holds for every input: the walk over what came in. -/
import Derived.Test.YtlpnecmcncekcaaGreatTpPlaysG
import Derived.Test.YtlpnecmcncekcaaGreatTpPlays
import Derived.Test.YtlpnecmcncekcaaGreatConfOpen0
import Derived.ProofKit
namespace Go.Proofs.YtlpnecmcncekcaaGreat.Mk
open Go Go.RowKit Go.ChangeShapes Go.WideShapes Go.Deep Conf

set_option maxRecDepth 100000 in
theorem walk {H : Type} {enc : TypeId × Value → H} {spare : Nat → Bool} {held : Bool} {w : World} {base : Nat} {v u : Value} {d d' : DataW H} {p p' : List MemPlace}
    (ok : Value.okWide Tryz.prog w .any base 25 v) (h : DataW.Trod enc Tryz.prog w 0 spare held 25 v d p)
    (ok' : Value.okWide Tryz.prog w .any base 26 u) (h' : DataW.Trod enc Tryz.prog w 0 spare held 26 u d' p') :
    Calls Tryz.prog 5 #[v, u] w fun e w' => e = .returned (.bool true) ∧ Below w.heap.size w w' := by
  obtain ⟨A, len, cap, qs, rfl, hl, hr⟩ := open_ops ok' h'
  obtain ⟨c, rfl, -⟩ := open_config_val ok h
  by_cases hc : 20 < c.n
  · exact plays_few c hc A len cap w
  by_cases hn : 100 < len
  · exact plays_long c (by omega) A len cap hn w
  rcases wrong_or c with ⟨h1, h2, _⟩ | ⟨h1, h2⟩
  · exact plays_main c (by omega) h1 h2 A len cap qs w hr (by omega)
  · exact plays_wrong c (by omega) h1 h2 A len cap (by omega) w
end Go.Proofs.YtlpnecmcncekcaaGreat.Mk
