/- 'DiceScripts' holds for every input: the walk over what came in. -/
import Derived.Test.YtfojmjgnndlfnaaDiceLawOkA
import Derived.Test.YtfojmjgnndlfnaaDiceLawOkB
import Derived.Test.YtfojmjgnndlfnaaDiceLawBadA
import Derived.Test.YtfojmjgnndlfnaaDiceLawBadB
import Derived.Test.YtfojmjgnndlfnaaConfOpen0
namespace Go.Proofs.Ytfojmjgnndlfnaa.diceScripts
open Go.RowKit Conf DiceW
theorem any (seed : Int) (c : Cfg) (n : Int) (w : World) :
    Calls Try.prog 3 #[.int .u64 seed, .agg c.cells, .int .i64 n] w fun e w' => e = .returned (.bool true) ∧ Below w.heap.size w w' := by
  by_cases hc : c.n ≤ 20
  · by_cases h1 : n ≤ 200
    · rcases wrong_or c with ⟨a, b, d, e⟩ | ⟨a, b⟩
      · have d := right_in d
        have e := right_in e
        exact law_okA seed n c hc h1 b ⟨a, by omega, by omega, by omega⟩ w
      · exact law_badA seed n c hc h1 (by omega) b w
    · by_cases h2 : n ≤ 1024
      · exact law_few seed n c (Or.inr ⟨hc, by omega, h2⟩) w
      · rcases wrong_or c with ⟨a, b, d, e⟩ | ⟨a, b⟩
        · have d := right_in d
          have e := right_in e
          exact law_okB seed n c hc (by omega) b ⟨a, by omega, by omega, by omega⟩ w
        · exact law_badB seed n c hc (by omega) (by omega) b w
  · exact law_few seed n c (Or.inl (by omega)) w
set_option maxRecDepth 100000 in
theorem walk {H : Type} {enc : TypeId × Value → H} {spare : Nat → Bool} {held : Bool} {w : World} {base : Nat} {v : Value} {d : DataW H} {p : List MemPlace}
    (seed : Int) (_ : (Lit.int .u64 seed).wf = true) (ok : Value.okWide Try.prog w .any base 25 v) (h : DataW.Trod enc Try.prog w 0 spare held 25 v d p) (n : Int) (_ : (Lit.int .i64 n).wf = true) :
    Calls Try.prog 3 #[.int .u64 seed, v, .int .i64 n] w fun e w' => e = .returned (.bool true) ∧ Below w.heap.size w w' := by
  obtain ⟨c, rfl, _⟩ := open_config_val ok h
  exact any seed c n w
end Go.Proofs.Ytfojmjgnndlfnaa.diceScripts
