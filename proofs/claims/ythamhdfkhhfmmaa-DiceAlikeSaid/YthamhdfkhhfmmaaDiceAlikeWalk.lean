/- 'DiceAlike' holds for every input: the walk over what came in. -/
import Derived.Test.YthamhdfkhhfmmaaDiceAlike
namespace Go.Proofs.Ythamhdfkhhfmmaa.diceAlike
open Go.RowKit
theorem walk (seed : Int) (_ : (Lit.int .u64 seed).wf = true) (a : Int) (wa : (Lit.int .u8 a).wf = true) (w : World) :
    Calls Try.prog 3 #[.int .u64 seed, .int .u8 a] w fun e w' => e = .returned (.bool true) ∧ Below w.heap.size w w' := by
  simp [Lit.wf, IntKind.min, IntKind.max, IntKind.bits, IntKind.signed] at wa
  exact DiceW.law0 seed a (by omega) (by omega) w
end Go.Proofs.Ythamhdfkhhfmmaa.diceAlike
