/- 'OutcomeTells' holds for every input: the walk over what came in. -/
import Derived.Test.YtidpbinhcfbpmaaDoorOutcomeTells
namespace Go.Proofs.YtidpbinhcfbpmaaDoor.outcomeTells
open Go.RowKit Errs

theorem walk (k : Int) (_ : (Lit.int .i64 k).wf = true) (s : ByteArray) (_ : s.size ≤ maxLen) (w : World) (hg : Hg w) :
    Calls Tryd.prog 5 #[.int .i64 k, .string s] w fun e w' => e = .returned (.bool true) ∧ Below w.heap.size w w' := tells k s w hg
end Go.Proofs.YtidpbinhcfbpmaaDoor.outcomeTells
