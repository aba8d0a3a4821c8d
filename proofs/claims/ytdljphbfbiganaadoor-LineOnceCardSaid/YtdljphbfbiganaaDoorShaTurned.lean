/- A word turned, by the page: muleteerref02.power, turned at each number that it is handed. -/
import Derived.Test.YtdljphbfbiganaaDoorShaRight
import Derived.LoopTactic
import Derived.Deep.QuietTactic
namespace Go.Proofs.YtdljphbfbiganaaDoor.Sha
open Go.RowKit

theorem rot_page (x : W) (n : Nat) (hn : n ≤ 32) (p q : Int) (hp : p = ((2 ^ n : Nat) : Int)) (hq : q = ((2 ^ (32 - n) : Nat) : Int)) :
    (x.toNat : Int) / p + (x.toNat : Int) % p * q = ((rot x n).toNat : Int) := by
  subst hp hq
  rw [rot_nat x n hn]
  rfl
end Go.Proofs.YtdljphbfbiganaaDoor.Sha
