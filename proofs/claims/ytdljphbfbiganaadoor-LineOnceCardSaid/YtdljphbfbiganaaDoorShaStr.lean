/- strings.Repeat, strings.Join: the shelf's contracts laid at this program. -/
import Derived.Test.YtdljphbfbiganaaDoorShaMath
import Derived.Test.YtdljphbfbiganaaDoorBuilder
import Derived.Test.YtdljphbfbiganaaDoorJoinS
import Derived.Test.YtdljphbfbiganaaDoorRepeatS
import Derived.Ground.NamesProg
import Derived.Shelf.Lays
import Derived.Shelf.Strings.Repeat
import Derived.Shelf.Strings.OnBuilder
namespace Go.Proofs.YtdljphbfbiganaaDoor.Sha
open Go Go.RowKit Go.Shelf Go.Lib
theorem repeatL_one (n : Nat) : Lib.repeatL [0] n = List.replicate n (0 : UInt8) := by
  induction n with
  | zero => rfl
  | succ n ih => rw [List.replicate_succ, ← ih]; rfl
theorem repeat_any (n : Nat) (h : n ≤ 63) (w : World) : Calls Tryd.prog 39 #[.string ⟨#[0]⟩, .int .i64 (n : Int)] w fun e w' => e = .returned (.string ⟨(List.replicate n (0 : UInt8)).toArray⟩) ∧ Below w.heap.size w w' := by
  have := Any.strings_Repeat laysRepeat extraRepeat ⟨#[0]⟩ n w (by omega) (by show 1 * n ≤ _; omega)
  rw [show (⟨#[0]⟩ : ByteArray).data.toList = [0] from rfl, repeatL_one] at this
  exact this
end Go.Proofs.YtdljphbfbiganaaDoor.Sha
