/- The page's Num, of whole numbers as the walk has them. -/
import Derived.Test.YthamemaomedldaaNumInt
import Derived.Test.YthamemaomedldaaNumRef
namespace Go.Proofs.Ythamemaomedldaa.Num
open Go.RowKit

theorem ref_num_int (x : Int) (h0 : 0 ≤ x) (h1 : x < 18446744073709551616) (w : World) :
    Calls Try.prog 18 #[.int .u64 x] w fun e w' => e = .returned (.string (kS x)) ∧ Below w.heap.size w w' := by
  obtain ⟨n, rfl⟩ := Int.eq_ofNat_of_zero_le h0
  unfold kS
  rw [Int.toNat_natCast, Nat.mod_eq_of_lt (by omega)]
  exact ref_num_any n (by omega) w

end Go.Proofs.Ythamemaomedldaa.Num
