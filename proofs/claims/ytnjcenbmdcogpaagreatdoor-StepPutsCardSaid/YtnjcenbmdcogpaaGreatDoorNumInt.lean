/- The bytes of a number, of whole numbers as the walk has them. -/
import Derived.Test.YtnjcenbmdcogpaaGreatDoorNum
namespace Go.Proofs.YtnjcenbmdcogpaaGreatDoor.Num
open Go.RowKit

theorem u64_lo (x : Int) : 0 ≤ IntKind.u64.wrap x := by rw [IntKind.wrap_u64]; omega
theorem u64_hi (x : Int) : IntKind.u64.wrap x < 18446744073709551616 := by rw [IntKind.wrap_u64]; omega

/-- The bytes of a number, of any whole number its rest. -/
def kS (x : Int) : ByteArray := numS (x.toNat % 18446744073709551616)

theorem num_int (x : Int) (h0 : 0 ≤ x) (h1 : x < 18446744073709551616) (w : World) :
    Calls Tryz.prog 26 #[.int .u64 x] w fun e w' => e = .returned (.string (kS x)) ∧ Below w.heap.size w w' := by
  obtain ⟨n, rfl⟩ := Int.eq_ofNat_of_zero_le h0
  unfold kS
  rw [Int.toNat_natCast, Nat.mod_eq_of_lt (by omega)]
  exact num_any n (by omega) w

theorem kS_size (x : Int) : (kS x).size ≤ 9 := by
  have := dig_len (m := x.toNat % 18446744073709551616) (k := 8) (Nat.lt_of_lt_of_le (Nat.mod_lt _ (by decide)) (by decide))
  unfold kS numS
  rw [ByteArray.size_append, strOfNums_size, strOfNums_size, List.length_singleton]
  omega
theorem kS_2 (x y : Int) : (kS x).size + (kS y).size ≤ 9223372036854775807 := by have := kS_size x; have := kS_size y; omega
theorem kS_3 (x y z : Int) : (kS x ++ kS y).size + (kS z).size ≤ 9223372036854775807 := by rw [ByteArray.size_append]; have := kS_size x; have := kS_size y; have := kS_size z; omega
theorem kS_3' (x y z : Int) : (kS x).size + (kS y).size + (kS z).size ≤ 9223372036854775807 := by have := kS_size x; have := kS_size y; have := kS_size z; omega
theorem kS_all (x y z : Int) : (kS x ++ kS y ++ kS z).size ≤ maxLen := by rw [ByteArray.size_append, ByteArray.size_append]; have := kS_size x; have := kS_size y; have := kS_size z; unfold maxLen; omega

theorem below_box {w w1 : World} {o : Obj} (hb : Below (w.alloc o).heap.size (w.alloc o) w1) : Below w.heap.size w w1 :=
  ((Below.refl _ _).alloc (Nat.le_refl _) o).trans (hb.mono (by simp))

theorem add_run (P : Program) (w : World) (x y : Int) : (Op.stringOp .add (kS x) (kS y)).run P w = .ok (.string (kS x ++ kS y)) w := run_string_add_sum w _ _ (kS_2 x y)
theorem add_run3 (P : Program) (w : World) (x y z : Int) : (Op.stringOp .add (kS x ++ kS y) (kS z)).run P w = .ok (.string (kS x ++ kS y ++ kS z)) w := run_string_add_sum w _ _ (kS_3 x y z)

end Go.Proofs.YtnjcenbmdcogpaaGreatDoor.Num
