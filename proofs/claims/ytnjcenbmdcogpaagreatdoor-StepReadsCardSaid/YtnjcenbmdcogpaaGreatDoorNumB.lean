import Derived.Test.YtnjcenbmdcogpaaGreatDoorNum
/- The bytes of a number, of whole numbers as the walk has them. -/
namespace Go.Proofs.YtnjcenbmdcogpaaGreatDoor.Num
open Go.RowKit

theorem u64_lo (x : Int) : 0 ≤ IntKind.u64.wrap x := by rw [IntKind.wrap_u64]; omega
theorem u64_hi (x : Int) : IntKind.u64.wrap x < 18446744073709551616 := by rw [IntKind.wrap_u64]; omega

/-- The bytes of a number, of any whole number its rest. -/
def kS (x : Int) : ByteArray := numS (x.toNat % 18446744073709551616)

theorem num_int (x : Int) (h0 : 0 ≤ x) (h1 : x < 18446744073709551616) (w : World) :
    Calls Tryz.prog 26 #[.int .u64 x] w fun e w' => e = .returned (.string (kS x)) ∧ Below w.heap.size w w' := by
  obtain ⟨n, rfl⟩ := Int.eq_ofNat_of_zero_le h0
  unfold kS
  rw [Int.toNat_natCast, Nat.mod_eq_of_lt (by omega)]
  exact num_any n (by omega) w

theorem kS_size (x : Int) : (kS x).size ≤ 9 := by
  have := dig_len (m := x.toNat % 18446744073709551616) (k := 8) (Nat.lt_of_lt_of_le (Nat.mod_lt _ (by decide)) (by decide))
  unfold kS numS
  rw [ByteArray.size_append, strOfNums_size, strOfNums_size, List.length_singleton]
  omega
theorem kS_2 (x y : Int) : (kS x).size + (kS y).size ≤ 9223372036854775807 := by have := kS_size x; have := kS_size y; omega
theorem kS_3 (x y z : Int) : (kS x ++ kS y).size + (kS z).size ≤ 9223372036854775807 := by rw [ByteArray.size_append]; have := kS_size x; have := kS_size y; have := kS_size z; omega
theorem kS_3' (x y z : Int) : (kS x).size + (kS y).size + (kS z).size ≤ 9223372036854775807 := by have := kS_size x; have := kS_size y; have := kS_size z; omega
theorem kS_all (x y z : Int) : (kS x ++ kS y ++ kS z).size ≤ maxLen := by rw [ByteArray.size_append, ByteArray.size_append]; have := kS_size x; have := kS_size y; have := kS_size z; unfold maxLen; omega

theorem below_box {w w1 : World} {o : Obj} (hb : Below (w.alloc o).heap.size (w.alloc o) w1) : Below w.heap.size w w1 :=
  ((Below.refl _ _).alloc (Nat.le_refl _) o).trans (hb.mono (by simp))

theorem add_run (P : Program) (w : World) (x y : Int) : (Op.stringOp .add (kS x) (kS y)).run P w = .ok (.string (kS x ++ kS y)) w := run_string_add_sum w _ _ (kS_2 x y)
theorem add_run3 (P : Program) (w : World) (x y z : Int) : (Op.stringOp .add (kS x ++ kS y) (kS z)).run P w = .ok (.string (kS x ++ kS y ++ kS z)) w := run_string_add_sum w _ _ (kS_3 x y z)

end Go.Proofs.YtnjcenbmdcogpaaGreatDoor.Num
/- The bytes of numbers, by order. -/
namespace Go.Proofs.YtnjcenbmdcogpaaGreatDoor.Num
open Go.RowKit

def bytesOf (l : List Int) : List UInt8 := l.map fun n => UInt8.ofNat n.toNat

theorem less_append (l m x y : List UInt8) (hlen : l.length = m.length) (h : Op.bytesLess l m = true) : Op.bytesLess (l ++ x) (m ++ y) = true := by
  induction l generalizing m with
  | nil =>
    cases m with
    | nil => simp [Op.bytesLess] at h
    | cons _ _ => simp at hlen
  | cons a l ih =>
    cases m with
    | nil => simp at hlen
    | cons b m =>
      simp [Op.bytesLess] at h ⊢
      rcases h with h | ⟨h1, h2⟩
      · exact .inl h
      · exact .inr ⟨h1, ih m (by simpa using hlen) h2⟩
theorem less_same (l : List UInt8) (x y : List UInt8) (h : Op.bytesLess x y = true) : Op.bytesLess (l ++ x) (l ++ y) = true := by
  induction l with
  | nil => exact h
  | cons a l ih => simp [Op.bytesLess, ih]

theorem dig_byte (m : Nat) : bytesOf [((m % 256 : Nat) : Int)] = [UInt8.ofNat (m % 256)] := by
  show [UInt8.ofNat (((m % 256 : Nat) : Int)).toNat] = _
  rw [Int.toNat_natCast]
theorem byte_lt {a b : Nat} (ha : a < 256) (hb : b < 256) (h : a < b) : Op.bytesLess [UInt8.ofNat a] [UInt8.ofNat b] = true := by
  have : UInt8.ofNat a < UInt8.ofNat b := by rw [UInt8.lt_iff_toNat_lt]; simp; omega
  simp [Op.bytesLess, this]

/-- A greater number has no fewer digits, and of as many the greater ones. -/
theorem dig_rises : ∀ (b a : Nat), a < b → (dig a).length < (dig b).length ∨ (dig a).length = (dig b).length ∧ Op.bytesLess (bytesOf (dig a)) (bytesOf (dig b)) = true := by
  intro b
  induction b using Nat.strongRecOn with
  | _ b ih =>
    intro a hab
    rw [dig_pos (m := b) (by omega)]
    by_cases ha : a = 0
    · subst ha; rw [dig_zero]; left; simp
    · rw [dig_pos ha]
      by_cases hq : a / 256 = b / 256
      · right
        rw [hq]
        refine ⟨by simp, ?_⟩
        unfold bytesOf
        rw [List.map_append, List.map_append]
        refine less_same _ _ _ ?_
        have := byte_lt (a := a % 256) (b := b % 256) (by omega) (by omega) (by omega)
        rw [← dig_byte, ← dig_byte] at this
        exact this
      · rcases ih (b / 256) (by omega) (a / 256) (by omega) with h | ⟨h1, h2⟩
        · left; simp; omega
        · right
          refine ⟨by simp; omega, ?_⟩
          unfold bytesOf at h2 ⊢
          rw [List.map_append, List.map_append]
          exact less_append _ _ _ _ (by simp; omega) h2

theorem numS_list (n : Nat) : (numS n).data.toList = UInt8.ofNat (dig n).length :: bytesOf (dig n) := by
  simp [numS, strOfNums, bytesOf]
theorem numS_len (n : Nat) : (numS n).size = (dig n).length + 1 := by
  unfold numS; rw [ByteArray.size_append, strOfNums_size, strOfNums_size, List.length_singleton]; omega

theorem less_irrefl (l : List UInt8) : Op.bytesLess l l = false := by
  induction l with
  | nil => rfl
  | cons a l ih => simp [Op.bytesLess, ih]

theorem numS_rises (a b : Nat) (h : a < b) : (numS a).size < (numS b).size ∨ (numS a).size = (numS b).size ∧ Op.bytesLess (numS a).data.toList (numS b).data.toList = true := by
  rw [numS_len, numS_len]
  rcases dig_rises b a h with h | ⟨h1, h2⟩
  · left; omega
  · right
    refine ⟨by omega, ?_⟩
    rw [numS_list, numS_list, h1]
    simp [Op.bytesLess, h2]
theorem numS_ne (a b : Nat) (h : a < b) : (numS a).data.toList ≠ (numS b).data.toList := by
  intro he
  rcases numS_rises a b h with h | ⟨_, h2⟩
  · have : (numS a).size = (numS b).size := by
      have := congrArg List.length he
      simpa using this
    omega
  · rw [he, less_irrefl] at h2; cases h2

end Go.Proofs.YtnjcenbmdcogpaaGreatDoor.Num
