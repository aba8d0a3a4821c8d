import Derived.Test.YtdljphbfbiganaaDoorCommon
/- Digits to the base 256; rows of bytes as texts. -/
namespace Go.Proofs.YtdljphbfbiganaaDoor.Num
open Go.RowKit

/-- The digits of a number to the base 256, the greatest first. -/
def dig (m : Nat) : List Int := if m = 0 then [] else dig (m / 256) ++ [((m % 256 : Nat) : Int)]
termination_by m
decreasing_by omega

theorem dig_zero : dig 0 = [] := by rw [dig]; rfl
theorem dig_pos {m : Nat} (h : m ≠ 0) : dig m = dig (m / 256) ++ [((m % 256 : Nat) : Int)] := by rw [dig, if_neg h]
theorem dig_nil {m : Nat} (h : (dig m).length = 0) : m = 0 := by
  by_cases h0 : m = 0
  · exact h0
  · rw [dig_pos h0] at h; simp at h
theorem dig_len {m k : Nat} (h : m < 256 ^ k) : (dig m).length ≤ k := by
  induction k generalizing m with
  | zero => have : m = 0 := by simpa using h
            subst this; rw [dig_zero]; simp
  | succ k ih =>
    by_cases h0 : m = 0
    · subst h0; rw [dig_zero]; simp
    · rw [dig_pos h0, List.length_append]
      have := ih (m := m / 256) (by rw [Nat.div_lt_iff_lt_mul (by decide)]; rw [Nat.pow_succ] at h; exact h)
      simp; omega

def vals (l : List Int) : List Value := l.map (Value.int .u8)
theorem vals_snoc (l : List Int) (x : Int) : vals (l ++ [x]) = vals l ++ [.int .u8 x] := by simp [vals]
theorem vals_len (l : List Int) : (vals l).length = l.length := by simp [vals]

/-- One row of the bytes' type as a text. -/
theorem own_text {w : World} {base n : Nat} {v : Value} {xs : List Int} (h : w.ownsRow base 5 1 v n (vals xs)) :
    (convert 69 9 v).run Tryd.prog w = .ok (.string (strOfNums xs)) w := by
  have hl : xs.length = n := by have := h.1; simp [vals] at this; omega
  rcases h.2 with ⟨rfl, rfl⟩ | ⟨g, cap, cur, rfl, _⟩
  · have hx : xs = [] := List.eq_nil_of_length_eq_zero hl
    subst hx
    exact run_convert_bytes_nil w 69 5 Tryd.underlying69 Tryd.underlying5 _ _ 9 Tryd.underlying9
  · refine run_convert_bytes_arg w 69 5 Tryd.underlying69 Tryd.underlying5 g 0 n cap xs hl (fun i hi => ?_) 9 Tryd.underlying9
    have hx : (vals xs)[i]? = some (.int .u8 (xs.getD i 0)) := by
      unfold vals
      rw [List.getElem?_map, List.getElem?_eq_getElem (by omega), List.getD_eq_getElem?_getD, List.getElem?_eq_getElem (by omega)]
      rfl
    have := h.cells (g := g) rfl i _ hx
    rw [← this]
    unfold Addr.add
    by_cases h0 : i = 0 <;> simp [h0]

theorem one_text (W : World) (x : Int) : (convert 69 9 (.slice (some ⟨W.heap.size, 0, none⟩) 1 1)).run Tryd.prog (W.alloc (.cells #[.int .u8 x] 5)) = .ok (.string (strOfNums [x])) (W.alloc (.cells #[.int .u8 x] 5)) := by
  refine run_convert_bytes_arg _ 69 5 Tryd.underlying69 Tryd.underlying5 W.heap.size 0 1 1 [x] rfl (fun i hi => ?_) 9 Tryd.underlying9
  have h0 : i = 0 := by omega
  subst h0
  rw [World.cell?_alloc_mark]
  rfl

/-- The bytes of a number. -/
def numS (n : Nat) : ByteArray := strOfNums [((dig n).length : Int)] ++ strOfNums (dig n)

theorem info5 : (Tryd.prog.info? 5).map (fun i => (i.zero, i.size, i.bytes)) = some (some (.int .u8 0), 1, 1) := by kernel_rfl
end Go.Proofs.YtdljphbfbiganaaDoor.Num
/- digit.Num: the bytes of a number. -/
namespace Go.Proofs.YtdljphbfbiganaaDoor.Num
open Go.RowKit

set_option maxRecDepth 20000 in
set_option maxHeartbeats 400000 in
theorem num_any (n : Nat) (hn : n < 18446744073709551616) (w : World) :
    Calls Tryd.prog 34 #[.int .u64 (n : Int)] w fun e w' => e = .returned (.string (numS n)) ∧ Below w.heap.size w w' := by
  obtain ⟨i0, hi, hz0, hz1, hz2⟩ := info_parts info5
  have HN := Lib.hid hn; clear hn
  go_enter Tryd.func34, Tryd.ntmps34
  go_wp2
  go_loopw [3, 4] (fun v i wr => ∃ j : Nat, j ≤ 8 ∧ i = .int .i64 (56 - 8 * (j : Int)) ∧ wr.ownsRow w.heap.size 5 1 v (dig (n / 2 ^ (64 - 8 * j))).length (vals (dig (n / 2 ^ (64 - 8 * j)))) ∧ Below w.heap.size w wr)
    (fun _ i _ => (64 + intOf i).toNat)
  case atStart =>
    refine ⟨0, by omega, rfl, ?_, Below.refl _ _⟩
    rw [show n / 2 ^ (64 - 8 * 0) = 0 from Nat.div_eq_of_lt (by simpa using HN.out), dig_zero]
    exact World.ownsRow_nil _ _ _ _
  case round =>
    obtain ⟨j, hj, rfl, hown, hb⟩ := hrel
    obtain ⟨A, c, rfl⟩ := own_form hown
    by_cases hlt : j < 8
    · have hs0 : (0 : Int) ≤ 56 - 8 * (j : Int) := by omega
      have hlen : (dig (n / 2 ^ (64 - 8 * j))).length ≤ 8 := dig_len (Nat.lt_of_le_of_lt (Nat.div_le_self _ _) (by simpa using HN.out))
      have hsz := hb.size
      have e1 : n / 2 ^ (56 - 8 * j) / 256 = n / 2 ^ (64 - 8 * j) := by
        rw [Nat.div_div_eq_div_mul, show (256 : Nat) = 2 ^ 8 from rfl, ← Nat.pow_add, show 56 - 8 * j + 8 = 64 - 8 * j from by omega]
      have e2 : 64 - 8 * (j + 1) = 56 - 8 * j := by omega
      have E : ∀ b, ((n / 2 ^ (56 - 8 * j) % 256 : Nat) : Int) = b → n / 2 ^ (56 - 8 * j) ≠ 0 → dig (n / 2 ^ (64 - 8 * (j + 1))) = dig (n / 2 ^ (64 - 8 * j)) ++ [b] := by
        intro b hb0 h0; rw [e2, dig_pos h0, e1, hb0]
      have E0 : n / 2 ^ (56 - 8 * j) = 0 → dig (n / 2 ^ (64 - 8 * (j + 1))) = dig (n / 2 ^ (64 - 8 * j)) := by
        intro h0; rw [e2, ← e1, h0]
      have HC := Lib.hid (show ((n / 2 ^ (56 - 8 * j) % 256 : Nat) : Int) = (n : Int) / 2 ^ (56 - 8 * j) % 256 from by push_cast; rfl)
      have E1 := Lib.hid e1; have EH := Lib.hid E; have EH0 := Lib.hid E0
      clear e1 e2 E E0
      by_cases hz : (n : Int) / 2 ^ (56 - 8 * j) % 256 = 0
      · by_cases hl : 0 < (dig (n / 2 ^ (64 - 8 * j))).length
        · go_wp2_with (at_builtin; refine wpList_append_own _ rfl _ _ 69 rfl w.heap.size 5 i0 (.int .u8 0) 1 1 Tryd.underlying69 hi hz0 hz1 hz2 rfl (by decide) _ _ _ rfl (hown.alloc _) ⟨wr.heap.size, 0, none⟩ 1 1 [.int .u8 0] rfl rfl (cell_one_new _ _ _) (one_one rfl) (by unfold maxLen; omega) (by omega) (by simp; omega) ?_; intro v1 w1 hown1 hg1 _)
          refine ⟨⟨j + 1, by omega, by go_num, ?_, below_push hb hsz hown hg1⟩, by simp [intOf]; omega⟩
          rw [EH.out 0 (HC.out.trans hz) (fun h0 => ?_), vals_snoc, List.length_append]
          · exact hown1
          · rw [← E1.out, h0, Nat.zero_div, dig_zero] at hl; simp at hl
        · go_wp2
          refine ⟨⟨j + 1, by omega, by go_num, ?_, hb⟩, by simp [intOf]; omega⟩
          have h0 : n / 2 ^ (56 - 8 * j) = 0 := by
            have h1 := dig_nil (m := n / 2 ^ (64 - 8 * j)) (by omega)
            rw [← E1.out] at h1
            have h2 : n / 2 ^ (56 - 8 * j) % 256 = 0 := by have := HC.out; rw [hz] at this; exact Int.ofNat.inj this
            omega
          rw [EH0.out h0]
          exact hown
      · have hz' : ((n : Int) / 2 ^ (56 - 8 * j) % 256 == 0) = false := by simpa using hz
        go_wp2_with (at_builtin; refine wpList_append_own _ rfl _ _ 69 rfl w.heap.size 5 i0 (.int .u8 0) 1 1 Tryd.underlying69 hi hz0 hz1 hz2 rfl (by decide) _ _ _ rfl (hown.alloc _) ⟨wr.heap.size, 0, none⟩ 1 1 [.int .u8 ((n : Int) / 2 ^ (56 - 8 * j) % 256)] rfl rfl (cell_one_new _ _ _) (one_one rfl) (by unfold maxLen; omega) (by omega) (by simp; omega) ?_; intro v1 w1 hown1 hg1 _)
        all_goals
          refine ⟨⟨j + 1, by omega, by go_num, ?_, below_push hb hsz hown hg1⟩, by simp [intOf]; omega⟩
          rw [EH.out _ HC.out (fun h0 => hz (by rw [← HC.out, h0]; rfl)), vals_snoc, List.length_append]
          exact hown1
    · have hj8 : j = 8 := by omega
      subst hj8
      have hlen : (dig (n / 2 ^ (64 - 8 * 8))).length ≤ 8 := dig_len (Nat.lt_of_le_of_lt (Nat.div_le_self _ _) (by simpa using HN.out))
      have h1 := one_text wr ((dig (n / 2 ^ (64 - 8 * 8))).length : Int)
      have h2 := own_text (hown.alloc (.cells #[.int .u8 ((dig (n / 2 ^ (64 - 8 * 8))).length : Int)] 5))
      have h3 : (strOfNums [((dig (n / 2 ^ (64 - 8 * 8))).length : Int)]).size + (strOfNums (dig (n / 2 ^ (64 - 8 * 8)))).size ≤ 9223372036854775807 := by
        rw [strOfNums_size, strOfNums_size, List.length_singleton]; omega
      rw [show n / 2 ^ (64 - 8 * 8) = n from by simp] at *
      go_wp2
      go_ret
      exact ⟨rfl, hb.alloc hb.size _⟩

end Go.Proofs.YtdljphbfbiganaaDoor.Num
/- The bytes of a number, of whole numbers as the walk has them. -/
namespace Go.Proofs.YtdljphbfbiganaaDoor.Num
open Go.RowKit

theorem u64_lo (x : Int) : 0 ≤ IntKind.u64.wrap x := by rw [IntKind.wrap_u64]; omega
theorem u64_hi (x : Int) : IntKind.u64.wrap x < 18446744073709551616 := by rw [IntKind.wrap_u64]; omega

/-- The bytes of a number, of any whole number its rest. -/
def kS (x : Int) : ByteArray := numS (x.toNat % 18446744073709551616)

theorem num_int (x : Int) (h0 : 0 ≤ x) (h1 : x < 18446744073709551616) (w : World) :
    Calls Tryd.prog 34 #[.int .u64 x] w fun e w' => e = .returned (.string (kS x)) ∧ Below w.heap.size w w' := by
  obtain ⟨n, rfl⟩ := Int.eq_ofNat_of_zero_le h0
  unfold kS
  rw [Int.toNat_natCast, Nat.mod_eq_of_lt (by omega)]
  exact num_any n (by omega) w

theorem kS_size (x : Int) : (kS x).size ≤ 9 := by
  have := dig_len (m := x.toNat % 18446744073709551616) (k := 8) (Nat.lt_of_lt_of_le (Nat.mod_lt _ (by decide)) (by decide))
  unfold kS numS
  rw [ByteArray.size_append, strOfNums_size, strOfNums_size, List.length_singleton]
  omega
theorem kS_2 (x y : Int) : (kS x).size + (kS y).size ≤ 9223372036854775807 := by have := kS_size x; have := kS_size y; omega
theorem kS_3 (x y z : Int) : (kS x ++ kS y).size + (kS z).size ≤ 9223372036854775807 := by rw [ByteArray.size_append]; have := kS_size x; have := kS_size y; have := kS_size z; omega
theorem kS_3' (x y z : Int) : (kS x).size + (kS y).size + (kS z).size ≤ 9223372036854775807 := by have := kS_size x; have := kS_size y; have := kS_size z; omega
theorem kS_all (x y z : Int) : (kS x ++ kS y ++ kS z).size ≤ maxLen := by rw [ByteArray.size_append, ByteArray.size_append]; have := kS_size x; have := kS_size y; have := kS_size z; unfold maxLen; omega

theorem below_box {w w1 : World} {o : Obj} (hb : Below (w.alloc o).heap.size (w.alloc o) w1) : Below w.heap.size w w1 :=
  ((Below.refl _ _).alloc (Nat.le_refl _) o).trans (hb.mono (by simp))

theorem add_run (P : Program) (w : World) (x y : Int) : (Op.stringOp .add (kS x) (kS y)).run P w = .ok (.string (kS x ++ kS y)) w := run_string_add_sum w _ _ (kS_2 x y)
theorem add_run3 (P : Program) (w : World) (x y z : Int) : (Op.stringOp .add (kS x ++ kS y) (kS z)).run P w = .ok (.string (kS x ++ kS y ++ kS z)) w := run_string_add_sum w _ _ (kS_3 x y z)

end Go.Proofs.YtdljphbfbiganaaDoor.Num
/- The bytes of numbers, by order. -/
namespace Go.Proofs.YtdljphbfbiganaaDoor.Num
open Go.RowKit

def bytesOf (l : List Int) : List UInt8 := l.map fun n => UInt8.ofNat n.toNat

theorem less_append (l m x y : List UInt8) (hlen : l.length = m.length) (h : Op.bytesLess l m = true) : Op.bytesLess (l ++ x) (m ++ y) = true := by
  induction l generalizing m with
  | nil =>
    cases m with
    | nil => simp [Op.bytesLess] at h
    | cons _ _ => simp at hlen
  | cons a l ih =>
    cases m with
    | nil => simp at hlen
    | cons b m =>
      simp [Op.bytesLess] at h ⊢
      rcases h with h | ⟨h1, h2⟩
      · exact .inl h
      · exact .inr ⟨h1, ih m (by simpa using hlen) h2⟩
theorem less_same (l : List UInt8) (x y : List UInt8) (h : Op.bytesLess x y = true) : Op.bytesLess (l ++ x) (l ++ y) = true := by
  induction l with
  | nil => exact h
  | cons a l ih => simp [Op.bytesLess, ih]

theorem dig_byte (m : Nat) : bytesOf [((m % 256 : Nat) : Int)] = [UInt8.ofNat (m % 256)] := by
  show [UInt8.ofNat (((m % 256 : Nat) : Int)).toNat] = _
  rw [Int.toNat_natCast]
theorem byte_lt {a b : Nat} (ha : a < 256) (hb : b < 256) (h : a < b) : Op.bytesLess [UInt8.ofNat a] [UInt8.ofNat b] = true := by
  have : UInt8.ofNat a < UInt8.ofNat b := by rw [UInt8.lt_iff_toNat_lt]; simp; omega
  simp [Op.bytesLess, this]

/-- A greater number has no fewer digits, and of as many the greater ones. -/
theorem dig_rises : ∀ (b a : Nat), a < b → (dig a).length < (dig b).length ∨ (dig a).length = (dig b).length ∧ Op.bytesLess (bytesOf (dig a)) (bytesOf (dig b)) = true := by
  intro b
  induction b using Nat.strongRecOn with
  | _ b ih =>
    intro a hab
    rw [dig_pos (m := b) (by omega)]
    by_cases ha : a = 0
    · subst ha; rw [dig_zero]; left; simp
    · rw [dig_pos ha]
      by_cases hq : a / 256 = b / 256
      · right
        rw [hq]
        refine ⟨by simp, ?_⟩
        unfold bytesOf
        rw [List.map_append, List.map_append]
        refine less_same _ _ _ ?_
        have := byte_lt (a := a % 256) (b := b % 256) (by omega) (by omega) (by omega)
        rw [← dig_byte, ← dig_byte] at this
        exact this
      · rcases ih (b / 256) (by omega) (a / 256) (by omega) with h | ⟨h1, h2⟩
        · left; simp; omega
        · right
          refine ⟨by simp; omega, ?_⟩
          unfold bytesOf at h2 ⊢
          rw [List.map_append, List.map_append]
          exact less_append _ _ _ _ (by simp; omega) h2

theorem numS_list (n : Nat) : (numS n).data.toList = UInt8.ofNat (dig n).length :: bytesOf (dig n) := by
  simp [numS, strOfNums, bytesOf]
theorem numS_len (n : Nat) : (numS n).size = (dig n).length + 1 := by
  unfold numS; rw [ByteArray.size_append, strOfNums_size, strOfNums_size, List.length_singleton]; omega

theorem less_irrefl (l : List UInt8) : Op.bytesLess l l = false := by
  induction l with
  | nil => rfl
  | cons a l ih => simp [Op.bytesLess, ih]

theorem numS_rises (a b : Nat) (h : a < b) : (numS a).size < (numS b).size ∨ (numS a).size = (numS b).size ∧ Op.bytesLess (numS a).data.toList (numS b).data.toList = true := by
  rw [numS_len, numS_len]
  rcases dig_rises b a h with h | ⟨h1, h2⟩
  · left; omega
  · right
    refine ⟨by omega, ?_⟩
    rw [numS_list, numS_list, h1]
    simp [Op.bytesLess, h2]
theorem numS_ne (a b : Nat) (h : a < b) : (numS a).data.toList ≠ (numS b).data.toList := by
  intro he
  rcases numS_rises a b h with h | ⟨_, h2⟩
  · have : (numS a).size = (numS b).size := by
      have := congrArg List.length he
      simpa using this
    omega
  · rw [he, less_irrefl] at h2; cases h2

end Go.Proofs.YtdljphbfbiganaaDoor.Num
