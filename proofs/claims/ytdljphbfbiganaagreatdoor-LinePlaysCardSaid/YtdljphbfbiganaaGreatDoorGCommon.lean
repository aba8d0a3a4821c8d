import Derived.Test.YtdljphbfbiganaaGreatDoorRows
import Derived.WalkKit
import Derived.WalkSpells
import Derived.WalkLawsBesides
import Derived.BigQuiet
import Derived.Lib.Hide
import Derived.Laws.BytesArg
import Derived.Laws.AppendOwnNone
import Derived.Ground.NamesProg
import Derived.Shelf.Lays
import Derived.Shelf.Strings.Repeat
import Derived.Shelf.Strings.OnBuilder
/- Small lemmas on rows that a call owns: over any program. -/
namespace Go.Proofs.YtdljphbfbiganaaGreatDoor
open Go.RowKit

theorem own_form {w : World} {base e n : Nat} {v : Value} {xs : List Value} (h : w.ownsRow base e 1 v n xs) : ∃ A c, v = .slice A n c := by
  have h1 := h.1
  rcases h.2 with ⟨rfl, rfl⟩ | ⟨g, cap, cur, rfl, _⟩
  · exact ⟨none, 0, rfl⟩
  · exact ⟨_, _, rfl⟩

theorem one_one {v : Value} (h : v.oneCell' = true) : ∀ u ∈ [v], u.oneCell' = true := by
  intro u hu; simp at hu; subst hu; exact h

theorem own_ge {w : World} {base e size n : Nat} {v : Value} {xs : List Value} (h : w.ownsRow base e size v n xs) : ∀ k, v.ownBlock = some k → base ≤ k := by
  intro k hk
  rcases h.2 with ⟨rfl, _⟩ | ⟨g, cap, cur, rfl, hg, _⟩
  · simp [Value.ownBlock] at hk
  · simp [Value.ownBlock] at hk; omega

theorem below_push {B e size n : Nat} {a wr w1 : World} {o : Obj} {v : Value} {xs : List Value} (hb : Below B a wr) (hB : B ≤ wr.heap.size) (hown : wr.ownsRow B e size v n xs)
    (hg : (wr.alloc o).grownBy w1 v.ownBlock) : Below B a w1 :=
  (hb.alloc hB o).grown hg (by simp; omega) (own_ge hown)

/-- A row that owns something lies somewhere. -/
theorem own_at {w : World} {base e n c : Nat} {A : Option Addr} {xs : List Value} (h : w.ownsRow base e 1 (.slice A n c) n xs) (hn : 0 < n) : ∃ u, A = some ⟨u, 0, none⟩ ∧ base ≤ u := by
  rcases h.2 with ⟨_, h0⟩ | ⟨g, cap, cur, hv, hg, _⟩
  · omega
  · injection hv with hA
    exact ⟨g, hA, hg⟩
theorem own_below {w w' : World} {base e size n : Nat} {v : Value} {xs : List Value} (h : w.ownsRow base e size v n xs) (hb : Below w.heap.size w w') : w'.ownsRow base e size v n xs := by
  refine ⟨h.1, ?_⟩
  rcases h.2 with h2 | ⟨g, cap, cur, hv, hg, hh, r⟩
  · exact Or.inl h2
  · have hlt : g < w.heap.size := by
      rcases Nat.lt_or_ge g w.heap.size with h1 | h1
      · exact h1
      · rw [Array.getElem?_eq_none h1] at hh; cases hh
    exact Or.inr ⟨g, cap, cur, hv, hg, (hb.block g hlt).trans hh, r⟩

/-- 'append(a, b...)', both rows of the call's own (b may be nil). -/
theorem wpList_append_rows {P : Program} {w : World} {ops : Array Oper} {rest : List Oper} {o : Oper} {a : Act} {Q : Exit → Act → World → Prop} (hgd : o.guard = none) (s x : Operand) (t : TypeId)
    (ho : o.op = .call { callee := .builtin .append, args := #[s, x], argTypes := #[t, t] })
    (base base' : Nat) (e : TypeId) (i : TypeInfo) (z : Value) (size bytes : Nat) (ht : P.underlying t = some (.slice e)) (hi : P.info? e = some i) (hz : i.zero = some z)
    (hsize : i.size = size) (hby : i.bytes = bytes) (hzs : z.cells.size = size) (hsz : 0 < size)
    (v : Value) (n : Nat) (xs : List Value) (hs : a.eval s = v) (hown : w.ownsRow base e size v n xs)
    (u : Value) (m : Nat) (news : List Value) (hx : a.eval x = u) (hown' : w.ownsRow base' e size u m news) (h1 : ∀ u ∈ news, u.oneCell' = true)
    (h63 : n + m ≤ maxLen) (hbytes : (n + m) * bytes ≤ 140737488355328) (hbase : base ≤ w.heap.size)
    (h : ∀ v' w', w'.ownsRow base e size v' (n + m) (xs ++ news) → w.grownBy w' v.ownBlock → wpList P ops Q rest (a.put o.dst v') w') : wpList P ops Q (o :: rest) a w := by
  rcases hown'.2 with ⟨rfl, rfl⟩ | ⟨g, cap, cur, rfl, _⟩
  · have hn : news = [] := List.eq_nil_of_length_eq_zero (by simpa using hown'.1)
    subst hn
    exact wpList_append_own_none hgd s x t ho base e i size ht hi v n xs hs hown hx (h v w (by simpa using hown) (World.grownBy.refl w _))
  · exact wpList_append_own _ hgd s x t ho base e i z size bytes ht hi hz hsize hby hzs hsz v n xs hs hown ⟨g, 0, none⟩ m cap news hx hown'.1 (hown'.cells (g := g) rfl) h1 h63 hbytes hbase fun v' w' h2 h3 _ => h v' w' h2 h3

end Go.Proofs.YtdljphbfbiganaaGreatDoor
/- Digits to the base 256; rows of bytes as texts. -/
namespace Go.Proofs.YtdljphbfbiganaaGreatDoor.Num
open Go.RowKit

/-- The digits of a number to the base 256, the greatest first. -/
def dig (m : Nat) : List Int := if m = 0 then [] else dig (m / 256) ++ [((m % 256 : Nat) : Int)]
termination_by m
decreasing_by omega

theorem dig_zero : dig 0 = [] := by rw [dig]; rfl
theorem dig_pos {m : Nat} (h : m ≠ 0) : dig m = dig (m / 256) ++ [((m % 256 : Nat) : Int)] := by rw [dig, if_neg h]
theorem dig_nil {m : Nat} (h : (dig m).length = 0) : m = 0 := by
  by_cases h0 : m = 0
  · exact h0
  · rw [dig_pos h0] at h; simp at h
theorem dig_len {m k : Nat} (h : m < 256 ^ k) : (dig m).length ≤ k := by
  induction k generalizing m with
  | zero => have : m = 0 := by simpa using h
            subst this; rw [dig_zero]; simp
  | succ k ih =>
    by_cases h0 : m = 0
    · subst h0; rw [dig_zero]; simp
    · rw [dig_pos h0, List.length_append]
      have := ih (m := m / 256) (by rw [Nat.div_lt_iff_lt_mul (by decide)]; rw [Nat.pow_succ] at h; exact h)
      simp; omega

def vals (l : List Int) : List Value := l.map (Value.int .u8)
theorem vals_snoc (l : List Int) (x : Int) : vals (l ++ [x]) = vals l ++ [.int .u8 x] := by simp [vals]
theorem vals_len (l : List Int) : (vals l).length = l.length := by simp [vals]

/-- One row of the bytes' type as a text. -/
theorem own_text {w : World} {base n : Nat} {v : Value} {xs : List Int} (h : w.ownsRow base 5 1 v n (vals xs)) :
    (convert 81 9 v).run Tryz.prog w = .ok (.string (strOfNums xs)) w := by
  have hl : xs.length = n := by have := h.1; simp [vals] at this; omega
  rcases h.2 with ⟨rfl, rfl⟩ | ⟨g, cap, cur, rfl, _⟩
  · have hx : xs = [] := List.eq_nil_of_length_eq_zero hl
    subst hx
    exact run_convert_bytes_nil w 81 5 Tryz.underlying81 Tryz.underlying5 _ _ 9 Tryz.underlying9
  · refine run_convert_bytes_arg w 81 5 Tryz.underlying81 Tryz.underlying5 g 0 n cap xs hl (fun i hi => ?_) 9 Tryz.underlying9
    have hx : (vals xs)[i]? = some (.int .u8 (xs.getD i 0)) := by
      unfold vals
      rw [List.getElem?_map, List.getElem?_eq_getElem (by omega), List.getD_eq_getElem?_getD, List.getElem?_eq_getElem (by omega)]
      rfl
    have := h.cells (g := g) rfl i _ hx
    rw [← this]
    unfold Addr.add
    by_cases h0 : i = 0 <;> simp [h0]

theorem one_text (W : World) (x : Int) : (convert 81 9 (.slice (some ⟨W.heap.size, 0, none⟩) 1 1)).run Tryz.prog (W.alloc (.cells #[.int .u8 x] 5)) = .ok (.string (strOfNums [x])) (W.alloc (.cells #[.int .u8 x] 5)) := by
  refine run_convert_bytes_arg _ 81 5 Tryz.underlying81 Tryz.underlying5 W.heap.size 0 1 1 [x] rfl (fun i hi => ?_) 9 Tryz.underlying9
  have h0 : i = 0 := by omega
  subst h0
  rw [World.cell?_alloc_mark]
  rfl

/-- The bytes of a number. -/
def numS (n : Nat) : ByteArray := strOfNums [((dig n).length : Int)] ++ strOfNums (dig n)

theorem info5 : (Tryz.prog.info? 5).map (fun i => (i.zero, i.size, i.bytes)) = some (some (.int .u8 0), 1, 1) := by kernel_rfl
end Go.Proofs.YtdljphbfbiganaaGreatDoor.Num
/- digit.Num: the bytes of a number. -/
namespace Go.Proofs.YtdljphbfbiganaaGreatDoor.Num
open Go.RowKit

set_option maxRecDepth 20000 in
set_option maxHeartbeats 400000 in
theorem num_any (n : Nat) (hn : n < 18446744073709551616) (w : World) :
    Calls Tryz.prog 56 #[.int .u64 (n : Int)] w fun e w' => e = .returned (.string (numS n)) ∧ Below w.heap.size w w' := by
  obtain ⟨i0, hi, hz0, hz1, hz2⟩ := info_parts info5
  have HN := Lib.hid hn; clear hn
  go_enter Tryz.func56, Tryz.ntmps56
  go_wp2
  go_loopw [3, 4] (fun v i wr => ∃ j : Nat, j ≤ 8 ∧ i = .int .i64 (56 - 8 * (j : Int)) ∧ wr.ownsRow w.heap.size 5 1 v (dig (n / 2 ^ (64 - 8 * j))).length (vals (dig (n / 2 ^ (64 - 8 * j)))) ∧ Below w.heap.size w wr)
    (fun _ i _ => (64 + intOf i).toNat)
  case atStart =>
    refine ⟨0, by omega, rfl, ?_, Below.refl _ _⟩
    rw [show n / 2 ^ (64 - 8 * 0) = 0 from Nat.div_eq_of_lt (by simpa using HN.out), dig_zero]
    exact World.ownsRow_nil _ _ _ _
  case round =>
    obtain ⟨j, hj, rfl, hown, hb⟩ := hrel
    obtain ⟨A, c, rfl⟩ := own_form hown
    by_cases hlt : j < 8
    · have hs0 : (0 : Int) ≤ 56 - 8 * (j : Int) := by omega
      have hlen : (dig (n / 2 ^ (64 - 8 * j))).length ≤ 8 := dig_len (Nat.lt_of_le_of_lt (Nat.div_le_self _ _) (by simpa using HN.out))
      have hsz := hb.size
      have e1 : n / 2 ^ (56 - 8 * j) / 256 = n / 2 ^ (64 - 8 * j) := by
        rw [Nat.div_div_eq_div_mul, show (256 : Nat) = 2 ^ 8 from rfl, ← Nat.pow_add, show 56 - 8 * j + 8 = 64 - 8 * j from by omega]
      have e2 : 64 - 8 * (j + 1) = 56 - 8 * j := by omega
      have E : ∀ b, ((n / 2 ^ (56 - 8 * j) % 256 : Nat) : Int) = b → n / 2 ^ (56 - 8 * j) ≠ 0 → dig (n / 2 ^ (64 - 8 * (j + 1))) = dig (n / 2 ^ (64 - 8 * j)) ++ [b] := by
        intro b hb0 h0; rw [e2, dig_pos h0, e1, hb0]
      have E0 : n / 2 ^ (56 - 8 * j) = 0 → dig (n / 2 ^ (64 - 8 * (j + 1))) = dig (n / 2 ^ (64 - 8 * j)) := by
        intro h0; rw [e2, ← e1, h0]
      have HC := Lib.hid (show ((n / 2 ^ (56 - 8 * j) % 256 : Nat) : Int) = (n : Int) / 2 ^ (56 - 8 * j) % 256 from by push_cast; rfl)
      have E1 := Lib.hid e1; have EH := Lib.hid E; have EH0 := Lib.hid E0
      clear e1 e2 E E0
      by_cases hz : (n : Int) / 2 ^ (56 - 8 * j) % 256 = 0
      · by_cases hl : 0 < (dig (n / 2 ^ (64 - 8 * j))).length
        · go_wp2_with (at_builtin; refine wpList_append_own _ rfl _ _ 81 rfl w.heap.size 5 i0 (.int .u8 0) 1 1 Tryz.underlying81 hi hz0 hz1 hz2 rfl (by decide) _ _ _ rfl (hown.alloc _) ⟨wr.heap.size, 0, none⟩ 1 1 [.int .u8 0] rfl rfl (cell_one_new _ _ _) (one_one rfl) (by unfold maxLen; omega) (by omega) (by simp; omega) ?_; intro v1 w1 hown1 hg1 _)
          refine ⟨⟨j + 1, by omega, by go_num, ?_, below_push hb hsz hown hg1⟩, by simp [intOf]; omega⟩
          rw [EH.out 0 (HC.out.trans hz) (fun h0 => ?_), vals_snoc, List.length_append]
          · exact hown1
          · rw [← E1.out, h0, Nat.zero_div, dig_zero] at hl; simp at hl
        · go_wp2
          refine ⟨⟨j + 1, by omega, by go_num, ?_, hb⟩, by simp [intOf]; omega⟩
          have h0 : n / 2 ^ (56 - 8 * j) = 0 := by
            have h1 := dig_nil (m := n / 2 ^ (64 - 8 * j)) (by omega)
            rw [← E1.out] at h1
            have h2 : n / 2 ^ (56 - 8 * j) % 256 = 0 := by have := HC.out; rw [hz] at this; exact Int.ofNat.inj this
            omega
          rw [EH0.out h0]
          exact hown
      · have hz' : ((n : Int) / 2 ^ (56 - 8 * j) % 256 == 0) = false := by simpa using hz
        go_wp2_with (at_builtin; refine wpList_append_own _ rfl _ _ 81 rfl w.heap.size 5 i0 (.int .u8 0) 1 1 Tryz.underlying81 hi hz0 hz1 hz2 rfl (by decide) _ _ _ rfl (hown.alloc _) ⟨wr.heap.size, 0, none⟩ 1 1 [.int .u8 ((n : Int) / 2 ^ (56 - 8 * j) % 256)] rfl rfl (cell_one_new _ _ _) (one_one rfl) (by unfold maxLen; omega) (by omega) (by simp; omega) ?_; intro v1 w1 hown1 hg1 _)
        all_goals
          refine ⟨⟨j + 1, by omega, by go_num, ?_, below_push hb hsz hown hg1⟩, by simp [intOf]; omega⟩
          rw [EH.out _ HC.out (fun h0 => hz (by rw [← HC.out, h0]; rfl)), vals_snoc, List.length_append]
          exact hown1
    · have hj8 : j = 8 := by omega
      subst hj8
      have hlen : (dig (n / 2 ^ (64 - 8 * 8))).length ≤ 8 := dig_len (Nat.lt_of_le_of_lt (Nat.div_le_self _ _) (by simpa using HN.out))
      have h1 := one_text wr ((dig (n / 2 ^ (64 - 8 * 8))).length : Int)
      have h2 := own_text (hown.alloc (.cells #[.int .u8 ((dig (n / 2 ^ (64 - 8 * 8))).length : Int)] 5))
      have h3 : (strOfNums [((dig (n / 2 ^ (64 - 8 * 8))).length : Int)]).size + (strOfNums (dig (n / 2 ^ (64 - 8 * 8)))).size ≤ 9223372036854775807 := by
        rw [strOfNums_size, strOfNums_size, List.length_singleton]; omega
      rw [show n / 2 ^ (64 - 8 * 8) = n from by simp] at *
      go_wp2
      go_ret
      exact ⟨rfl, hb.alloc hb.size _⟩

end Go.Proofs.YtdljphbfbiganaaGreatDoor.Num
/- The bytes of a number, of whole numbers as the walk has them. -/
namespace Go.Proofs.YtdljphbfbiganaaGreatDoor.Num
open Go.RowKit

theorem u64_lo (x : Int) : 0 ≤ IntKind.u64.wrap x := by rw [IntKind.wrap_u64]; omega
theorem u64_hi (x : Int) : IntKind.u64.wrap x < 18446744073709551616 := by rw [IntKind.wrap_u64]; omega

/-- The bytes of a number, of any whole number its rest. -/
def kS (x : Int) : ByteArray := numS (x.toNat % 18446744073709551616)

theorem num_int (x : Int) (h0 : 0 ≤ x) (h1 : x < 18446744073709551616) (w : World) :
    Calls Tryz.prog 56 #[.int .u64 x] w fun e w' => e = .returned (.string (kS x)) ∧ Below w.heap.size w w' := by
  obtain ⟨n, rfl⟩ := Int.eq_ofNat_of_zero_le h0
  unfold kS
  rw [Int.toNat_natCast, Nat.mod_eq_of_lt (by omega)]
  exact num_any n (by omega) w

theorem kS_size (x : Int) : (kS x).size ≤ 9 := by
  have := dig_len (m := x.toNat % 18446744073709551616) (k := 8) (Nat.lt_of_lt_of_le (Nat.mod_lt _ (by decide)) (by decide))
  unfold kS numS
  rw [ByteArray.size_append, strOfNums_size, strOfNums_size, List.length_singleton]
  omega
theorem kS_2 (x y : Int) : (kS x).size + (kS y).size ≤ 9223372036854775807 := by have := kS_size x; have := kS_size y; omega
theorem kS_3 (x y z : Int) : (kS x ++ kS y).size + (kS z).size ≤ 9223372036854775807 := by rw [ByteArray.size_append]; have := kS_size x; have := kS_size y; have := kS_size z; omega
theorem kS_3' (x y z : Int) : (kS x).size + (kS y).size + (kS z).size ≤ 9223372036854775807 := by have := kS_size x; have := kS_size y; have := kS_size z; omega
theorem kS_all (x y z : Int) : (kS x ++ kS y ++ kS z).size ≤ maxLen := by rw [ByteArray.size_append, ByteArray.size_append]; have := kS_size x; have := kS_size y; have := kS_size z; unfold maxLen; omega

theorem below_box {w w1 : World} {o : Obj} (hb : Below (w.alloc o).heap.size (w.alloc o) w1) : Below w.heap.size w w1 :=
  ((Below.refl _ _).alloc (Nat.le_refl _) o).trans (hb.mono (by simp))

theorem add_run (P : Program) (w : World) (x y : Int) : (Op.stringOp .add (kS x) (kS y)).run P w = .ok (.string (kS x ++ kS y)) w := run_string_add_sum w _ _ (kS_2 x y)
theorem add_run3 (P : Program) (w : World) (x y z : Int) : (Op.stringOp .add (kS x ++ kS y) (kS z)).run P w = .ok (.string (kS x ++ kS y ++ kS z)) w := run_string_add_sum w _ _ (kS_3 x y z)

end Go.Proofs.YtdljphbfbiganaaGreatDoor.Num
/- The bytes of numbers, by order. -/
namespace Go.Proofs.YtdljphbfbiganaaGreatDoor.Num
open Go.RowKit

def bytesOf (l : List Int) : List UInt8 := l.map fun n => UInt8.ofNat n.toNat

theorem less_append (l m x y : List UInt8) (hlen : l.length = m.length) (h : Op.bytesLess l m = true) : Op.bytesLess (l ++ x) (m ++ y) = true := by
  induction l generalizing m with
  | nil =>
    cases m with
    | nil => simp [Op.bytesLess] at h
    | cons _ _ => simp at hlen
  | cons a l ih =>
    cases m with
    | nil => simp at hlen
    | cons b m =>
      simp [Op.bytesLess] at h ⊢
      rcases h with h | ⟨h1, h2⟩
      · exact .inl h
      · exact .inr ⟨h1, ih m (by simpa using hlen) h2⟩
theorem less_same (l : List UInt8) (x y : List UInt8) (h : Op.bytesLess x y = true) : Op.bytesLess (l ++ x) (l ++ y) = true := by
  induction l with
  | nil => exact h
  | cons a l ih => simp [Op.bytesLess, ih]

theorem dig_byte (m : Nat) : bytesOf [((m % 256 : Nat) : Int)] = [UInt8.ofNat (m % 256)] := by
  show [UInt8.ofNat (((m % 256 : Nat) : Int)).toNat] = _
  rw [Int.toNat_natCast]
theorem byte_lt {a b : Nat} (ha : a < 256) (hb : b < 256) (h : a < b) : Op.bytesLess [UInt8.ofNat a] [UInt8.ofNat b] = true := by
  have : UInt8.ofNat a < UInt8.ofNat b := by rw [UInt8.lt_iff_toNat_lt]; simp; omega
  simp [Op.bytesLess, this]

/-- A greater number has no fewer digits, and of as many the greater ones. -/
theorem dig_rises : ∀ (b a : Nat), a < b → (dig a).length < (dig b).length ∨ (dig a).length = (dig b).length ∧ Op.bytesLess (bytesOf (dig a)) (bytesOf (dig b)) = true := by
  intro b
  induction b using Nat.strongRecOn with
  | _ b ih =>
    intro a hab
    rw [dig_pos (m := b) (by omega)]
    by_cases ha : a = 0
    · subst ha; rw [dig_zero]; left; simp
    · rw [dig_pos ha]
      by_cases hq : a / 256 = b / 256
      · right
        rw [hq]
        refine ⟨by simp, ?_⟩
        unfold bytesOf
        rw [List.map_append, List.map_append]
        refine less_same _ _ _ ?_
        have := byte_lt (a := a % 256) (b := b % 256) (by omega) (by omega) (by omega)
        rw [← dig_byte, ← dig_byte] at this
        exact this
      · rcases ih (b / 256) (by omega) (a / 256) (by omega) with h | ⟨h1, h2⟩
        · left; simp; omega
        · right
          refine ⟨by simp; omega, ?_⟩
          unfold bytesOf at h2 ⊢
          rw [List.map_append, List.map_append]
          exact less_append _ _ _ _ (by simp; omega) h2

theorem numS_list (n : Nat) : (numS n).data.toList = UInt8.ofNat (dig n).length :: bytesOf (dig n) := by
  simp [numS, strOfNums, bytesOf]
theorem numS_len (n : Nat) : (numS n).size = (dig n).length + 1 := by
  unfold numS; rw [ByteArray.size_append, strOfNums_size, strOfNums_size, List.length_singleton]; omega

theorem less_irrefl (l : List UInt8) : Op.bytesLess l l = false := by
  induction l with
  | nil => rfl
  | cons a l ih => simp [Op.bytesLess, ih]

theorem numS_rises (a b : Nat) (h : a < b) : (numS a).size < (numS b).size ∨ (numS a).size = (numS b).size ∧ Op.bytesLess (numS a).data.toList (numS b).data.toList = true := by
  rw [numS_len, numS_len]
  rcases dig_rises b a h with h | ⟨h1, h2⟩
  · left; omega
  · right
    refine ⟨by omega, ?_⟩
    rw [numS_list, numS_list, h1]
    simp [Op.bytesLess, h2]
theorem numS_ne (a b : Nat) (h : a < b) : (numS a).data.toList ≠ (numS b).data.toList := by
  intro he
  rcases numS_rises a b h with h | ⟨_, h2⟩
  · have : (numS a).size = (numS b).size := by
      have := congrArg List.length he
      simpa using this
    omega
  · rw [he, less_irrefl] at h2; cases h2

end Go.Proofs.YtdljphbfbiganaaGreatDoor.Num
/- strings.Repeat: the shelf's contract laid at this program. -/
namespace Go.Proofs.YtdljphbfbiganaaGreatDoor.Sha
open Go Go.RowKit Go.Shelf Go.Lib

def laysRepeat_ren : Go.Shelf.Ren := ⟨fun | 105 => 63 | 212 => 74 | 99 => 75 | 165 => 60 | 166 => 61 | 170 => 76 | 169 => 62 | 263 => 92 | 264 => 93 | 206 => 94 | 240 => 72 | 241 => 73 | 276 => 90 | 277 => 91 | n => n, fun | 9 => 9 | 3 => 3 | 4 => 4 | 20 => 20 | 0 => 0 | 46 => 114 | 109 => 117 | 5 => 5 | 72 => 98 | 76 => 102 | 51 => 85 | 146 => 136 | 53 => 31 | 148 => 138 | 70 => 96 | 37 => 81 | 75 => 101 | 127 => 116 | 164 => 133 | 80 => 104 | n => n, fun | n => n⟩
theorem laysRepeat : Go.Proofs.Lays.n105 Tryz.prog laysRepeat_ren := {
  mixed := by kernel_rfl
  f99 := Tryz.func75.trans (congrArg some (by kernel_rfl))
  f105 := Tryz.func63.trans (congrArg some (by kernel_rfl))
  f165 := Tryz.func60.trans (congrArg some (by kernel_rfl))
  f166 := Tryz.func61.trans (congrArg some (by kernel_rfl))
  f169 := Tryz.func62.trans (congrArg some (by kernel_rfl))
  f170 := Tryz.func76.trans (congrArg some (by kernel_rfl))
  f206 := Tryz.func94.trans (congrArg some (by kernel_rfl))
  f212 := Tryz.func74.trans (congrArg some (by kernel_rfl))
  f240 := Tryz.func72.trans (congrArg some (by kernel_rfl))
  f241 := Tryz.func73.trans (congrArg some (by kernel_rfl))
  f263 := Tryz.func92.trans (congrArg some (by kernel_rfl))
  f264 := Tryz.func93.trans (congrArg some (by kernel_rfl))
  f276 := Tryz.func90.trans (congrArg some (by kernel_rfl))
  f277 := Tryz.func91.trans (congrArg some (by kernel_rfl))
  t0 := Tryz.underlying0
  a0 := Tryz.isAgg0
  z0 := Tryz.sizeOf0
  v0 := Tryz.zeroValue0
  t3 := Tryz.underlying3
  a3 := Tryz.isAgg3
  z3 := Tryz.sizeOf3
  v3 := Tryz.zeroValue3
  t4 := Tryz.underlying4
  a4 := Tryz.isAgg4
  z4 := Tryz.sizeOf4
  v4 := Tryz.zeroValue4
  t5 := Tryz.underlying5
  a5 := Tryz.isAgg5
  z5 := Tryz.sizeOf5
  v5 := Tryz.zeroValue5
  t9 := Tryz.underlying9
  a9 := Tryz.isAgg9
  z9 := Tryz.sizeOf9
  v9 := Tryz.zeroValue9
  t20 := Tryz.underlying20
  a20 := Tryz.isAgg20
  z20 := Tryz.sizeOf20
  v20 := Tryz.zeroValue20
  t37 := Tryz.underlying81
  a37 := Tryz.isAgg81
  z37 := Tryz.sizeOf81
  v37 := Tryz.zeroValue81
  t46 := Tryz.underlying114
  a46 := Tryz.isAgg114
  z46 := Tryz.sizeOf114
  v46 := Tryz.zeroValue114
  t51 := Tryz.underlying85
  a51 := Tryz.isAgg85
  z51 := Tryz.sizeOf85
  v51 := Tryz.zeroValue85
  t53 := Tryz.underlying31
  a53 := Tryz.isAgg31
  z53 := Tryz.sizeOf31
  v53 := Tryz.zeroValue31
  t70 := Tryz.underlying96
  a70 := Tryz.isAgg96
  z70 := Tryz.sizeOf96
  v70 := Tryz.zeroValue96
  t72 := Tryz.underlying98
  a72 := Tryz.isAgg98
  z72 := Tryz.sizeOf98
  v72 := Tryz.zeroValue98
  t75 := Tryz.underlying101
  a75 := Tryz.isAgg101
  z75 := Tryz.sizeOf101
  v75 := Tryz.zeroValue101
  t76 := Tryz.underlying102
  a76 := Tryz.isAgg102
  z76 := Tryz.sizeOf102
  v76 := Tryz.zeroValue102
  t109 := Tryz.underlying117
  a109 := Tryz.isAgg117
  z109 := Tryz.sizeOf117
  v109 := Tryz.zeroValue117
  t127 := Tryz.underlying116
  a127 := Tryz.isAgg116
  z127 := Tryz.sizeOf116
  v127 := Tryz.zeroValue116
  t146 := Tryz.underlying136
  a146 := Tryz.isAgg136
  z146 := Tryz.sizeOf136
  v146 := Tryz.zeroValue136
  t148 := Tryz.underlying138
  a148 := Tryz.isAgg138
  z148 := Tryz.sizeOf138
  v148 := Tryz.zeroValue138
  t164 := Tryz.underlying133
  a164 := Tryz.isAgg133
  z164 := Tryz.sizeOf133
  v164 := Tryz.zeroValue133 }
theorem extraRepeat : Go.Proofs.Builder.Extra Tryz.prog laysRepeat_ren := {
  sizeBuilder := by kernel_rfl
  liesBuilder := by kernel_rfl
  t5 := Tryz.underlying5
  a5 := Tryz.isAgg5
  z5 := Tryz.sizeOf5
  v5 := Tryz.zeroValue5
  infoByte := by kernel_rfl
  cellsByte := by kernel_rfl
  sizeByte := by kernel_rfl
  neB5 := by decide }
theorem repeatL_one' (x : UInt8) (n : Nat) : Lib.repeatL [x] n = List.replicate n x := by
  induction n with
  | zero => rfl
  | succ n ih => rw [List.replicate_succ, ← ih]; rfl
end Go.Proofs.YtdljphbfbiganaaGreatDoor.Sha
