/- 'PacketApart' holds for every input, with no condition: two right packets that are not the same have bytes that are not. -/
import Derived.Test.YticcobciafbleaaPacketMath
namespace Go.Proofs.Yticcobciafbleaa.packetApart
open Go.RowKit Num Texts Packet

/-- Both packets' boxes. -/
def Two (w : World) (p q : P5) (W : World) : Prop :=
  w.heap.size + 1 < W.heap.size ∧ Below w.heap.size w W ∧ W.heap[w.heap.size]? = some (.cells p.cells 36 (0, 0)) ∧ W.heap[w.heap.size + 1]? = some (.cells q.cells 36 (0, 0))
section
variable {w W w1 : World} {p q : P5}
theorem Two.call (h : Two w p q W) (hb : Below W.heap.size W w1) : Two w p q w1 :=
  ⟨Nat.lt_of_lt_of_le h.1 hb.size, h.2.1.trans (hb.mono (by have := h.1; omega)), (hb.block _ (by have := h.1; omega)).trans h.2.2.1, (hb.block _ h.1).trans h.2.2.2⟩
theorem Two.new (w : World) (p q : P5) : Two w p q ((w.alloc (.cells p.cells 36)).alloc (.cells q.cells 36)) := by
  refine ⟨by simp, ((Below.refl _ _).alloc (Nat.le_refl _) _).alloc (by simp) _, ?_, ?_⟩
  · rw [Below.heap_alloc _ _ _ (by simp)]
    exact heap_alloc_new w _
  · have := heap_alloc_new (w.alloc (.cells p.cells 36)) (.cells q.cells 36)
    simpa using this
theorem Two.facts (h : Two w p q W) : W.cell? ⟨w.heap.size, 0, none⟩ = some (.int .i64 p.c) ∧ W.cell? ⟨w.heap.size, 1, none⟩ = some (.int .i64 p.f) ∧ W.cell? ⟨w.heap.size, 2, none⟩ = some (.int .u64 p.s) ∧ W.cell? ⟨w.heap.size, 3, none⟩ = some (.int .u64 p.t) ∧ W.cell? ⟨w.heap.size, 4, none⟩ = some (.string p.d) ∧
    W.cell? ⟨w.heap.size + 1, 0, none⟩ = some (.int .i64 q.c) ∧ W.cell? ⟨w.heap.size + 1, 1, none⟩ = some (.int .i64 q.f) ∧ W.cell? ⟨w.heap.size + 1, 2, none⟩ = some (.int .u64 q.s) ∧ W.cell? ⟨w.heap.size + 1, 3, none⟩ = some (.int .u64 q.t) ∧ W.cell? ⟨w.heap.size + 1, 4, none⟩ = some (.string q.d) :=
  ⟨cell_of_row W _ 0 _ _ (0, 0) h.2.2.1, cell_of_row W _ 1 _ _ (0, 0) h.2.2.1, cell_of_row W _ 2 _ _ (0, 0) h.2.2.1, cell_of_row W _ 3 _ _ (0, 0) h.2.2.1, cell_of_row W _ 4 _ _ (0, 0) h.2.2.1,
   cell_of_row W _ 0 _ _ (0, 0) h.2.2.2, cell_of_row W _ 1 _ _ (0, 0) h.2.2.2, cell_of_row W _ 2 _ _ (0, 0) h.2.2.2, cell_of_row W _ 3 _ _ (0, 0) h.2.2.2, cell_of_row W _ 4 _ _ (0, 0) h.2.2.2⟩
end

theorem dig_small {m : Nat} (h0 : m ≠ 0) (h : m < 256) : dig m = [(m : Int)] := by
  rw [dig_pos h0, Nat.div_eq_of_lt h, dig_zero, Nat.mod_eq_of_lt h]; rfl
theorem ex_bytes : (⟨1, 0, 2, 0, ⟨#[120]⟩⟩ : P5).bytes = ⟨#[1, 1, 0, 1, 2, 0, 1, 1, 120]⟩ := by
  have n1 : numS 1 = ⟨#[1, 1]⟩ := by unfold numS; rw [dig_small (by decide) (by decide)]; simp [strOfNums]; rfl
  have n2 : numS 2 = ⟨#[1, 2]⟩ := by unfold numS; rw [dig_small (by decide) (by decide)]; simp [strOfNums]; rfl
  have n0 : numS 0 = ⟨#[0]⟩ := by simp [numS, dig_zero, strOfNums]; rfl
  have k1 : kS 1 = ⟨#[1, 1]⟩ := n1
  have k2 : kS 2 = ⟨#[1, 2]⟩ := n2
  have k0 : kS 0 = ⟨#[0]⟩ := n0
  have t1 : textB ⟨#[120]⟩ = ⟨#[1, 1, 120]⟩ := by
    unfold textB textL
    rw [show (⟨#[120]⟩ : ByteArray).size = 1 from rfl, n1]
    rfl
  simp only [P5.bytes, k0, k1, k2, t1]
  rfl

set_option maxHeartbeats 1000000 in
theorem awake_any (w : World) : Calls Try.prog 20 #[] w fun e w' => e = .returned (.bool true) ∧ Below w.heap.size w w' := by
  have hp := put_yes ⟨1, 0, 2, 0, ⟨#[120]⟩⟩ ⟨by decide, by decide, .inl rfl, by decide⟩ ⟨by decide, by decide, by decide, by decide, by decide⟩
  rw [ex_bytes] at hp
  have HP := Lib.hid hp
  clear hp
  go_enter Try.func20, Try.ntmps20
  go_wp2_with fail
  refine (HP.out _).mono ?_
  rintro e w1 ⟨rfl, b1⟩
  go_wp2
  go_ret
  exact ⟨rfl, b1⟩

def arg (p : P5) : Value := .agg #[.int .i64 p.c, .int .i64 p.f, .int .u64 p.s, .int .u64 p.t, .string p.d]

set_option maxHeartbeats 1000000 in
theorem walk_long (p q : P5) (h : 300 < p.d.size ∨ 300 < q.d.size) (w : World) : Calls Try.prog 4 #[arg p, arg q] w fun e w' => e = .returned (.bool true) ∧ Below w.heap.size w w' := by
  have hT := Two.new w p q
  have HT := Lib.hid hT
  unfold P5.cells at hT
  unfold arg
  by_cases h1 : 300 < p.d.size
  · have h1 : (300 : Int) < (p.d.size : Int) := by omega
    clear h hT
    go_enter Try.func4, Try.ntmps4
    go_wp2_with fail
    refine (awake_any _).mono ?_
    rintro e w1 ⟨rfl, b1⟩
    go_wp2
    go_ret
    exact ⟨rfl, (HT.out.call b1).2.1⟩
  · have h1 : ¬ (300 : Int) < (p.d.size : Int) := by omega
    have h2 : (300 : Int) < (q.d.size : Int) := by omega
    clear h hT
    go_enter Try.func4, Try.ntmps4
    go_wp2_with fail
    refine (awake_any _).mono ?_
    rintro e w1 ⟨rfl, b1⟩
    go_wp2
    go_ret
    exact ⟨rfl, (HT.out.call b1).2.1⟩

theorem ne_list {a b : ByteArray} (h : a ≠ b) : ¬ a.toList = b.toList := fun e => h (by rw [ByteArray.toList_eq, ByteArray.toList_eq] at e; exact Go.WideShapes.bytes_inj e)

set_option maxRecDepth 20000 in
set_option maxHeartbeats 1000000 in
theorem walk_both (p q : P5) (h1 : p.d.size ≤ 300) (h2 : q.d.size ≤ 300) (hp : p.right) (hq : q.right) (hpo : p.ok) (hqo : q.ok) (w : World) : Calls Try.prog 4 #[arg p, arg q] w fun e w' => e = .returned (.bool true) ∧ Below w.heap.size w w' := by
  have HT := Lib.hid (Two.new w p q)
  have HP := Lib.hid (put_yes p hp hpo)
  have HQ := Lib.hid (put_yes q hq hqo)
  have n1 : ¬ (300 : Int) < (p.d.size : Int) := by omega
  have n2 : ¬ (300 : Int) < (q.d.size : Int) := by omega
  have hE := eq_packet p q
  have HS : Hid (p = q ∧ p.bytes = q.bytes ∨ p ≠ q ∧ p.bytes ≠ q.bytes ∧ q.bytes.extract 0 p.bytes.size ≠ p.bytes ∧ p.bytes.extract 0 q.bytes.size ≠ q.bytes) := Lib.hid (by
    by_cases he : p = q
    · exact .inl ⟨he, by rw [he]⟩
    · exact .inr ⟨he, fun h => he (bytes_inj hp hpo hq hqo h), bytes_begin hp hpo hq hqo he, bytes_begin hq hqo hp hpo (fun h => he h.symm)⟩)
  unfold arg
  clear hp hq hpo hqo h1 h2
  generalize p.bytes = S at *
  generalize q.bytes = T at *
  go_enter Try.func4, Try.ntmps4
  go_wp2_with fail
  refine (HP.out _).mono ?_
  rintro e w1 ⟨rfl, b1⟩
  have T1 := Lib.hid (HT.out.call b1)
  clear b1
  obtain ⟨x0, x1, x2, x3, x4, y0, y1, y2, y3, y4⟩ := T1.out.facts
  go_wp2_with fail
  refine (HQ.out _).mono ?_
  rintro e w2 ⟨rfl, b2⟩
  have T2 := Lib.hid (T1.out.call b2)
  clear b2 x0 x1 x2 x3 x4 y0 y1 y2 y3 y4
  by_cases hgt : (S.size : Int) > (T.size : Int)
  · go_wp2_with fail
    refine (awake_any _).mono ?_
    rintro e w3 ⟨rfl, b3⟩
    have T3 := Lib.hid (T2.out.call b3)
    obtain ⟨x0, x1, x2, x3, x4, y0, y1, y2, y3, y4⟩ := T3.out.facts
    clear b3
    rcases HS.out with ⟨rfl, he⟩ | ⟨hne, ha, hb, hc⟩
    · exact absurd hgt (by rw [he]; omega)
    · have hs := same5_ne hne
      have ha1 := ne_list ha.symm
      have ha2 : (T.toList == S.toList) = false := by simpa using ha1
      have hc1 := ne_list hc
      have hc2 : ((S.extract 0 T.size).toList == T.toList) = false := by simpa using hc1
      clear hne ha hb hc
      go_wp2
      go_ret
      exact ⟨rfl, T3.out.2.1⟩
  · go_wp2_with fail
    refine (awake_any _).mono ?_
    rintro e w3 ⟨rfl, b3⟩
    have T3 := Lib.hid (T2.out.call b3)
    obtain ⟨x0, x1, x2, x3, x4, y0, y1, y2, y3, y4⟩ := T3.out.facts
    clear b3
    rcases HS.out with ⟨rfl, he⟩ | ⟨hne, ha, hb, hc⟩
    · have hs := same5_self p
      subst he
      go_wp2
      go_ret
      exact ⟨rfl, T3.out.2.1⟩
    · have hs := same5_ne hne
      have ha1 := ne_list ha
      have ha2 : (S.toList == T.toList) = false := by simpa using ha1
      have hb1 := ne_list hb
      have hb2 : ((T.extract 0 S.size).toList == S.toList) = false := by simpa using hb1
      have hle : (S.size : Int) ≤ (T.size : Int) := by omega
      clear hne ha hb hc
      go_wp2
      go_ret
      exact ⟨rfl, T3.out.2.1⟩

set_option maxRecDepth 20000 in
set_option maxHeartbeats 1000000 in
theorem walk_first (p q : P5) (h1 : p.d.size ≤ 300) (h2 : q.d.size ≤ 300) (hp : ¬ p.right) (a : ByteArray) (b : Int) (hq : ∀ w, Calls Try.prog 21 #[arg q] w fun e w' => e = .returned (.tuple #[.string a, .int .i64 b]) ∧ Below w.heap.size w w') (w : World) : Calls Try.prog 4 #[arg p, arg q] w fun e w' => e = .returned (.bool true) ∧ Below w.heap.size w w' := by
  have HT := Lib.hid (Two.new w p q)
  have HP := Lib.hid (put_no p hp)
  have HQ := Lib.hid hq
  have n1 : ¬ (300 : Int) < (p.d.size : Int) := by omega
  have n2 : ¬ (300 : Int) < (q.d.size : Int) := by omega
  clear hq hp h1 h2
  unfold arg at *
  go_enter Try.func4, Try.ntmps4
  go_wp2_with fail
  refine (HP.out _).mono ?_
  rintro e w1 ⟨rfl, b1⟩
  have T1 := Lib.hid (HT.out.call b1)
  clear b1
  obtain ⟨x0, x1, x2, x3, x4, y0, y1, y2, y3, y4⟩ := T1.out.facts
  go_wp2_with fail
  refine (HQ.out _).mono ?_
  rintro e w2 ⟨rfl, b2⟩
  have T2 := Lib.hid (T1.out.call b2)
  clear b2 x0 x1 x2 x3 x4 y0 y1 y2 y3 y4
  go_wp2_with fail
  refine (awake_any _).mono ?_
  rintro e w3 ⟨rfl, b3⟩
  go_wp2
  go_ret
  exact ⟨rfl, (T2.out.call b3).2.1⟩

set_option maxRecDepth 20000 in
set_option maxHeartbeats 1000000 in
theorem walk_second (p q : P5) (h1 : p.d.size ≤ 300) (h2 : q.d.size ≤ 300) (hp : p.right) (hpo : p.ok) (hq : ¬ q.right) (w : World) : Calls Try.prog 4 #[arg p, arg q] w fun e w' => e = .returned (.bool true) ∧ Below w.heap.size w w' := by
  have HT := Lib.hid (Two.new w p q)
  have HP := Lib.hid (put_yes p hp hpo)
  have HQ := Lib.hid (put_no q hq)
  have n1 : ¬ (300 : Int) < (p.d.size : Int) := by omega
  have n2 : ¬ (300 : Int) < (q.d.size : Int) := by omega
  clear hp hpo hq h1 h2
  unfold arg at *
  generalize p.bytes = S at *
  go_enter Try.func4, Try.ntmps4
  go_wp2_with fail
  refine (HP.out _).mono ?_
  rintro e w1 ⟨rfl, b1⟩
  have T1 := Lib.hid (HT.out.call b1)
  clear b1
  obtain ⟨x0, x1, x2, x3, x4, y0, y1, y2, y3, y4⟩ := T1.out.facts
  go_wp2_with fail
  refine (HQ.out _).mono ?_
  rintro e w2 ⟨rfl, b2⟩
  have T2 := Lib.hid (T1.out.call b2)
  clear b2 x0 x1 x2 x3 x4 y0 y1 y2 y3 y4
  go_wp2_with fail
  refine (awake_any _).mono ?_
  rintro e w3 ⟨rfl, b3⟩
  go_wp2
  go_ret
  exact ⟨rfl, (T2.out.call b3).2.1⟩

theorem walk_all (p q : P5) (hpo : p.ok) (hqo : q.ok) (w : World) : Calls Try.prog 4 #[arg p, arg q] w fun e w' => e = .returned (.bool true) ∧ Below w.heap.size w w' := by
  by_cases hl : 300 < p.d.size ∨ 300 < q.d.size
  · exact walk_long p q hl w
  · by_cases hp : p.right
    · by_cases hq : q.right
      · exact walk_both p q (by omega) (by omega) hp hq hpo hqo w
      · exact walk_second p q (by omega) (by omega) hp hpo hq w
    · by_cases hq : q.right
      · exact walk_first p q (by omega) (by omega) hp _ _ (put_yes q hq hqo) w
      · exact walk_first p q (by omega) (by omega) hp _ _ (put_no q hq) w
end Go.Proofs.Yticcobciafbleaa.packetApart
