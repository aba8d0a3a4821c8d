/- 'TxnApart' holds for every input, with no condition: two right transactions that are not the same have bytes that are not. -/
import Derived.Test.YteajilefhkckeaaTxnSame
import Derived.Test.YteajilefhkckeaaTxnPut
import Derived.Test.YteajilefhkckeaaTxOpen2
namespace Go.Proofs.Yteajilefhkckeaa.txnApart
open Go Go.RowKit Msg Num Texts
open Packet (P5 textB)

theorem ex_bytes : tB 1 2 3 [] = ⟨#[1, 1, 1, 2, 1, 3, 0]⟩ := by
  have dig_small : ∀ {m : Nat}, m ≠ 0 → m < 256 → dig m = [(m : Int)] := fun {m} h0 h => by
    rw [dig_pos h0, Nat.div_eq_of_lt h, dig_zero, Nat.mod_eq_of_lt h]; rfl
  have n1 : numS 1 = ⟨#[1, 1]⟩ := by unfold numS; rw [dig_small (by decide) (by decide)]; simp [strOfNums]; rfl
  have n2 : numS 2 = ⟨#[1, 2]⟩ := by unfold numS; rw [dig_small (by decide) (by decide)]; simp [strOfNums]; rfl
  have n3 : numS 3 = ⟨#[1, 3]⟩ := by unfold numS; rw [dig_small (by decide) (by decide)]; simp [strOfNums]; rfl
  have n0 : numS 0 = ⟨#[0]⟩ := by simp [numS, dig_zero, strOfNums]; rfl
  have k1 : kS 1 = ⟨#[1, 1]⟩ := n1
  have k2 : kS 2 = ⟨#[1, 2]⟩ := n2
  have k3 : kS 3 = ⟨#[1, 3]⟩ := n3
  have k0 : kS (([] : List M7).length : Int) = ⟨#[0]⟩ := n0
  simp only [tB, k1, k2, k3, k0]
  rfl

set_option maxHeartbeats 1000000 in
theorem awake_any (w : World) : Calls Try.prog 7 #[] w fun e w' => e = .returned (.bool true) ∧ Below w.heap.size w w' := by
  have hp := fun W => txput_yes ⟨1, 2, 3, none, 0, 0, []⟩ W ⟨rfl, fun h => absurd h (by decide)⟩ ⟨by decide, by decide⟩ (fun m hm => by simp at hm) (by decide)
  simp only [ex_bytes] at hp
  have HP := Lib.hid hp
  clear hp
  go_enter Try.func7, Try.ntmps7
  go_wp2_with fail
  refine (HP.out _).mono ?_
  rintro e w1 ⟨rfl, b1⟩
  go_wp2
  go_ret
  exact ⟨rfl, b1⟩

/-- Both boxes. -/
structure Two (w W : World) (a b : T4) : Prop where
  a : W.heap[w.heap.size]? = some (.cells a.cells 25 (0, 0))
  b : W.heap[w.heap.size + 1]? = some (.cells b.cells 25 (0, 0))
  bel : Below w.heap.size w W
theorem Two.call {w W W1 : World} {a b : T4} (h : Two w W a b) (hb : Below W.heap.size W W1) : Two w W1 a b := ⟨(hb.block _ (lt_blk h.a)).trans h.a, (hb.block _ (lt_blk h.b)).trans h.b, h.bel.trans (hb.mono h.bel.size)⟩
theorem Two.new (w : World) (a b : T4) : Two w ((w.alloc (.cells a.cells 25)).alloc (.cells b.cells 25)) a b :=
  ⟨(Below.heap_alloc _ _ _ (by simp)).trans (heap_alloc_new w _), by have := heap_alloc_new (w.alloc (.cells a.cells 25)) (.cells b.cells 25); rwa [World.size_alloc] at this, ((Below.refl _ _).alloc (Nat.le_refl _) _).alloc (by simp) _⟩
theorem four {W : World} {H : Nat} {t : T4} (h : W.heap[H]? = some (.cells t.cells 25 (0, 0))) : W.cell? ⟨H, 0, none⟩ = some (.int .i64 t.side) ∧ W.cell? ⟨H, 1, none⟩ = some (.int .i64 t.acc) ∧ W.cell? ⟨H, 2, none⟩ = some (.int .u64 t.n) ∧ W.cell? ⟨H, 3, none⟩ = some (.slice t.A t.len t.cap) :=
  ⟨cell_of_row _ _ 0 _ _ _ h, cell_of_row _ _ 1 _ _ _ h, cell_of_row _ _ 2 _ _ _ h, cell_of_row _ _ 3 _ _ _ h⟩

/-- What Put answers. -/
def PutsAs (w : World) (a : T4) (S : ByteArray) (ea : Int) : Prop := ∀ W, Below w.heap.size w W → Calls Try.prog 10 #[.agg #[.int .i64 a.side, .int .i64 a.acc, .int .u64 a.n, .slice a.A a.len a.cap]] W fun e w' => e = .returned (.tuple #[.string S, .int .i64 ea]) ∧ Below W.heap.size W w'
theorem puts_as (w : World) (a : T4) (ha : a.ok w) (hw : ∀ m ∈ a.ms, m.wf) : (txright a.side a.acc a.ms = true ∧ PutsAs w a (tB a.side a.acc a.n a.ms) 0) ∨ (txright a.side a.acc a.ms = false ∧ PutsAs w a ⟨#[]⟩ 1) := by
  have hl : a.len ≤ 9223372036854775807 := by have := ha.1; have := ha.2.1; unfold maxLen at this; omega
  by_cases h : txright a.side a.acc a.ms = true
  · exact .inl ⟨h, fun W hW => txput_yes a W (ha.2.2.1.below hW) ha.2.2.2 hw h⟩
  · have h' : txright a.side a.acc a.ms = false := by simpa using h
    exact .inr ⟨h', fun W hW => txput_no a W (ha.2.2.1.below hW) hl h'⟩

theorem ne_list {a b : ByteArray} (h : a ≠ b) : ¬ a.toList = b.toList := fun e => h (by rw [ByteArray.toList_eq, ByteArray.toList_eq] at e; exact Go.WideShapes.bytes_inj e)

theorem tsame_words {a b : T4} : tsame a b = true ↔ a.side = b.side ∧ a.acc = b.acc ∧ a.n = b.n ∧ a.ms = b.ms := by
  simp [tsame, msame_iff]

set_option maxRecDepth 100000 in
set_option maxHeartbeats 4000000 in
theorem law_any (a b : T4) (w : World) (ha : a.ok w) (hb : b.ok w) (hwa : ∀ m ∈ a.ms, m.wf) (hwb : ∀ m ∈ b.ms, m.wf) :
    Calls Try.prog 3 #[.agg #[.int .i64 a.side, .int .i64 a.acc, .int .u64 a.n, .slice a.A a.len a.cap], .agg #[.int .i64 b.side, .int .i64 b.acc, .int .u64 b.n, .slice b.A b.len b.cap]] w fun e w' => e = .returned (.bool true) ∧ Below w.heap.size w w' := by
  have hla : a.len ≤ 9223372036854775807 := by have := ha.1; have := ha.2.1; unfold maxLen at this; omega
  have hlb : b.len ≤ 9223372036854775807 := by have := hb.1; have := hb.2.1; unfold maxLen at this; omega
  obtain ⟨s, hs⟩ : ∃ s, s = tsame a b := ⟨_, rfl⟩
  obtain ⟨S, ea, T, eb, hPa, hPb, hcase⟩ : ∃ S ea T eb, PutsAs w a S ea ∧ PutsAs w b T eb ∧ (ea = 1 ∨ (ea = 0 ∧ eb = 1) ∨ (ea = 0 ∧ eb = 0 ∧ ((s = true ∧ S = T) ∨ (s = false ∧ ¬ S.toList = T.toList)))) := by
    rcases puts_as w a ha hwa with ⟨ra, pa⟩ | ⟨ra, pa⟩
    · rcases puts_as w b hb hwb with ⟨rb, pb⟩ | ⟨rb, pb⟩
      · refine ⟨_, _, _, _, pa, pb, .inr (.inr ⟨rfl, rfl, ?_⟩)⟩
        cases hts : tsame a b with
        | true =>
          obtain ⟨e1, e2, e3, e4⟩ := tsame_words.1 hts
          exact .inl ⟨by rw [hs, hts], by rw [e1, e2, e3, e4]⟩
        | false =>
          refine .inr ⟨by rw [hs, hts], ne_list fun e => ?_⟩
          have := tsame_words.2 (tB_inj ra rb ha.2.2.2 hb.2.2.2 hwa hwb e)
          rw [hts] at this
          cases this
      · exact ⟨_, _, _, _, pa, pb, .inr (.inl ⟨rfl, rfl⟩)⟩
    · rcases puts_as w b hb hwb with ⟨rb, pb⟩ | ⟨rb, pb⟩
      · exact ⟨_, _, _, _, pa, pb, .inl rfl⟩
      · exact ⟨_, _, _, _, pa, pb, .inl rfl⟩
  have HPa := Lib.hid hPa
  have HPb := Lib.hid hPb
  have HFa := Lib.hid (fun W (hW : Below w.heap.size w W) => few05_any a.side a.acc a.n a.A a.len a.cap a.ms W (ha.2.2.1.below hW) hla)
  have HFb := Lib.hid (fun W (hW : Below w.heap.size w W) => few05_any b.side b.acc b.n b.A b.len b.cap b.ms W (hb.2.2.1.below hW) hlb)
  have HR1 := Lib.hid (fun W (hW : Below w.heap.size w W) => rsame_any a b W (ha.2.2.1.below hW) (hb.2.2.1.below hW) hla hlb)
  have HP1 := Lib.hid (fun W (hW : Below w.heap.size w W) => psame_any a b W (ha.2.2.1.below hW) (hb.2.2.1.below hW) hla hlb)
  have HP2 := Lib.hid (fun W (hW : Below w.heap.size w W) => psame_any a a W (ha.2.2.1.below hW) (ha.2.2.1.below hW) hla hla)
  rw [tsame_self] at HP2
  rw [← hs] at HR1 HP1
  have T0 := Lib.hid (Two.new w a b)
  unfold T4.cells at T0
  have HC := Lib.hid hcase
  have hss : (s != s) = false := by cases s <;> rfl
  clear hcase hPa hPb ha hb hwa hwb hs hla hlb
  obtain ⟨x0, x1, x2, x3⟩ := four T0.out.a
  obtain ⟨y0, y1, y2, y3⟩ := four T0.out.b
  go_enter Try.func3, Try.ntmps3
  go_wp2_with fail
  refine (HFa.out _ T0.out.bel).mono ?_
  rintro e w1 ⟨fa, rfl, -, b1⟩
  have T1 := Lib.hid (T0.out.call b1)
  clear b1 x0 x1 x2 x3 y0 y1 y2 y3 T0
  obtain ⟨x0, x1, x2, x3⟩ := four T1.out.a
  obtain ⟨y0, y1, y2, y3⟩ := four T1.out.b
  cases fa
  · go_wp2_with fail
    refine (awake_any _).mono ?_
    rintro e w2 ⟨rfl, b2⟩
    have T2 := Lib.hid (T1.out.call b2)
    clear b2 x0 x1 x2 x3 y0 y1 y2 y3
    go_wp2
    go_ret
    exact ⟨rfl, T2.out.bel⟩
  · go_wp2_with fail
    refine (HFb.out _ T1.out.bel).mono ?_
    rintro e w2 ⟨fb, rfl, -, b2⟩
    have T2 := Lib.hid (T1.out.call b2)
    clear b2 x0 x1 x2 x3 y0 y1 y2 y3 T1
    obtain ⟨x0, x1, x2, x3⟩ := four T2.out.a
    obtain ⟨y0, y1, y2, y3⟩ := four T2.out.b
    cases fb
    · go_wp2_with fail
      refine (awake_any _).mono ?_
      rintro e w3 ⟨rfl, b3⟩
      have T3 := Lib.hid (T2.out.call b3)
      clear b3 x0 x1 x2 x3 y0 y1 y2 y3
      go_wp2
      go_ret
      exact ⟨rfl, T3.out.bel⟩
    · go_wp2_with fail
      refine (HR1.out _ T2.out.bel).mono ?_
      rintro e w3 ⟨rfl, b3⟩
      have T3 := Lib.hid (T2.out.call b3)
      clear b3 x0 x1 x2 x3 y0 y1 y2 y3 T2
      obtain ⟨x0, x1, x2, x3⟩ := four T3.out.a
      obtain ⟨y0, y1, y2, y3⟩ := four T3.out.b
      go_wp2_with fail
      refine (HP1.out _ T3.out.bel).mono ?_
      rintro e w4 ⟨rfl, b4⟩
      have T4' := Lib.hid (T3.out.call b4)
      clear b4 x0 x1 x2 x3 y0 y1 y2 y3 T3
      obtain ⟨x0, x1, x2, x3⟩ := four T4'.out.a
      obtain ⟨y0, y1, y2, y3⟩ := four T4'.out.b
      go_wp2_with fail
      refine (HP2.out _ T4'.out.bel).mono ?_
      rintro e w5 ⟨rfl, b5⟩
      have T5 := Lib.hid (T4'.out.call b5)
      clear b5 x0 x1 x2 x3 y0 y1 y2 y3 T4'
      obtain ⟨x0, x1, x2, x3⟩ := four T5.out.a
      obtain ⟨y0, y1, y2, y3⟩ := four T5.out.b
      go_wp2_with fail
      refine (HPa.out _ T5.out.bel).mono ?_
      rintro e w6 ⟨rfl, b6⟩
      have T6 := Lib.hid (T5.out.call b6)
      clear b6 x0 x1 x2 x3 y0 y1 y2 y3 T5
      obtain ⟨x0, x1, x2, x3⟩ := four T6.out.a
      obtain ⟨y0, y1, y2, y3⟩ := four T6.out.b
      go_wp2_with fail
      refine (HPb.out _ T6.out.bel).mono ?_
      rintro e w7 ⟨rfl, b7⟩
      have T7 := Lib.hid (T6.out.call b7)
      clear b7 x0 x1 x2 x3 y0 y1 y2 y3 T6
      rcases HC.out with h1 | ⟨h1, h2⟩ | ⟨h1, h2, ⟨h3, h4⟩ | ⟨h3, h4⟩⟩
      · subst h1
        go_wp2_with fail
        refine (awake_any _).mono ?_
        rintro e w8 ⟨rfl, b8⟩
        have T8 := Lib.hid (T7.out.call b8)
        clear b8
        go_wp2
        go_ret
        exact ⟨rfl, T8.out.bel⟩
      · subst h1 h2
        go_wp2_with fail
        refine (awake_any _).mono ?_
        rintro e w8 ⟨rfl, b8⟩
        have T8 := Lib.hid (T7.out.call b8)
        clear b8
        go_wp2
        go_ret
        exact ⟨rfl, T8.out.bel⟩
      · subst h1 h2 h3 h4
        go_wp2_with fail
        refine (awake_any _).mono ?_
        rintro e w8 ⟨rfl, b8⟩
        have T8 := Lib.hid (T7.out.call b8)
        clear b8
        go_wp2
        go_ret
        exact ⟨rfl, T8.out.bel⟩
      · subst h1 h2 h3
        have h5 : (S.toList == T.toList) = false := by simpa using h4
        go_wp2_with fail
        refine (awake_any _).mono ?_
        rintro e w8 ⟨rfl, b8⟩
        have T8 := Lib.hid (T7.out.call b8)
        clear b8
        go_wp2
        go_ret
        exact ⟨rfl, T8.out.bel⟩

theorem walk {H : Type} {enc : TypeId × Value → H} {spare spare' : Nat → Bool} {held held' : Bool} {w : World} {base base' : Nat} {v v' : Value} {d d' : DataW H} {p p' : List MemPlace}
    (ok : Value.okWide Try.prog w .any base 25 v) (h : DataW.Trod enc Try.prog w 0 spare held 25 v d p)
    (ok' : Value.okWide Try.prog w .any base' 25 v') (h' : DataW.Trod enc Try.prog w 0 spare' held' 25 v' d' p') :
    Calls Try.prog 3 #[v, v'] w fun e w' => e = .returned (.bool true) ∧ Below w.heap.size w w' := by
  obtain ⟨a, rfl, ha, hwa⟩ := open_tx_wf ok h
  obtain ⟨b, rfl, hb, hwb⟩ := open_tx_wf ok' h'
  exact law_any a b w ha hb hwa hwb
end Go.Proofs.Yteajilefhkckeaa.txnApart
