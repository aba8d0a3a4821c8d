/- The law StepLines, of any line. -/
import Derived.Test.YtnjcenbmdcogpaaDoorPgParse
import Derived.Test.YtnjcenbmdcogpaaDoorStpParse
namespace Go.Proofs.YtnjcenbmdcogpaaDoor.Sp
open Go Go.Lib Go.RowKit

theorem aw6 : lineB ⟨6, 1, 2, 0, 0, 0, 0, ⟨#[]⟩⟩ = ⟨#[102, 111, 114, 101, 105, 103, 110, 32, 49, 32, 50]⟩ := by
  show (⟨(jn [wd 6, decDigits 1, decDigits 2]).toArray⟩ : ByteArray) = _
  rw [dec_one (u := 1) (by decide), dec_one (u := 2) (by decide)]; rfl
theorem aw3 : lineB ⟨3, 0, 0, 0, 1, 0, ((9 : Nat) : Int), ⟨#[65]⟩⟩ = ⟨#[115, 101, 110, 100, 32, 48, 32, 49, 32, 57, 32, 52, 49]⟩ := by
  show (⟨(jn [wd 3, decDigits 0, decDigits 1, decDigits 9, hexS [65]]).toArray⟩ : ByteArray) = _
  rw [dec_one (u := 0) (by decide), dec_one (u := 1) (by decide), dec_one (u := 9) (by decide)]; rfl
set_option maxRecDepth 100000 in
theorem awake_any (w : World) (ht : Dec.Tab w) : Calls Tryd.prog 4 #[] w fun e w' => e = .returned (.bool true) ∧ Below w.heap.size w w' := by
  have h6 := line_6 1 2 (by decide) (by decide) (by decide) (by decide) w ht
  have H3 := Lib.hid (fun (W : World) (h : Dec.Tab W) => line_3 0 1 9 ⟨#[65]⟩ (by decide) (by decide) (by decide) (by decide) (by decide) (by decide) W h)
  rw [aw6] at h6
  rw [aw3] at H3
  go_enter Tryd.func4, Tryd.ntmps4
  go_wp2_with fail
  refine h6.mono ?_
  rintro _ w1 ⟨rfl, hb1⟩
  have HB1 := Lib.hid hb1
  have HT1 := Lib.hid (tabB ht hb1)
  clear hb1 ht h6
  go_wp2_with fail
  refine (H3.out w1 HT1.out).mono ?_
  rintro _ w2 ⟨rfl, hb2⟩
  have HB2 := Lib.hid (HB1.out.trans (hb2.mono HB1.out.size))
  clear hb2
  go_wp2
  go_ret
  exact ⟨rfl, HB2.out⟩
theorem eq_self (x : St) (w : World) : (binOp .eql 27 (.agg x.cells) (.agg x.cells)).run Tryd.prog w = .ok (.bool true) w := by
  unfold St.cells
  go_simp
set_option maxRecDepth 100000 in
set_option maxHeartbeats 1000000 in
theorem law_any (s : ByteArray) (hs : s.size ≤ maxLen) (w : World) (ht : Dec.Tab w) (hE : ErrsLie w) : Calls Tryd.prog 3 #[.string s] w fun e w' => e = .returned (.bool true) ∧ Below w.heap.size w w' := by
  unfold maxLen at hs
  by_cases h300 : s.size ≤ 300
  · have h1 : ¬ (300 : Int) < (s.size : Int) := by omega
    have hps := parse_strict s.data.toList
    have HP := Lib.hid (parse_any s (by omega) w ht hE)
    have HR := Lib.hid (fun W => rparse_any s (by omega) W)
    have HT := Lib.hid ht
    clear h300 hs hE ht
    go_enter Tryd.func3, Tryd.ntmps3
    go_wp2_with fail
    refine HP.out.mono ?_
    rintro _ w1 ⟨rfl, hb1⟩
    have HB1 := Lib.hid hb1
    clear hb1 HP
    unfold pE
    cases hst : strict (sp s.data.toList) with
    | none =>
      rw [hps, hst]
      have HS := Lib.hid hst
      clear hst hps
      dsimp only [St0, St.cells]
      go_wp2_with fail
      refine (HR.out _).mono ?_
      rintro _ w2 ⟨hp, hb2⟩
      rcases hp with ⟨x, hx, _⟩ | ⟨_, x, rfl⟩
      · rw [HS.out] at hx; cases hx
      obtain ⟨k, sd, n, c, f, sq, t, d⟩ := x
      unfold St.cells
      dsimp only
      have hX : w2.heap[w1.heap.size]? = some (.cells #[.int .i64 0, .int .i64 0, .int .i64 0, .int .i64 0, .int .i64 0, .int .u64 0, .int .u64 0, .string ⟨#[]⟩] 27 (0, 0)) := (hb2.block _ (by simp)).trans (heap_alloc_new _ _)
      have HB2 := Lib.hid (HB1.out.trans (((Below.refl w1.heap.size w1).alloc (Nat.le_refl _) (.cells #[.int .i64 0, .int .i64 0, .int .i64 0, .int .i64 0, .int .i64 0, .int .u64 0, .int .u64 0, .string ⟨#[]⟩] 27)).trans (hb2.mono (by simp)) |>.mono HB1.out.size))
      have HX := Lib.hid hX
      clear hb2 hX
      go_upto_region 5 with fail
      have hX0 := (Below.heap_alloc w2 (.cells #[.int .i64 k, .int .i64 sd, .int .i64 n, .int .i64 c, .int .i64 f, .int .u64 sq, .int .u64 t, .string d] 27) _ (Array.getElem?_eq_some_iff.1 HX.out).1).trans HX.out
      have hB0 := HB2.out.alloc HB2.out.size (.cells #[.int .i64 k, .int .i64 sd, .int .i64 n, .int .i64 c, .int .i64 f, .int .u64 sq, .int .u64 t, .string d] 27)
      obtain ⟨W3, hW3⟩ : ∃ W3, W3 = w2.alloc (.cells #[.int .i64 k, .int .i64 sd, .int .i64 n, .int .i64 c, .int .i64 f, .int .u64 sq, .int .u64 t, .string d] 27) := ⟨_, rfl⟩
      obtain ⟨X, hXs⟩ : ∃ X, w1.heap.size = X := ⟨_, rfl⟩
      rw [← hW3] at hX0 hB0 ⊢
      rw [hXs] at hX0 ⊢
      have HX3 := Lib.hid hX0
      have HB3 := Lib.hid hB0
      have HT3 := Lib.hid (tabB HT.out hB0)
      clear hW3 hXs hX0 hB0 HX HB2
      go_wp2_with fail
      refine (awake_any W3 HT3.out).mono ?_
      rintro _ w5 ⟨rfl, hb5⟩
      have HB5 := Lib.hid (HB3.out.trans (hb5.mono HB3.out.size))
      have hX5 := (hb5.block _ (Array.getElem?_eq_some_iff.1 HX3.out).1).trans HX3.out
      have cX : ∀ i, w5.cell? ⟨X, i, none⟩ = _ := fun i => cell_of_row _ _ i _ _ (0, 0) hX5
      have c0 := cX 0; have c1 := cX 1; have c2 := cX 2; have c3 := cX 3; have c4 := cX 4; have c5 := cX 5; have c6 := cX 6; have c7 := cX 7
      clear cX hX5 hb5
      go_wp2
      go_ret
      exact ⟨rfl, HB5.out⟩
    | some x =>
      rw [hps, hst]
      obtain ⟨hr, t0, t1, hw⟩ := strict_ok hst
      have hl : lineB x = s := by
        unfold lineB lineL
        rw [hw, jn_sp]
      have HL := Lib.hid (fun (W : World) (h : Dec.Tab W) => line_ok x hr t0 t1 W h)
      rw [hl] at HL
      have HS := Lib.hid hst
      have HEq := Lib.hid (fun W => eq_self x W)
      clear hst hps hr t0 t1 hw hl
      obtain ⟨k, sd, n, c, f, sq, t, d⟩ := x
      unfold St.cells at HL HEq ⊢
      dsimp only at HL HEq ⊢
      go_wp2_with fail
      refine (HR.out _).mono ?_
      rintro _ w2 ⟨hp, hb2⟩
      rcases hp with ⟨y, hy, rfl⟩ | ⟨hy, _⟩
      case inr => rw [HS.out] at hy; cases hy
      rw [HS.out] at hy
      obtain rfl := (Option.some.inj hy).symm
      unfold St.cells
      dsimp only
      have hX : w2.heap[w1.heap.size]? = some (.cells #[.int .i64 k, .int .i64 sd, .int .i64 n, .int .i64 c, .int .i64 f, .int .u64 sq, .int .u64 t, .string d] 27 (0, 0)) := (hb2.block _ (by simp)).trans (heap_alloc_new _ _)
      have HB2 := Lib.hid (HB1.out.trans (((Below.refl w1.heap.size w1).alloc (Nat.le_refl _) (.cells #[.int .i64 k, .int .i64 sd, .int .i64 n, .int .i64 c, .int .i64 f, .int .u64 sq, .int .u64 t, .string d] 27)).trans (hb2.mono (by simp)) |>.mono HB1.out.size))
      have HX := Lib.hid hX
      clear hb2 hX hy
      go_upto_region 5 with fail
      have hY0 := heap_alloc_new w2 (.cells #[.int .i64 k, .int .i64 sd, .int .i64 n, .int .i64 c, .int .i64 f, .int .u64 sq, .int .u64 t, .string d] 27)
      have hX0 := (Below.heap_alloc w2 (.cells #[.int .i64 k, .int .i64 sd, .int .i64 n, .int .i64 c, .int .i64 f, .int .u64 sq, .int .u64 t, .string d] 27) _ (Array.getElem?_eq_some_iff.1 HX.out).1).trans HX.out
      have hB0 := HB2.out.alloc HB2.out.size (.cells #[.int .i64 k, .int .i64 sd, .int .i64 n, .int .i64 c, .int .i64 f, .int .u64 sq, .int .u64 t, .string d] 27)
      obtain ⟨W3, hW3⟩ : ∃ W3, W3 = w2.alloc (.cells #[.int .i64 k, .int .i64 sd, .int .i64 n, .int .i64 c, .int .i64 f, .int .u64 sq, .int .u64 t, .string d] 27) := ⟨_, rfl⟩
      obtain ⟨Y, hYs⟩ : ∃ Y, w2.heap.size = Y := ⟨_, rfl⟩
      obtain ⟨X, hXs⟩ : ∃ X, w1.heap.size = X := ⟨_, rfl⟩
      rw [← hW3] at hX0 hY0 hB0 ⊢
      rw [hYs] at hY0 ⊢
      rw [hXs] at hX0 ⊢
      have HX3 := Lib.hid (And.intro hX0 hY0)
      have HB3 := Lib.hid hB0
      have HT3 := Lib.hid (tabB HT.out hB0)
      have cX : ∀ i, W3.cell? ⟨X, i, none⟩ = _ := fun i => cell_of_row _ _ i _ _ (0, 0) hX0
      have c0 := cX 0; have c1 := cX 1; have c2 := cX 2; have c3 := cX 3; have c4 := cX 4; have c5 := cX 5; have c6 := cX 6; have c7 := cX 7
      clear cX hW3 hYs hXs hX0 hY0 hB0 HX HB2
      go_wp2_with fail
      refine (HL.out W3 HT3.out).mono ?_
      rintro _ w4 ⟨rfl, hb4⟩
      have HB4 := Lib.hid (HB3.out.trans (hb4.mono HB3.out.size))
      have HX4 := Lib.hid (And.intro ((hb4.block _ (Array.getElem?_eq_some_iff.1 HX3.out.1).1).trans HX3.out.1) ((hb4.block _ (Array.getElem?_eq_some_iff.1 HX3.out.2).1).trans HX3.out.2))
      have HT4 := Lib.hid (tabB HT.out HB4.out)
      clear hb4 c0 c1 c2 c3 c4 c5 c6 c7 HX3 HB3 HT3
      go_wp2_with fail
      refine (awake_any w4 HT4.out).mono ?_
      rintro _ w5 ⟨rfl, hb5⟩
      have HB5 := Lib.hid (HB4.out.trans (hb5.mono HB4.out.size))
      have hX5 := (hb5.block _ (Array.getElem?_eq_some_iff.1 HX4.out.1).1).trans HX4.out.1
      have hY5 := (hb5.block _ (Array.getElem?_eq_some_iff.1 HX4.out.2).1).trans HX4.out.2
      have cX : ∀ i, w5.cell? ⟨X, i, none⟩ = _ := fun i => cell_of_row _ _ i _ _ (0, 0) hX5
      have cY : ∀ i, w5.cell? ⟨Y, i, none⟩ = _ := fun i => cell_of_row _ _ i _ _ (0, 0) hY5
      have c0 := cX 0; have c1 := cX 1; have c2 := cX 2; have c3 := cX 3; have c4 := cX 4; have c5 := cX 5; have c6 := cX 6; have c7 := cX 7
      have e0 := cY 0; have e1 := cY 1; have e2 := cY 2; have e3 := cY 3; have e4 := cY 4; have e5 := cY 5; have e6 := cY 6; have e7 := cY 7
      have heq := HEq.out
      clear cX cY hX5 hY5 hb5
      go_wp2
      go_ret
      exact ⟨rfl, HB5.out⟩
  · have h1 : (300 : Int) < (s.size : Int) := by omega
    have HA := Lib.hid (awake_any w ht)
    clear h300 ht hE
    go_enter Tryd.func3, Tryd.ntmps3
    go_wp2_with fail
    refine HA.out.mono ?_
    rintro _ w1 ⟨rfl, hb1⟩
    have HB1 := Lib.hid hb1
    clear hb1
    go_wp2
    go_ret
    exact ⟨rfl, HB1.out⟩
theorem walk (s : ByteArray) (hs : s.size ≤ maxLen) (w : World) (hg : Dec.Tab w ∧ ErrsLie w) : Calls Tryd.prog 3 #[.string s] w fun e w' => e = .returned (.bool true) ∧ Below w.heap.size w w' := law_any s hs w hg.1 hg.2
end Go.Proofs.YtnjcenbmdcogpaaDoor.Sp
