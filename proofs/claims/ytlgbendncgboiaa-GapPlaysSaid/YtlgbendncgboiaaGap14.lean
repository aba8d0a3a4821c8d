/- gap: Runs of two; the page's example. -/
import Derived.Test.YtlgbendncgboiaaGap13
namespace Go.Proofs.Ytlgbendncgboiaa.Gp
open Go Go.RowKit

theorem cs4_one (x y : Int × Int) : ∀ u ∈ cs4 x y, u.oneCell' = true := by
  intro u hu
  simp [cs4] at hu
  rcases hu with rfl | rfl | rfl | rfl <;> rfl
theorem cs4_cells {V : World} {g : Nat} {x y : Int × Int} (hr : RowIs V g [x, y]) : ∀ j u, (cs4 x y)[j]? = some u → V.cell? ((⟨g, 0, none⟩ : Addr).add j) = some u := by
  intro j u h
  have a := hr.2 0 x rfl
  have b := hr.2 1 y rfl
  match j, h with
  | 0, h => rw [← h]; exact a.1
  | 1, h => rw [← h]; exact a.2
  | 2, h => rw [← h]; exact b.1
  | 3, h => rw [← h]; exact b.2
set_option maxRecDepth 20000 in
set_option maxHeartbeats 2000000 in
theorem clone_two (g cap : Nat) (x y : Int × Int) (W : World) (hr : RowIs W g [x, y]) : Calls Try.prog 26 #[.slice (some ⟨g, 0, none⟩) 2 cap] W fun e w' => (∃ g2 c2, e = .returned (.slice (some ⟨g2, 0, none⟩) 2 c2) ∧ RowIs w' g2 [x, y] ∧ W.heap.size ≤ g2) ∧ Below W.heap.size W w' := by
  obtain ⟨i0, hi, hz0, hz1, hz2⟩ := info_partsN infoRn
  have he : (binOp .eql 48 (.slice (some ⟨g, 0, none⟩) 2 cap) (.slice none 0 0)).run Try.prog W = .ok (.bool false) W := by kernel_rfl
  have b1 := (Below.refl W.heap.size W).alloc (Nat.le_refl _) (.cells #[] TRn)
  have hE : (W.alloc (.cells #[] TRn)).ownsRow W.heap.size TRn 2 (.slice (some ⟨W.heap.size, 0, none⟩) 0 0) 0 [] := ⟨rfl, Or.inr ⟨W.heap.size, 0, #[], rfl, Nat.le_refl _, heap_alloc_new W _, Nat.le_refl _, by decide, rfl, rfl⟩⟩
  have hc := Lib.hid (cs4_cells (hr.below b1))
  have HE := Lib.hid hE
  have HB := Lib.hid b1
  clear b1 hE hr
  go_enter Try.func26, Try.ntmps26
  go_wp2_with (at_builtin; refine wpList_append_own _ rfl _ _ 48 rfl W.heap.size TRn i0 (.agg #[.int .u64 0, .int .u64 0]) 2 16 Try.underlying48 hi hz0 hz1 hz2 rfl (by decide) _ _ _ rfl HE.out ⟨g, 0, none⟩ 2 cap (cs4 x y) rfl rfl hc.out (cs4_one x y) (by decide) (by decide) (by simp) ?_; intro v1 w2 hown hg _; obtain ⟨g2, c2, rfl, hg2⟩ := own_block (l := [x, y]) hown (by decide); have HR := Lib.hid (And.intro (row_is (l := [x, y]) hown) (And.intro hg2 (HB.out.grown hg (by simp) (fun k hk => by have : W.heap.size = k := (by injection hk); omega)))); clear hown hg hg2)
  go_ret
  exact ⟨⟨g2, c2, rfl, HR.out.1, HR.out.2.1⟩, HR.out.2.2⟩
set_option maxRecDepth 20000 in
set_option maxHeartbeats 2000000 in
theorem runs_two (B H : Nat) (v : Value) (x y : Int × Int) (hxy : x.1 ≤ y.1) (W : World) (h : HpO B W H v [x, y]) : Calls Try.prog 15 #[.pointer (some ⟨H, 0, none⟩)] W fun e w' => (∃ g2 c2, e = .returned (.slice (some ⟨g2, 0, none⟩) 2 c2) ∧ RowIs w' g2 [x, y] ∧ W.heap.size ≤ g2) ∧ Below W.heap.size W w' := by
  obtain ⟨g, cap, rfl, ht⟩ := two_of h
  have c0 := cell_of_row W H 0 _ _ (0, 0) h.box
  have HC := Lib.hid (clone_two g cap x y W ht.is)
  clear h ht
  go_enter Try.func15, Try.ntmps15
  go_wp2_with fail
  refine HC.out.mono ?_
  rintro _ w1 ⟨⟨g2, c2, rfl, hr, hg⟩, b1⟩
  have HS := Lib.hid (sort_two g2 c2 x y hxy w1 hr)
  have HX := Lib.hid (And.intro hr (And.intro hg b1))
  clear hr hg b1
  go_wp2_with fail
  refine HS.out.mono ?_
  rintro _ w2 ⟨rfl, q, rfl⟩
  go_wp2
  go_ret
  exact ⟨⟨g2, c2, rfl, HX.out.1, HX.out.2.1⟩, below_drewN HX.out.2.2 q⟩
set_option maxRecDepth 20000 in
set_option maxHeartbeats 4000000 in
theorem awake_any (W : World) : Calls Try.prog 6 #[] W fun e w' => e = .returned (.bool true) ∧ Below W.heap.size W w' := by
  go_enter Try.func6, Try.ntmps6
  go_wp2_with fail
  refine (new_any _).mono ?_
  rintro _ w1 ⟨H, rfl, hH, hw1⟩
  have b1 : Below W.heap.size W w1 := by rw [hw1]; exact (Below.refl _ _).alloc (Nat.le_refl _) _
  have P1 : HpO W.heap.size w1 H (.slice none 0 0) [] := ⟨by rw [hw1, hH]; exact heap_alloc_new W _, Nat.le_of_eq hH.symm, World.ownsRow_nil _ _ _ _, by decide⟩
  have X1 := Lib.hid (And.intro P1 b1)
  clear hH hw1 b1 P1
  go_wp2_with fail
  refine (put_new W.heap.size H _ [] [(5, 1)] 5 w1 X1.out.1 X1.out.2.size (by decide) (by decide) (by decide) (by decide) (fun V hV hB => hpush0 W.heap.size H _ (5, 1) V hV hB)).mono ?_
  rintro _ w2 ⟨rfl, v2, P2, b2, -⟩
  have X2 := Lib.hid (And.intro P2 (X1.out.2.trans b2))
  clear P2 b2
  go_wp2_with fail
  refine (put_new W.heap.size H _ [(5, 1)] [(3, 1), (5, 1)] 3 w2 X2.out.1 X2.out.2.size (by decide) (by decide) (by decide) (by decide) (fun V hV hB => by have h9 := hpush1 W.heap.size H _ (3, 1) (5, 1) V hV hB; rw [if_pos (by decide)] at h9; exact h9)).mono ?_
  rintro _ w3 ⟨rfl, v3, P3, b3, -⟩
  have X3 := Lib.hid (And.intro P3 (X2.out.2.trans b3))
  clear P3 b3
  go_wp2_with fail
  refine (put_four W.heap.size H _ w3 X3.out.1 X3.out.2.size).mono ?_
  rintro _ w4 ⟨rfl, v4, P4, b4, -⟩
  have X4 := Lib.hid (And.intro P4 (X3.out.2.trans b4))
  clear P4 b4
  go_wp2_with fail
  refine (put_new W.heap.size H _ [(3, 3)] [(3, 3), (9, 1)] 9 w4 X4.out.1 X4.out.2.size (by decide) (by decide) (by decide) (by decide) (fun V hV hB => by have h9 := hpush1 W.heap.size H _ (9, 1) (3, 3) V hV hB; rw [if_neg (by decide)] at h9; exact h9)).mono ?_
  rintro _ w5 ⟨rfl, v5, P5, b5, -⟩
  have X5 := Lib.hid (And.intro P5 (X4.out.2.trans b5))
  clear P5 b5
  go_wp2_with fail
  refine (runs_two W.heap.size H _ (3, 3) (9, 1) (by decide) w5 X5.out.1).mono ?_
  rintro _ w6 ⟨⟨g, cap, rfl, hr, hg⟩, b6⟩
  have X6 := Lib.hid (And.intro (X5.out.1.below b6) (And.intro (X5.out.2.trans (b6.mono X5.out.2.size)) (And.intro hr (show g ≠ H ∧ some g ≠ v5.ownBlock from ⟨by have := X5.out.1.lt; omega, fun e => by have := X5.out.1.ownLt g e.symm; omega⟩))))
  clear hr hg b6
  go_wp2_with fail
  refine (take_part W.heap.size H _ w6 X6.out.1 X6.out.2.1.size).mono ?_
  rintro _ w7 ⟨rfl, v7, P7, b7, f7⟩
  have e7 := f7.block g X6.out.2.2.1.1 X6.out.2.2.2.1 X6.out.2.2.2.2
  have n7 := f7.not X6.out.2.2.1.1 X6.out.2.2.2.2
  have l7 := Nat.lt_of_lt_of_le X6.out.2.2.1.1 f7.size
  have X7 := Lib.hid (And.intro P7 (And.intro (X6.out.2.1.trans b7) (And.intro e7 (And.intro n7 l7))))
  clear P7 b7 f7 e7 n7 l7
  go_wp2_with fail
  refine (take_full W.heap.size H _ w7 X7.out.1 X7.out.2.1.size).mono ?_
  rintro _ w8 ⟨rfl, v8, P8, b8, f8⟩
  have e8 := (f8.block g X7.out.2.2.2.2 X6.out.2.2.2.1 X7.out.2.2.2.1).trans X7.out.2.2.1
  have hx := X6.out.2.2.1.2 0 _ rfl
  have hy := X6.out.2.2.1.2 1 _ rfl
  have c0 : w8.cell? ⟨g, 0, none⟩ = some (.int .u64 3) := (World.cell?_of_block (a := ⟨g, 0, none⟩) e8).trans hx.1
  have c1 : w8.cell? ⟨g, 1, none⟩ = some (.int .u64 3) := (World.cell?_of_block (a := ⟨g, 1, none⟩) e8).trans hx.2
  have c2 : w8.cell? ⟨g, 2, none⟩ = some (.int .u64 9) := (World.cell?_of_block (a := ⟨g, 2, none⟩) e8).trans hy.1
  have c3 : w8.cell? ⟨g, 3, none⟩ = some (.int .u64 1) := (World.cell?_of_block (a := ⟨g, 3, none⟩) e8).trans hy.2
  have HE := Lib.hid (X7.out.2.1.trans b8)
  clear P8 b8 f8 e8 hx hy X7 X6 X5 X4 X3 X2 X1
  go_wp2
  go_ret
  exact ⟨rfl, HE.out⟩
end Go.Proofs.Ytlgbendncgboiaa.Gp
