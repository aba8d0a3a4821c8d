/- gap: Take. -/
import Derived.Test.YtlgbendncgboiaaGap10
namespace Go.Proofs.Ytlgbendncgboiaa.Gp
open Go Go.RowKit

set_option maxRecDepth 20000 in
set_option maxHeartbeats 4000000 in
theorem take_full (B HH : Nat) (v : Value) (W : World) (h : HpO B W HH v [(5, 1), (9, 1)]) (hB : B ≤ W.heap.size) :
    Calls Try.prog 10 #[.pointer (some ⟨HH, 0, none⟩), .int .u64 2] W fun e w' => e = .returned (.tuple #[.int .u64 5, .int .u64 1, .int .i64 0]) ∧ ∃ v', HpO B w' HH v' [(9, 1)] ∧ Below B W w' ∧ Fr HH v v' W w' := by
  obtain ⟨g, cap, rfl, ht⟩ := two_of h
  have c0 := cell_of_row W HH 0 _ _ (0, 0) h.box
  have d0 := ht.c.1
  have d1 := ht.c.2.1
  have hX := heap_alloc_new W (.cells #[.int .u64 5, .int .u64 1] TRn)
  have b1 := (Below.refl W.heap.size W).alloc (Nat.le_refl _) (.cells #[.int .u64 5, .int .u64 1] TRn)
  obtain ⟨w1, hw1⟩ : ∃ X, X = W.alloc (.cells #[.int .u64 5, .int .u64 1] TRn) := ⟨_, rfl⟩
  rw [← hw1] at hX b1
  have h1 := h.below b1
  have x0 := cell_of_row w1 W.heap.size 0 _ _ (0, 0) hX
  have x1 := cell_of_row w1 W.heap.size 1 _ _ (0, 0) hX
  have HX := Lib.hid (And.intro hX (And.intro h1 (And.intro b1 h)))
  have HB := Lib.hid hB
  dsimp only at d0 d1
  clear hX h1 b1 h ht hB
  go_enter Try.func10, Try.ntmps10
  go_upto_region 6 with fail
  rw [← hw1]
  clear hw1
  go_wp2_with fail
  refine (hpop2 B HH _ (5, 1) (9, 1) w1 HX.out.2.1 (Nat.le_trans HB.out HX.out.2.2.1.size)).mono ?_
  rintro _ w2 ⟨rfl, v2, h2, b2, f2⟩
  have hX2 := f2.lies HX.out.1 (by have := HX.out.2.2.2.lt; omega) (fun e => by have := HX.out.2.2.2.ownLt _ e.symm; omega)
  have y0 := cell_of_row w2 W.heap.size 0 _ _ (0, 0) hX2
  have HE := Lib.hid (And.intro h2 (And.intro ((HX.out.2.2.1.mono HB.out).trans b2) ((Fr.of_below HX.out.2.2.1).trans f2)))
  clear h2 b2 f2 hX2 HX x0 x1 c0 d0 d1
  go_wp2
  exact bodyPost_ret (results_tmp3 rfl _ _ _) rfl ⟨rfl, _, HE.out⟩
end Go.Proofs.Ytlgbendncgboiaa.Gp
