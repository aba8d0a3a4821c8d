/- A shard that is none takes nothing; the page's example. -/
import Derived.Test.YtmdjhcpafjgigaaShardNil
import Derived.Test.YtmdjhcpafjgigaaActOpen
namespace Go.Proofs.Ytmdjhcpafjgigaa.Mk
open Go Go.RowKit Go.MuLone

set_option maxRecDepth 20000 in
theorem len_nil (W : World) : Calls Try.prog 12 #[.pointer none] W fun e w' => e = .returned (.int .i64 0) ∧ w' = W := by
  go_enter_defers Try.func12, Try.ntmps12
  go_wp2
  simp [bodyPostD, Leaves, results, Try.results12, go_sem]
set_option maxRecDepth 20000 in
theorem does_nil (kd who : Int) (k : K3) (h0 : 0 ≤ kd) (W : World) : Calls Try.prog 7 #[.pointer none, actV kd who k] W fun e w' => e = .returned (.int .i64 1) ∧ Below W.heap.size W w' := by
  obtain ⟨kc, kf, ks⟩ := k
  unfold actV
  have b0 := (Below.refl W.heap.size W).alloc (Nat.le_refl _) (.cells #[.int .u8 kd, .int .i64 who, .int .i64 kc, .int .i64 kf, .int .u64 ks] 37)
  have hm : kd.tmod 5 = 0 ∨ kd.tmod 5 = 1 ∨ kd.tmod 5 = 2 ∨ kd.tmod 5 = 3 ∨ kd.tmod 5 = 4 := by
    rw [Int.tmod_eq_emod_of_nonneg h0]; omega
  have hw : (IntKind.u8).wrap (kd.tmod 5) = kd.tmod 5 := by rcases hm with h | h | h | h | h <;> rw [h] <;> rfl
  have h50 : ¬ (5 : Int) = 0 := by decide
  generalize hmm : kd.tmod 5 = m at hm hw
  rcases hm with h | h | h | h | h <;> subst h
  · go_enter Try.func7, Try.ntmps7
    go_wp2_with fail
    refine (expire_nil ⟨kc, kf, ks⟩ _).mono ?_
    rintro _ w' ⟨rfl, hB⟩
    go_wp2
    go_ret
    exact ⟨rfl, b0.trans (hB.mono (by simp; try omega))⟩
  · go_enter Try.func7, Try.ntmps7
    go_wp2_with fail
    refine (ins_nil ⟨kc, kf, ks⟩ _).mono ?_
    rintro _ w' ⟨rfl, hB⟩
    go_wp2
    go_ret
    exact ⟨rfl, b0.trans (hB.mono (by simp; try omega))⟩
  · go_enter Try.func7, Try.ntmps7
    go_wp2_with fail
    refine (claim_nil ⟨kc, kf, ks⟩ who _).mono ?_
    rintro _ w' ⟨rfl, hB⟩
    go_wp2
    go_ret
    exact ⟨rfl, b0.trans (hB.mono (by simp; try omega))⟩
  · go_enter Try.func7, Try.ntmps7
    go_wp2_with fail
    refine (release_nil ⟨kc, kf, ks⟩ who _).mono ?_
    rintro _ w' ⟨rfl, hB⟩
    go_wp2
    go_ret
    exact ⟨rfl, b0.trans (hB.mono (by simp; try omega))⟩
  · go_enter Try.func7, Try.ntmps7
    go_wp2_with fail
    refine (complete_nil ⟨kc, kf, ks⟩ who _).mono ?_
    rintro _ w' ⟨rfl, hB⟩
    go_wp2
    go_ret
    exact ⟨rfl, b0.trans (hB.mono (by simp; try omega))⟩

set_option maxRecDepth 20000 in
theorem awake_any (W : World) : Calls Try.prog 5 #[] W fun e w' => e = .returned (.bool true) ∧ Below W.heap.size W w' := by
  go_enter Try.func5, Try.ntmps5
  go_wp2_with fail
  refine (snew_ok 1 _ (by decide) (by decide)).mono ?_
  rintro _ w1 ⟨⟨S, B, rfl, h1, hS, hB⟩, b1⟩
  have b2 := b1.alloc b1.size (.cells #[.int .i64 0, .int .i64 0, .int .u64 1] 35)
  have h2 := h1.new (.cells #[.int .i64 0, .int .i64 0, .int .u64 1] 35)
  have k2 := heap_alloc_new w1 (.cells #[.int .i64 0, .int .i64 0, .int .u64 1] 35)
  have hne : w1.heap.size ≠ S ∧ w1.heap.size ≠ B := by have := h1.ltS; have := h1.ltB; omega
  obtain ⟨w2, hw2⟩ : ∃ X, X = w1.alloc (.cells #[.int .i64 0, .int .i64 0, .int .u64 1] 35) := ⟨_, rfl⟩
  rw [← hw2] at b2 h2 k2
  obtain ⟨n, hn⟩ : ∃ n, n = w1.heap.size := ⟨_, rfl⟩
  rw [← hn] at k2 hne
  have p0 := cell_of_row w2 n 0 _ _ (0, 0) k2
  have p1 := cell_of_row w2 n 1 _ _ (0, 0) k2
  have p2 := cell_of_row w2 n 2 _ _ (0, 0) k2
  have HX := Lib.hid (And.intro h2 (And.intro b2 (And.intro hS (And.intro hB (And.intro k2 hne)))))
  clear h1 b1 b2 h2 k2 hne hS hB
  go_upto_region 3 with fail
  rw [← hw2, ← hn]
  clear hw2 hn
  go_wp2_with fail
  refine (sins_any S B 1 [] 0 ⟨0, 0, 1⟩ w2 HX.out.1).mono ?_
  rintro _ w3 ⟨rfl, h3, hO3⟩
  have k3 := box_off HX.out.2.2.2.2.1 hO3 HX.out.2.2.2.2.2.1 HX.out.2.2.2.2.2.2
  have q0 := cell_of_row w3 n 0 _ _ (0, 0) k3
  have q1 := cell_of_row w3 n 1 _ _ (0, 0) k3
  have q2 := cell_of_row w3 n 2 _ _ (0, 0) k3
  have hr3 : insR 1 [] ⟨0, 0, 1⟩ = 0 := by rfl
  rw [hr3]
  have H3 := Lib.hid (And.intro h3 (And.intro hO3 k3))
  clear h3 hO3 k3 hr3 p0 p1 p2
  go_wp2_with fail
  refine (claim_any S B 1 7 _ _ ⟨0, 0, 1⟩ w3 H3.out.1 (by decide)).mono ?_
  rintro _ w4 ⟨rfl, h4, hO4⟩
  have k4 := box_off H3.out.2.2 hO4 HX.out.2.2.2.2.2.1 HX.out.2.2.2.2.2.2
  have r0 := cell_of_row w4 n 0 _ _ (0, 0) k4
  have r1 := cell_of_row w4 n 1 _ _ (0, 0) k4
  have r2 := cell_of_row w4 n 2 _ _ (0, 0) k4
  have hr4 : chgR 1 7 ⟨0, 0, 1⟩ (insL 1 [] 0 ⟨0, 0, 1⟩).1 = 0 := by rfl
  rw [hr4]
  have H4 := Lib.hid (And.intro h4 (And.intro (H3.out.2.1.trans hO4) k4))
  clear h4 hO4 k4 hr4 q0 q1 q2 H3
  go_wp2_with fail
  refine (release_any S B 1 8 _ _ ⟨0, 0, 1⟩ w4 H4.out.1).mono ?_
  rintro _ w5 ⟨rfl, h5, hO5⟩
  have hr5 : chgR 2 8 ⟨0, 0, 1⟩ (chgL 1 7 ⟨0, 0, 1⟩ (insL 1 [] 0 ⟨0, 0, 1⟩).1 (insL 1 [] 0 ⟨0, 0, 1⟩).2 (putM ⟨0, 0, 1⟩ ⟨⟨0, 0, 1⟩, 2, 7⟩ (insL 1 [] 0 ⟨0, 0, 1⟩).1 (insL 1 [] 0 ⟨0, 0, 1⟩).2)).1 = 9 := by rfl
  rw [hr5]
  have hb := Only2.below HX.out.2.1 (H4.out.2.1.trans hO5) HX.out.2.2.1 HX.out.2.2.2.1 HX.out.2.1.size
  clear h5 hO5 hr5 r0 r1 r2 H4 HX
  go_wp2
  go_ret
  exact ⟨rfl, hb⟩
end Go.Proofs.Ytmdjhcpafjgigaa.Mk
