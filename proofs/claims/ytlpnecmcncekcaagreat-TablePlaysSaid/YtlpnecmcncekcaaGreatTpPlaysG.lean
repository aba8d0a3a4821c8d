import Derived.Test.YtlpnecmcncekcaaGreatTpNew
import Derived.Test.YtlpnecmcncekcaaGreatTableAwake
import Derived.Test.YtlpnecmcncekcaaGreatCw
import Derived.Test.YtlpnecmcncekcaaGreatCw
import Derived.Deep.CutBlock
import Derived.Deep.DeepCutAuto
/- TablePlays: its guards. -/
namespace Go.Proofs.YtlpnecmcncekcaaGreat.Mk
open Go Go.RowKit Go.MuLone Conf
set_option linter.unusedVariables false

set_option maxRecDepth 20000 in
theorem tnew_bad (c : Cfg) (hc : code c 11 0 = 1) (w : World) :
    Calls Tryz.prog 9 #[.agg c.cells] w fun e w' => e = .returned (.tuple #[.pointer none, .int .i64 1]) ∧ Below w.heap.size w w' := by
  have HCk := Lib.hid (fun V => hc ▸ check_any c V)
  have h0' := heap_alloc_new w (.cells c.cells TCf)
  obtain ⟨w0, hw0⟩ : ∃ X, X = w.alloc (.cells c.cells TCf) := ⟨_, rfl⟩
  have hb0 : Below w.heap.size w w0 := by rw [hw0]; exact (Below.refl _ _).alloc (Nat.le_refl _) _
  rw [← hw0] at h0'
  have HB0 := Lib.hid hb0
  obtain ⟨cA, cn, cc, f1, f2, f3, f4, f5, f6, f7, f8, f9, f10, f11⟩ := c
  unfold Cfg.cells at *
  dsimp only at *
  have q := fun i => cell_of_row w0 w.heap.size i _ _ (0, 0) h0'
  have q0 := q 0; have q1 := q 1; have q2 := q 2; have q3 := q 3; have q4 := q 4; have q5 := q 5; have q6 := q 6; have q7 := q 7; have q8 := q 8; have q9 := q 9; have q10 := q 10; have q11 := q 11
  clear q h0' hb0 hc
  go_enter Tryz.func9, Tryz.ntmps9
  go_upto_region 1 with fail
  rw [← hw0]
  clear hw0
  go_wp2_with fail
  refine (HCk.out _).mono ?_
  rintro _ w1 ⟨rfl, b1⟩
  have HB1 := Lib.hid (HB0.out.trans (b1.mono HB0.out.size))
  clear b1 HCk q0 q1 q2 q3 q4 q5 q6 q7 q8 q9 q10 q11
  go_wp2
  refine bodyPost_ret (v := .tuple #[.pointer none, .int .i64 1]) (by simp [results, Tryz.results9, go_sem]) rfl ?_
  exact ⟨rfl, HB1.out⟩
set_option maxRecDepth 20000 in
set_option maxHeartbeats 2000000 in
theorem plays_few (c : Cfg) (h : 20 < c.n) (A : Option Addr) (len cap : Nat) (W : World) :
    Calls Tryz.prog 5 #[.agg c.cells, .slice A len cap] W fun e w' => e = .returned (.bool true) ∧ Below W.heap.size W w' := by
  have HF := Lib.hid (fun V => few_no c h V)
  clear h
  obtain ⟨cA, cn, cc, f1, f2, f3, f4, f5, f6, f7, f8, f9, f10, f11⟩ := c
  unfold Cfg.cells at *
  dsimp only at *
  obtain ⟨W0, hW0⟩ : ∃ X, X = W.alloc (.cells #[.slice cA cn cc, .int .i64 f1, .int .i64 f2, .int .i64 f3, .int .i64 f4, .int .i64 f5, .int .i64 f6, .int .i64 f7, .int .i64 f8, .int .i64 f9, .int .i64 f10, .int .u64 f11] TCf) := ⟨_, rfl⟩
  have hc0 : W0.heap[W.heap.size]? = some (.cells #[.slice cA cn cc, .int .i64 f1, .int .i64 f2, .int .i64 f3, .int .i64 f4, .int .i64 f5, .int .i64 f6, .int .i64 f7, .int .i64 f8, .int .i64 f9, .int .i64 f10, .int .u64 f11] TCf (0, 0)) := by rw [hW0]; exact heap_alloc_new _ _
  have b0 : Below W.heap.size W W0 := by rw [hW0]; exact (Below.refl _ _).alloc (Nat.le_refl _) _
  have H0 := Lib.hid (And.intro hc0 b0)
  have q := fun i => cell_of_row W0 W.heap.size i _ _ (0, 0) hc0
  have q0 := q 0; have q1 := q 1; have q2 := q 2; have q3 := q 3; have q4 := q 4; have q5 := q 5; have q6 := q 6; have q7 := q 7; have q8 := q 8; have q9 := q 9; have q10 := q 10; have q11 := q 11
  clear q
  clear hc0 b0
  go_enter Tryz.func5, Tryz.ntmps5
  go_upto_region 1 with fail
  rw [← hW0]
  clear hW0
  go_wp2_with fail
  refine (HF.out _).mono ?_
  rintro _ w1 ⟨rfl, b1⟩
  have hc1 := kpT b1 H0.out.1
  have H1 := Lib.hid (And.intro hc1 (H0.out.2.trans (b1.mono H0.out.2.size)))
  clear q0 q1 q2 q3 q4 q5 q6 q7 q8 q9 q10 q11 b1 H0 HF
  have q := fun i => cell_of_row w1 W.heap.size i _ _ (0, 0) hc1
  have q0 := q 0; have q1 := q 1; have q2 := q 2; have q3 := q 3; have q4 := q 4; have q5 := q 5; have q6 := q 6; have q7 := q 7; have q8 := q 8; have q9 := q 9; have q10 := q 10; have q11 := q 11
  clear q
  clear hc1
  go_wp2_with fail
  refine (awake_any _).mono ?_
  rintro _ w9 ⟨rfl, b9⟩
  have hbe := H1.out.2.trans (b9.mono H1.out.2.size)
  clear b9
  go_wp2
  go_ret
  exact ⟨rfl, hbe⟩
set_option maxRecDepth 20000 in
set_option maxHeartbeats 2000000 in
theorem plays_long (c : Cfg) (h : c.n ≤ 20) (A : Option Addr) (len cap : Nat) (hl : 100 < len) (W : World) :
    Calls Tryz.prog 5 #[.agg c.cells, .slice A len cap] W fun e w' => e = .returned (.bool true) ∧ Below W.heap.size W w' := by
  have hp : (100 : Int) < (len : Int) := by omega
  have hp2 : decide ((100 : Int) < (len : Int)) = true := by simp; omega
  have HF := Lib.hid (fun V => few_yes c h V)
  clear h
  obtain ⟨cA, cn, cc, f1, f2, f3, f4, f5, f6, f7, f8, f9, f10, f11⟩ := c
  unfold Cfg.cells at *
  dsimp only at *
  obtain ⟨W0, hW0⟩ : ∃ X, X = W.alloc (.cells #[.slice cA cn cc, .int .i64 f1, .int .i64 f2, .int .i64 f3, .int .i64 f4, .int .i64 f5, .int .i64 f6, .int .i64 f7, .int .i64 f8, .int .i64 f9, .int .i64 f10, .int .u64 f11] TCf) := ⟨_, rfl⟩
  have hc0 : W0.heap[W.heap.size]? = some (.cells #[.slice cA cn cc, .int .i64 f1, .int .i64 f2, .int .i64 f3, .int .i64 f4, .int .i64 f5, .int .i64 f6, .int .i64 f7, .int .i64 f8, .int .i64 f9, .int .i64 f10, .int .u64 f11] TCf (0, 0)) := by rw [hW0]; exact heap_alloc_new _ _
  have b0 : Below W.heap.size W W0 := by rw [hW0]; exact (Below.refl _ _).alloc (Nat.le_refl _) _
  have H0 := Lib.hid (And.intro hc0 b0)
  have q := fun i => cell_of_row W0 W.heap.size i _ _ (0, 0) hc0
  have q0 := q 0; have q1 := q 1; have q2 := q 2; have q3 := q 3; have q4 := q 4; have q5 := q 5; have q6 := q 6; have q7 := q 7; have q8 := q 8; have q9 := q 9; have q10 := q 10; have q11 := q 11
  clear q
  clear hc0 b0
  go_enter Tryz.func5, Tryz.ntmps5
  go_upto_region 1 with fail
  rw [← hW0]
  clear hW0
  go_wp2_with fail
  refine (HF.out _).mono ?_
  rintro _ w1 ⟨rfl, b1⟩
  have hc1 := kpT b1 H0.out.1
  have H1 := Lib.hid (And.intro hc1 (H0.out.2.trans (b1.mono H0.out.2.size)))
  clear q0 q1 q2 q3 q4 q5 q6 q7 q8 q9 q10 q11 b1 H0 HF
  have q := fun i => cell_of_row w1 W.heap.size i _ _ (0, 0) hc1
  have q0 := q 0; have q1 := q 1; have q2 := q 2; have q3 := q 3; have q4 := q 4; have q5 := q 5; have q6 := q 6; have q7 := q 7; have q8 := q 8; have q9 := q 9; have q10 := q 10; have q11 := q 11
  clear q
  clear hc1
  go_wp2_with fail
  refine (awake_any _).mono ?_
  rintro _ w9 ⟨rfl, b9⟩
  have hbe := H1.out.2.trans (b9.mono H1.out.2.size)
  clear b9
  go_wp2
  go_ret
  exact ⟨rfl, hbe⟩
set_option maxRecDepth 20000 in
set_option maxHeartbeats 2000000 in
theorem plays_wrong (c : Cfg) (h : c.n ≤ 20) (hcode : code c 11 0 = 1) (hwr : ∃ k, k < 11 ∧ wrong c 11 0 = word k) (A : Option Addr) (len cap : Nat) (hl : len ≤ 100) (W : World) :
    Calls Tryz.prog 5 #[.agg c.cells, .slice A len cap] W fun e w' => e = .returned (.bool true) ∧ Below W.heap.size W w' := by
  have hp : ¬ (100 : Int) < (len : Int) := by omega
  have hp2 : decide ((100 : Int) < (len : Int)) = false := by simp; omega
  obtain ⟨k, hk, hwk⟩ := hwr
  obtain ⟨z, hz⟩ : ∃ z, z = word k := ⟨_, rfl⟩
  have z1 : (z == (⟨#[]⟩ : ByteArray)) = false := by rw [hz]; exact (word_ne k hk).1
  have z2 : ¬ z.toList = [] := by rw [hz]; exact (word_ne k hk).2
  have z3 : z.toList.isEmpty = false := by simpa using z2
  have HWr : Hid (∀ V, Calls Tryz.prog 7 #[.agg c.cells] V fun e w' => e = .returned (.string z) ∧ Below V.heap.size V w') := Lib.hid (fun V => by rw [hz, ← hwk]; exact ref_wrong c V)
  have HT := Lib.hid (fun V => tnew_bad c hcode V)
  have HF := Lib.hid (fun V => few_yes c h V)
  clear hz hwk hk h hcode
  obtain ⟨cA, cn, cc, f1, f2, f3, f4, f5, f6, f7, f8, f9, f10, f11⟩ := c
  unfold Cfg.cells at *
  dsimp only at *
  obtain ⟨W0, hW0⟩ : ∃ X, X = W.alloc (.cells #[.slice cA cn cc, .int .i64 f1, .int .i64 f2, .int .i64 f3, .int .i64 f4, .int .i64 f5, .int .i64 f6, .int .i64 f7, .int .i64 f8, .int .i64 f9, .int .i64 f10, .int .u64 f11] TCf) := ⟨_, rfl⟩
  have hc0 : W0.heap[W.heap.size]? = some (.cells #[.slice cA cn cc, .int .i64 f1, .int .i64 f2, .int .i64 f3, .int .i64 f4, .int .i64 f5, .int .i64 f6, .int .i64 f7, .int .i64 f8, .int .i64 f9, .int .i64 f10, .int .u64 f11] TCf (0, 0)) := by rw [hW0]; exact heap_alloc_new _ _
  have b0 : Below W.heap.size W W0 := by rw [hW0]; exact (Below.refl _ _).alloc (Nat.le_refl _) _
  have H0 := Lib.hid (And.intro hc0 b0)
  have q := fun i => cell_of_row W0 W.heap.size i _ _ (0, 0) hc0
  have q0 := q 0; have q1 := q 1; have q2 := q 2; have q3 := q 3; have q4 := q 4; have q5 := q 5; have q6 := q 6; have q7 := q 7; have q8 := q 8; have q9 := q 9; have q10 := q 10; have q11 := q 11
  clear q
  clear hc0 b0
  go_enter Tryz.func5, Tryz.ntmps5
  go_upto_region 1 with fail
  rw [← hW0]
  clear hW0
  go_wp2_with fail
  refine (HF.out _).mono ?_
  rintro _ w1 ⟨rfl, b1⟩
  have hc1 := kpT b1 H0.out.1
  have H1 := Lib.hid (And.intro hc1 (H0.out.2.trans (b1.mono H0.out.2.size)))
  clear q0 q1 q2 q3 q4 q5 q6 q7 q8 q9 q10 q11 b1 H0 HF
  have q := fun i => cell_of_row w1 W.heap.size i _ _ (0, 0) hc1
  have q0 := q 0; have q1 := q 1; have q2 := q 2; have q3 := q 3; have q4 := q 4; have q5 := q 5; have q6 := q 6; have q7 := q 7; have q8 := q 8; have q9 := q 9; have q10 := q 10; have q11 := q 11
  clear q
  clear hc1
  go_wp2_with fail
  refine (HT.out _).mono ?_
  rintro _ w2 ⟨rfl, b2⟩
  have hc2 := kpT b2 H1.out.1
  have H2 := Lib.hid (And.intro hc2 (H1.out.2.trans (b2.mono H1.out.2.size)))
  clear q0 q1 q2 q3 q4 q5 q6 q7 q8 q9 q10 q11 b2 H1
  have q := fun i => cell_of_row w2 W.heap.size i _ _ (0, 0) hc2
  have q0 := q 0; have q1 := q 1; have q2 := q 2; have q3 := q 3; have q4 := q 4; have q5 := q 5; have q6 := q 6; have q7 := q 7; have q8 := q 8; have q9 := q 9; have q10 := q 10; have q11 := q 11
  clear q
  clear hc2 HT
  go_wp2_with fail
  refine (HWr.out _).mono ?_
  rintro _ w3 ⟨rfl, b3⟩
  have hc3 := kpT b3 H2.out.1
  have H3 := Lib.hid (And.intro hc3 (H2.out.2.trans (b3.mono H2.out.2.size)))
  clear q0 q1 q2 q3 q4 q5 q6 q7 q8 q9 q10 q11 b3 H2
  clear hc3 HWr
  go_wp2_with fail
  refine (awake_any _).mono ?_
  rintro _ w9 ⟨rfl, b9⟩
  have hbe := H3.out.2.trans (b9.mono H3.out.2.size)
  clear b9
  go_wp2
  go_ret
  exact ⟨rfl, hbe⟩
end Go.Proofs.YtlpnecmcncekcaaGreat.Mk
