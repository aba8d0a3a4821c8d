import Derived.Test.YtpkkomifenlkaaaGreatPgE
import Derived.Deep.CutBlock
import Derived.Deep.DeepCutAuto
import Derived.Deep.RegionHeld3
import Derived.ProofKit
/- AllocPlays: its guards. -/
namespace Go.Proofs.YtpkkomifenlkaaaGreat.Au
open Go Go.RowKit Go.MuLone Conf
set_option linter.unusedVariables false

set_option maxRecDepth 20000 in
set_option maxHeartbeats 2000000 in
theorem plays_few (c : Cfg) (h : 20 < c.n) (A : Option Addr) (len cap : Nat) (W : World) :
    Calls Tryz.prog 4 #[.agg c.cells, .slice A len cap] W fun e w' => e = .returned (.bool true) ∧ Below W.heap.size W w' := by
  have HF := Lib.hid (fun V => few_no c h V)
  clear h
  obtain ⟨cA, cn, cc, f1, f2, f3, f4, f5, f6, f7, f8, f9, f10, f11⟩ := c
  unfold Cfg.cells at *
  dsimp only at *
  obtain ⟨W0, hW0⟩ : ∃ X, X = W.alloc (.cells #[.slice cA cn cc, .int .i64 f1, .int .i64 f2, .int .i64 f3, .int .i64 f4, .int .i64 f5, .int .i64 f6, .int .i64 f7, .int .i64 f8, .int .i64 f9, .int .i64 f10, .int .u64 f11] TCf) := ⟨_, rfl⟩
  have hc0 : W0.heap[W.heap.size]? = some (.cells #[.slice cA cn cc, .int .i64 f1, .int .i64 f2, .int .i64 f3, .int .i64 f4, .int .i64 f5, .int .i64 f6, .int .i64 f7, .int .i64 f8, .int .i64 f9, .int .i64 f10, .int .u64 f11] TCf (0, 0)) := by rw [hW0]; exact heap_alloc_new _ _
  have b0 : Below W.heap.size W W0 := by rw [hW0]; exact (Below.refl _ _).alloc (Nat.le_refl _) _
  have H0 := Lib.hid (And.intro hc0 b0)
  have q := fun i => cell_of_row W0 W.heap.size i _ _ (0, 0) hc0
  have q0 := q 0; have q1 := q 1; have q2 := q 2; have q3 := q 3; have q4 := q 4; have q5 := q 5; have q6 := q 6; have q7 := q 7; have q8 := q 8; have q9 := q 9; have q10 := q 10; have q11 := q 11
  clear q
  clear hc0 b0
  go_enter Tryz.func4, Tryz.ntmps4
  go_upto_region 1 with fail
  rw [← hW0]
  clear hW0
  go_wp2_with fail
  refine (HF.out _).mono ?_
  rintro _ w1 ⟨rfl, b1⟩
  have hc1 := kp b1 H0.out.1
  have H1 := Lib.hid (And.intro hc1 (H0.out.2.trans (b1.mono H0.out.2.size)))
  clear q0 q1 q2 q3 q4 q5 q6 q7 q8 q9 q10 q11 b1 H0 HF
  have q := fun i => cell_of_row w1 W.heap.size i _ _ (0, 0) hc1
  have q0 := q 0; have q1 := q 1; have q2 := q 2; have q3 := q 3; have q4 := q 4; have q5 := q 5; have q6 := q 6; have q7 := q 7; have q8 := q 8; have q9 := q 9; have q10 := q 10; have q11 := q 11
  clear q
  clear hc1
  go_wp2_with fail
  refine (awake_any _).mono ?_
  rintro _ w9 ⟨rfl, b9⟩
  have hbe := H1.out.2.trans (b9.mono H1.out.2.size)
  clear b9
  go_wp2
  go_ret
  exact ⟨rfl, hbe⟩
set_option maxRecDepth 20000 in
set_option maxHeartbeats 2000000 in
theorem plays_long (c : Cfg) (h : c.n ≤ 20) (A : Option Addr) (len cap : Nat) (hl : 100 < len) (W : World) :
    Calls Tryz.prog 4 #[.agg c.cells, .slice A len cap] W fun e w' => e = .returned (.bool true) ∧ Below W.heap.size W w' := by
  have hp : (100 : Int) < (len : Int) := by omega
  have hp2 : decide ((100 : Int) < (len : Int)) = true := by simp; omega
  have HF := Lib.hid (fun V => few_yes c h V)
  clear h
  obtain ⟨cA, cn, cc, f1, f2, f3, f4, f5, f6, f7, f8, f9, f10, f11⟩ := c
  unfold Cfg.cells at *
  dsimp only at *
  obtain ⟨W0, hW0⟩ : ∃ X, X = W.alloc (.cells #[.slice cA cn cc, .int .i64 f1, .int .i64 f2, .int .i64 f3, .int .i64 f4, .int .i64 f5, .int .i64 f6, .int .i64 f7, .int .i64 f8, .int .i64 f9, .int .i64 f10, .int .u64 f11] TCf) := ⟨_, rfl⟩
  have hc0 : W0.heap[W.heap.size]? = some (.cells #[.slice cA cn cc, .int .i64 f1, .int .i64 f2, .int .i64 f3, .int .i64 f4, .int .i64 f5, .int .i64 f6, .int .i64 f7, .int .i64 f8, .int .i64 f9, .int .i64 f10, .int .u64 f11] TCf (0, 0)) := by rw [hW0]; exact heap_alloc_new _ _
  have b0 : Below W.heap.size W W0 := by rw [hW0]; exact (Below.refl _ _).alloc (Nat.le_refl _) _
  have H0 := Lib.hid (And.intro hc0 b0)
  have q := fun i => cell_of_row W0 W.heap.size i _ _ (0, 0) hc0
  have q0 := q 0; have q1 := q 1; have q2 := q 2; have q3 := q 3; have q4 := q 4; have q5 := q 5; have q6 := q 6; have q7 := q 7; have q8 := q 8; have q9 := q 9; have q10 := q 10; have q11 := q 11
  clear q
  clear hc0 b0
  go_enter Tryz.func4, Tryz.ntmps4
  go_upto_region 1 with fail
  rw [← hW0]
  clear hW0
  go_wp2_with fail
  refine (HF.out _).mono ?_
  rintro _ w1 ⟨rfl, b1⟩
  have hc1 := kp b1 H0.out.1
  have H1 := Lib.hid (And.intro hc1 (H0.out.2.trans (b1.mono H0.out.2.size)))
  clear q0 q1 q2 q3 q4 q5 q6 q7 q8 q9 q10 q11 b1 H0 HF
  have q := fun i => cell_of_row w1 W.heap.size i _ _ (0, 0) hc1
  have q0 := q 0; have q1 := q 1; have q2 := q 2; have q3 := q 3; have q4 := q 4; have q5 := q 5; have q6 := q 6; have q7 := q 7; have q8 := q 8; have q9 := q 9; have q10 := q 10; have q11 := q 11
  clear q
  clear hc1
  go_wp2_with fail
  refine (awake_any _).mono ?_
  rintro _ w9 ⟨rfl, b9⟩
  have hbe := H1.out.2.trans (b9.mono H1.out.2.size)
  clear b9
  go_wp2
  go_ret
  exact ⟨rfl, hbe⟩
set_option maxRecDepth 20000 in
set_option maxHeartbeats 2000000 in
theorem plays_wrong (c : Cfg) (h : c.n ≤ 20) (hcode : code c 11 0 = 1) (hwr : ∃ k, k < 11 ∧ wrong c 11 0 = word k) (A : Option Addr) (len cap : Nat) (hl : len ≤ 100) (W : World) :
    Calls Tryz.prog 4 #[.agg c.cells, .slice A len cap] W fun e w' => e = .returned (.bool true) ∧ Below W.heap.size W w' := by
  have hp : ¬ (100 : Int) < (len : Int) := by omega
  have hp2 : decide ((100 : Int) < (len : Int)) = false := by simp; omega
  obtain ⟨k, hk, hwk⟩ := hwr
  obtain ⟨z, hz⟩ : ∃ z, z = word k := ⟨_, rfl⟩
  have z1 : (z == (⟨#[]⟩ : ByteArray)) = false := by rw [hz]; exact (word_ne k hk).1
  have z2 : ¬ z.toList = [] := by rw [hz]; exact (word_ne k hk).2
  have z3 : z.toList.isEmpty = false := by simpa using z2
  have HWr : Hid (∀ V, Calls Tryz.prog 15 #[.agg c.cells] V fun e w' => e = .returned (.string z) ∧ Below V.heap.size V w') := Lib.hid (fun V => by rw [hz, ← hwk]; exact ref_wrong c V)
  have HT := Lib.hid (fun V => anew_bad c 1 hcode (by decide) V)
  have HF := Lib.hid (fun V => few_yes c h V)
  clear hz hwk hk h hcode
  obtain ⟨cA, cn, cc, f1, f2, f3, f4, f5, f6, f7, f8, f9, f10, f11⟩ := c
  unfold Cfg.cells at *
  dsimp only at *
  obtain ⟨W0, hW0⟩ : ∃ X, X = W.alloc (.cells #[.slice cA cn cc, .int .i64 f1, .int .i64 f2, .int .i64 f3, .int .i64 f4, .int .i64 f5, .int .i64 f6, .int .i64 f7, .int .i64 f8, .int .i64 f9, .int .i64 f10, .int .u64 f11] TCf) := ⟨_, rfl⟩
  have hc0 : W0.heap[W.heap.size]? = some (.cells #[.slice cA cn cc, .int .i64 f1, .int .i64 f2, .int .i64 f3, .int .i64 f4, .int .i64 f5, .int .i64 f6, .int .i64 f7, .int .i64 f8, .int .i64 f9, .int .i64 f10, .int .u64 f11] TCf (0, 0)) := by rw [hW0]; exact heap_alloc_new _ _
  have b0 : Below W.heap.size W W0 := by rw [hW0]; exact (Below.refl _ _).alloc (Nat.le_refl _) _
  have H0 := Lib.hid (And.intro hc0 b0)
  have q := fun i => cell_of_row W0 W.heap.size i _ _ (0, 0) hc0
  have q0 := q 0; have q1 := q 1; have q2 := q 2; have q3 := q 3; have q4 := q 4; have q5 := q 5; have q6 := q 6; have q7 := q 7; have q8 := q 8; have q9 := q 9; have q10 := q 10; have q11 := q 11
  clear q
  clear hc0 b0
  go_enter Tryz.func4, Tryz.ntmps4
  go_upto_region 1 with fail
  rw [← hW0]
  clear hW0
  go_wp2_with fail
  refine (HF.out _).mono ?_
  rintro _ w1 ⟨rfl, b1⟩
  have hc1 := kp b1 H0.out.1
  have H1 := Lib.hid (And.intro hc1 (H0.out.2.trans (b1.mono H0.out.2.size)))
  clear q0 q1 q2 q3 q4 q5 q6 q7 q8 q9 q10 q11 b1 H0 HF
  have q := fun i => cell_of_row w1 W.heap.size i _ _ (0, 0) hc1
  have q0 := q 0; have q1 := q 1; have q2 := q 2; have q3 := q 3; have q4 := q 4; have q5 := q 5; have q6 := q 6; have q7 := q 7; have q8 := q 8; have q9 := q 9; have q10 := q 10; have q11 := q 11
  clear q
  clear hc1
  go_wp2_with fail
  refine (HT.out _).mono ?_
  rintro _ w2 ⟨rfl, b2⟩
  have hc2 := kp b2 H1.out.1
  have H2 := Lib.hid (And.intro hc2 (H1.out.2.trans (b2.mono H1.out.2.size)))
  clear q0 q1 q2 q3 q4 q5 q6 q7 q8 q9 q10 q11 b2 H1
  have q := fun i => cell_of_row w2 W.heap.size i _ _ (0, 0) hc2
  have q0 := q 0; have q1 := q 1; have q2 := q 2; have q3 := q 3; have q4 := q 4; have q5 := q 5; have q6 := q 6; have q7 := q 7; have q8 := q 8; have q9 := q 9; have q10 := q 10; have q11 := q 11
  clear q
  clear hc2 HT
  go_wp2_with fail
  refine (HWr.out _).mono ?_
  rintro _ w3 ⟨rfl, b3⟩
  have hc3 := kp b3 H2.out.1
  have H3 := Lib.hid (And.intro hc3 (H2.out.2.trans (b3.mono H2.out.2.size)))
  clear q0 q1 q2 q3 q4 q5 q6 q7 q8 q9 q10 q11 b3 H2
  clear hc3 HWr
  go_wp2_with fail
  refine (awake_any _).mono ?_
  rintro _ w9 ⟨rfl, b9⟩
  have hbe := H3.out.2.trans (b9.mono H3.out.2.size)
  clear b9
  go_wp2
  go_ret
  exact ⟨rfl, hbe⟩
end Go.Proofs.YtpkkomifenlkaaaGreat.Au
/- AllocPlays: a config that may be, few operations. -/
namespace Go.Proofs.YtpkkomifenlkaaaGreat.Au
open Go Go.RowKit Go.MuLone Conf
set_option linter.unusedVariables false

theorem ne_rt (a b c d : Int) (W : World) : (binOp .neq 32 (.agg #[.int .i64 a, .int .u64 b, .int .u64 c, .int .u64 d]) (.agg #[.int .i64 a, .int .u64 b, .int .u64 c, .int .u64 d])).run Tryz.prog W = .ok (.bool false) W := by
  have h : (Op.equal 32 (.agg #[.int .i64 a, .int .u64 b, .int .u64 c, .int .u64 d]) (.agg #[.int .i64 a, .int .u64 b, .int .u64 c, .int .u64 d])).run Tryz.prog W = .ok true W := by
    unfold Op.equal Op.maxDepth
    go_simp
  simp only [binOp, Sem.run_bind, h, Result.andThen_ok]
  rfl
section
variable {W V X : World} {base bp S cb k : Nat} {z0 z1 sl p0 p1 : Value} {y : Alo} {v u : Nat → Value} {z : Nat → Pz} {s : Nat → Nu} {a b c d : Int}
/-- the program's operation -/
theorem Pw.doo (h : Pw W V base z0 z1 y v bp S sl p0 p1 z s) (o : Oq) (hok : ∀ i, NOk (s i) k) (hk : k ≤ 892) (hn : 0 ≤ o.nn ∧ o.nn ≤ 18446744073709551615) (hr : doR y.A o s = (a, b, c, d)) :
    Calls Tryz.prog 8 #[.pointer (some ⟨y.S, 0, none⟩), o.val] V fun e w' => e = .returned (.agg #[.int .i64 a, .int .u64 b, .int .u64 c, .int .u64 d]) ∧ ∃ v', AIs base w' y y.A y.A 0 z0 z1 v' (doS y.A o s) ∧ PA bp w' S y.A sl p0 p1 z s ∧ Below W.heap.size W w' ∧ AF y y.A y.A v v' V w' := by
  refine (do_any o h.ai (by have := h.A; omega) (fun i _ => hok i) hk (fun _ => sortU_all k (by omega)) hn).mono ?_
  rintro e w' ⟨rfl, v', h1, h2⟩
  exact ⟨by rw [hr]; rfl, v', h1, h.pa.af h.ai h2, h.bel.trans ((h2.below h.ai).mono h.hb), h2⟩
/-- the page's -/
theorem qdoo (hb : W.heap.size ≤ base) (hp : W.heap.size ≤ bp) (hA : 1 ≤ y.A ∧ y.A ≤ 4) (o : Oq) (ai : AIs base V y y.A y.A 0 z0 z1 v (doS y.A o s)) (pa : PA bp V S y.A sl p0 p1 z s) (bel : Below W.heap.size W V) (hok : ∀ i, NOk (s i) k) (hk : k ≤ 892) (hr : doR y.A o s = (a, b, c, d)) :
    Calls Tryz.prog 17 #[.pointer (some ⟨S, 0, none⟩), o.val] V fun e w' => e = .returned (.agg #[.int .i64 a, .int .u64 b, .int .u64 c, .int .u64 d]) ∧ ∃ z', Pw W w' base z0 z1 y v bp S sl p0 p1 z' (doS y.A o s) ∧ PF V w' := by
  refine (pdo_any o pa (by omega) (fun i _ => hok i) hk).mono ?_
  rintro e w' ⟨rfl, z', h1, h2, h3⟩
  exact ⟨by rw [hr]; rfl, z', ⟨hb, hp, ai.pf h2, h1, hA, bel.trans (h3.mono hp)⟩, h2⟩
end
set_option maxRecDepth 20000 in
set_option maxHeartbeats 16000000 in
theorem plays_main (c : Cfg) (h : c.n ≤ 20) (hcode : code c 11 0 = 0) (hwr : wrong c 11 0 = ⟨#[]⟩) (hr1 : right c.f1 1 4 = true) (hf : 0 ≤ c.f11 ∧ c.f11 ≤ 18446744073709551615) (P : Option Addr) (len cap : Nat) (qs : List Oq) (W : World) (hq : RdQ W P len qs) (hl : len ≤ 100) :
    Calls Tryz.prog 4 #[.agg c.cells, .slice P len cap] W fun e w' => e = .returned (.bool true) ∧ Below W.heap.size W w' := by
  have HQ := Lib.hid hq
  have hp : ¬ (100 : Int) < (len : Int) := by omega
  have hp2 : decide ((100 : Int) < (len : Int)) = false := by simp; omega
  have HWr : Hid (∀ V, Calls Tryz.prog 15 #[.agg c.cells] V fun e w' => e = .returned (.string ⟨#[]⟩) ∧ Below V.heap.size V w') := Lib.hid (fun V => by rw [← hwr]; exact ref_wrong c V)
  have HF := Lib.hid (fun V => few_yes c h V)
  obtain ⟨A, hA, hA1, hA4⟩ : ∃ A : Nat, c.f1 = (A : Int) ∧ 1 ≤ A ∧ A ≤ 4 := by
    simp [right] at hr1
    exact ⟨c.f1.toNat, by omega, by omega, by omega⟩
  have HT := Lib.hid (fun V => anew_any c hcode A hA (by omega) V)
  have HPN := Lib.hid (fun V => pnew_any c A hA (by omega) V)
  have HF11 := Lib.hid hf
  have HAa := Lib.hid (And.intro hA1 hA4)
  clear hcode hwr h hq hf hr1 hA1 hA4
  obtain ⟨cA, cn, cc, f1, f2, f3, f4, f5, f6, f7, f8, f9, f10, f11⟩ := c
  unfold Cfg.cells at *
  dsimp only at *
  subst hA
  obtain ⟨W0, hW0⟩ : ∃ X, X = W.alloc (.cells #[.slice cA cn cc, .int .i64 (A : Int), .int .i64 f2, .int .i64 f3, .int .i64 f4, .int .i64 f5, .int .i64 f6, .int .i64 f7, .int .i64 f8, .int .i64 f9, .int .i64 f10, .int .u64 f11] TCf) := ⟨_, rfl⟩
  have hc0 : W0.heap[W.heap.size]? = some (.cells #[.slice cA cn cc, .int .i64 (A : Int), .int .i64 f2, .int .i64 f3, .int .i64 f4, .int .i64 f5, .int .i64 f6, .int .i64 f7, .int .i64 f8, .int .i64 f9, .int .i64 f10, .int .u64 f11] TCf (0, 0)) := by rw [hW0]; exact heap_alloc_new _ _
  have b0 : Below W.heap.size W W0 := by rw [hW0]; exact (Below.refl _ _).alloc (Nat.le_refl _) _
  have H0 := Lib.hid (And.intro hc0 b0)
  have q := fun i => cell_of_row W0 W.heap.size i _ _ (0, 0) hc0
  have q0 := q 0; have q1 := q 1; have q2 := q 2; have q3 := q 3; have q4 := q 4; have q5 := q 5; have q6 := q 6; have q7 := q 7; have q8 := q 8; have q9 := q 9; have q10 := q 10; have q11 := q 11
  clear q
  clear hc0 b0
  go_enter Tryz.func4, Tryz.ntmps4
  go_upto_region 1 with fail
  rw [← hW0]
  clear hW0
  go_wp2_with fail
  refine (HF.out _).mono ?_
  rintro _ w1 ⟨rfl, b1⟩
  have hc1 := kp b1 H0.out.1
  have H1 := Lib.hid (And.intro hc1 (H0.out.2.trans (b1.mono H0.out.2.size)))
  clear q0 q1 q2 q3 q4 q5 q6 q7 q8 q9 q10 q11 b1 H0 HF
  have q := fun i => cell_of_row w1 W.heap.size i _ _ (0, 0) hc1
  have q0 := q 0; have q1 := q 1; have q2 := q 2; have q3 := q 3; have q4 := q 4; have q5 := q 5; have q6 := q 6; have q7 := q 7; have q8 := q 8; have q9 := q 9; have q10 := q 10; have q11 := q 11
  clear q
  clear hc1
  go_wp2_with fail
  refine (HT.out _).mono ?_
  rintro _ w2 ⟨S0, b, z0, z1, rfl, hn⟩
  have hai : ∃ base, W.heap.size ≤ base ∧ AIs base w2 ⟨S0, A, b⟩ A A 0 z0 z1 v00 (s00 f11) := ⟨w1.heap.size + 1, by have := H1.out.2.size; omega, hn.al⟩
  have hc2 := (hn.bel.block _ (ltO H1.out.1)).trans H1.out.1
  have hb2 := H1.out.2.trans (hn.bel.mono H1.out.2.size)
  obtain ⟨y, hy⟩ : ∃ y : Alo, y = ⟨S0, A, b⟩ := ⟨_, rfl⟩
  rw [← hy] at hai
  obtain rfl : S0 = y.S := by rw [hy]
  obtain ⟨base, hba, hai⟩ := hai
  have hyA : y.A = A := by rw [hy]
  have H2 := Lib.hid (And.intro hai (And.intro hc2 (And.intro hb2 hba)))
  have HyA := Lib.hid hyA
  clear q0 q1 q2 q3 q4 q5 q6 q7 q8 q9 q10 q11 hn hai hba hb2 hy hyA HT H1
  have q := fun i => cell_of_row w2 W.heap.size i _ _ (0, 0) hc2
  have q0 := q 0; have q1 := q 1; have q2 := q 2; have q3 := q 3; have q4 := q 4; have q5 := q 5; have q6 := q 6; have q7 := q 7; have q8 := q 8; have q9 := q 9; have q10 := q 10; have q11 := q 11
  clear q
  clear hc2
  go_wp2_with fail
  refine (HWr.out _).mono ?_
  rintro _ w3 ⟨rfl, b3⟩
  have hc3 := kp b3 H2.out.2.1
  have H3 := Lib.hid (And.intro (H2.out.1.below b3) (And.intro hc3 (And.intro (H2.out.2.2.1.trans (b3.mono H2.out.2.2.1.size)) H2.out.2.2.2)))
  clear q0 q1 q2 q3 q4 q5 q6 q7 q8 q9 q10 q11 b3 H2 HWr
  have q := fun i => cell_of_row w3 W.heap.size i _ _ (0, 0) hc3
  have q0 := q 0; have q1 := q 1; have q2 := q 2; have q3 := q 3; have q4 := q 4; have q5 := q 5; have q6 := q 6; have q7 := q 7; have q8 := q 8; have q9 := q 9; have q10 := q 10; have q11 := q 11
  clear q
  clear hc3
  go_wp2_with fail
  refine (HPN.out _).mono ?_
  rintro _ w4 ⟨S, sl, p0, p1, z, rfl, hpa, b4⟩
  have hcb : Cb w4 W.heap.size (⟨cA, cn, cc, (A : Int), f2, f3, f4, f5, f6, f7, f8, f9, f10, f11⟩ : Cfg) := kp b4 H3.out.2.1
  have hbp : W.heap.size ≤ w3.heap.size + 1 := by have := H3.out.2.2.1.size; omega
  have hpw : Pw W w4 base z0 z1 y v00 (w3.heap.size + 1) S sl p0 p1 z (s00 f11) :=
    ⟨H3.out.2.2.2, hbp, by rw [HyA.out]; exact H3.out.1.below b4, by rw [HyA.out]; exact hpa, by rw [HyA.out]; exact HAa.out, H3.out.2.2.1.trans (b4.mono H3.out.2.2.1.size)⟩
  generalize w3.heap.size + 1 = bp at hpw hbp hpa
  have HS := Lib.hid (And.intro hpw hcb)
  have HN0 := Lib.hid (fun j => s00_ok f11 HF11.out j)
  clear q0 q1 q2 q3 q4 q5 q6 q7 q8 q9 q10 q11 hpw hcb hpa b4 HPN H3 HF11 hbp
  go_wp2_with fail
  go_loopw [8] (fun vi wr => ∃ (i : Nat) (v : Nat → Value) (z : Nat → Pz) (s : Nat → Nu), vi = .int .i64 (i : Int) ∧ i ≤ len ∧ Pw W wr base z0 z1 y v bp S sl p0 p1 z s ∧ Cb wr W.heap.size (⟨cA, cn, cc, (A : Int), f2, f3, f4, f5, f6, f7, f8, f9, f10, f11⟩ : Cfg) ∧ Hid (∀ j, NOk (s j) (8 * i))) (fun vi _ => len - (intOf vi).toNat)
  case atStart => exact ⟨0, _, _, _, rfl, Nat.zero_le _, HS.out.1, HS.out.2, Lib.hid HN0.out⟩
  case round =>
    clear HS HN0
    obtain ⟨i, v, z, s, rfl, hi, hS, hcb, HM⟩ := hrel
    have HS := Lib.hid (And.intro hS hcb)
    clear hS hcb
    by_cases hlt : i < len
    · have hi0 : (0 : Int) ≤ (i : Int) := by omega
      have hi1 : (i : Int) < (len : Int) := by omega
      obtain ⟨b9, off, hAq, hbl, hcs⟩ := HQ.out.cells (by omega)
      have hat := hcs i (by have := HQ.out.many; omega)
      have hqok := HQ.out.ok _ (List.getElem_mem (h := (by have := HQ.out.many; omega : i < qs.length)))
      generalize qs[i]'(by have := HQ.out.many; omega) = q at hat hqok
      subst hAq
      clear hcs
      obtain ⟨kd, who, kc, kf, ks, sd, ac, ep, nn⟩ := q
      have HSA : Hid (∀ V, Below W.heap.size W V → OqAt V b9 off i (Oq.mk kd who kc kf ks sd ac ep nn)) := Lib.hid fun V hb => hat.keep (hb.block b9 hbl)
      have hnn := hqok.nn
      clear hat hqok hbl
      obtain ⟨ra, rb, rc, rd, hr⟩ : ∃ a b c d, doR y.A (Oq.mk kd who kc kf ks sd ac ep nn) s = (a, b, c, d) := ⟨_, _, _, _, rfl⟩
      have hd := HS.out.1.doo (Oq.mk kd who kc kf ks sd ac ep nn) HM.out (by omega) hnn hr
      have HM1 := Lib.hid (all_ok (A := y.A) (o := (Oq.mk kd who kc kf ks sd ac ep nn)) HM.out (by omega) hnn)
      have HR := Lib.hid (And.intro hr hnn)
      clear hd hr hnn
      go_upto_region 12 with fail
      refine wp_region_held_drew (S := fun V => OqAt V b9 off i (Oq.mk kd who kc kf ks sd ac ep nn)) (by kernel_rfl) (HSA.out _ HS.out.1.bel.drew) (fun hHeld => ?_)
      refine wpAnyH_take (i := 0) (oi := _) (v := ?_) rfl (by kernel_rfl) (by kernel_rfl) (by kernel_rfl) (fun _ _ _ h => h) (Or.inl ⟨by rfl, ?_⟩) (by assumption) ?_
      rotate_left
      · (intro V hSw; go_simp; try with_reducible rfl)
      try simp only [Act.put, List.getElem_toArray, List.getElem_cons_zero, List.setIfInBounds_toArray, List.set_cons_zero, List.set_cons_succ]
      refine wpAnyH_take (i := 1) (oi := _) (v := ?_) rfl (by kernel_rfl) (by kernel_rfl) (by kernel_rfl) (fun _ _ _ h => h) (Or.inl ⟨by rfl, ?_⟩) (by assumption) ?_
      rotate_left
      · (intro V hSw; go_simp; try with_reducible rfl)
      try simp only [Act.put, List.getElem_toArray, List.getElem_cons_succ, List.getElem_cons_zero, List.setIfInBounds_toArray, List.set_cons_zero, List.set_cons_succ]
      refine wpAnyH_take (i := 2) (oi := _) (v := ?_) rfl (by kernel_rfl) (by kernel_rfl) (by kernel_rfl) (fun _ _ _ h => h) (Or.inl ⟨by rfl, ?_⟩) (by assumption) ?_
      rotate_left
      · (intro V hSw; go_simp; try with_reducible rfl)
      try simp only [Act.put, List.getElem_toArray, List.getElem_cons_succ, List.getElem_cons_zero, List.setIfInBounds_toArray, List.set_cons_zero, List.set_cons_succ]
      refine wpAnyH_take (i := 3) (oi := _) (v := ?_) rfl (by kernel_rfl) (by kernel_rfl) (by kernel_rfl) (fun _ _ _ h => h) (Or.inl ⟨by rfl, ?_⟩) (by assumption) ?_
      rotate_left
      · (intro V hSw; go_simp; try with_reducible rfl)
      try simp only [Act.put, List.getElem_toArray, List.getElem_cons_succ, List.getElem_cons_zero, List.setIfInBounds_toArray, List.set_cons_zero, List.set_cons_succ]
      refine wpAnyH_take (i := 4) (oi := _) (v := ?_) rfl (by kernel_rfl) (by kernel_rfl) (by kernel_rfl) (fun _ _ _ h => h) (Or.inl ⟨by rfl, ?_⟩) (by assumption) ?_
      rotate_left
      · (intro V hSw; have q0 : V.cell? ⟨b9, off + i * 9, none⟩ = some (.int .i64 kd) := hSw 0 (by decide); have q1 : V.cell? ⟨b9, off + i * 9 + 1, none⟩ = some (.int .i64 who) := hSw 1 (by decide); have q2 : V.cell? ⟨b9, off + i * 9 + 2, none⟩ = some (.int .i64 kc) := hSw 2 (by decide); have q3 : V.cell? ⟨b9, off + i * 9 + 3, none⟩ = some (.int .i64 kf) := hSw 3 (by decide); have q4 : V.cell? ⟨b9, off + i * 9 + 4, none⟩ = some (.int .u64 ks) := hSw 4 (by decide); have q5 : V.cell? ⟨b9, off + i * 9 + 5, none⟩ = some (.int .i64 sd) := hSw 5 (by decide); have q6 : V.cell? ⟨b9, off + i * 9 + 6, none⟩ = some (.int .i64 ac) := hSw 6 (by decide); have q7 : V.cell? ⟨b9, off + i * 9 + 7, none⟩ = some (.int .u64 ep) := hSw 7 (by decide); have q8 : V.cell? ⟨b9, off + i * 9 + 8, none⟩ = some (.int .u64 nn) := hSw 8 (by decide); clear hSw; go_simp; try with_reducible rfl)
      try simp only [Act.put, List.getElem_toArray, List.getElem_cons_succ, List.getElem_cons_zero, List.setIfInBounds_toArray, List.set_cons_zero, List.set_cons_succ]
      refine wpAnyH_take (i := 6) (oi := _) (v := ?_) rfl (by kernel_rfl) (by kernel_rfl) (by kernel_rfl) (fun _ _ _ h => h) (Or.inl ⟨by rfl, ?_⟩) (by assumption) ?_
      rotate_left
      · (intro V hSw; go_simp; try with_reducible rfl)
      try simp only [Act.put, List.getElem_toArray, List.getElem_cons_succ, List.getElem_cons_zero, List.setIfInBounds_toArray, List.set_cons_zero, List.set_cons_succ]
      refine wpAnyH_take (i := 7) (oi := _) (v := ?_) rfl (by kernel_rfl) (by kernel_rfl) (by kernel_rfl) (fun _ _ _ h => h) (Or.inl ⟨by rfl, ?_⟩) (by assumption) ?_
      rotate_left
      · (intro V hSw; go_simp; try with_reducible rfl)
      try simp only [Act.put, List.getElem_toArray, List.getElem_cons_succ, List.getElem_cons_zero, List.setIfInBounds_toArray, List.set_cons_zero, List.set_cons_succ]
      refine wpAnyH_take (i := 8) (oi := _) (v := ?_) rfl (by kernel_rfl) (by kernel_rfl) (by kernel_rfl) (fun _ _ _ h => h) (Or.inl ⟨by rfl, ?_⟩) (by assumption) ?_
      rotate_left
      · (intro V hSw; go_simp; try with_reducible rfl)
      try simp only [Act.put, List.getElem_toArray, List.getElem_cons_succ, List.getElem_cons_zero, List.setIfInBounds_toArray, List.set_cons_zero, List.set_cons_succ]
      refine wpAnyH_take (i := 9) (oi := _) (v := ?_) rfl (by kernel_rfl) (by kernel_rfl) (by kernel_rfl) (fun _ _ _ h => h) (Or.inl ⟨by rfl, ?_⟩) (by assumption) ?_
      rotate_left
      · (intro V hSw; go_simp; try with_reducible rfl)
      try simp only [Act.put, List.getElem_toArray, List.getElem_cons_succ, List.getElem_cons_zero, List.setIfInBounds_toArray, List.set_cons_zero, List.set_cons_succ]
      refine wpAnyH_take (i := 10) (oi := _) (v := ?_) rfl (by kernel_rfl) (by kernel_rfl) (by kernel_rfl) (fun _ _ _ h => h) (Or.inl ⟨by rfl, ?_⟩) (by assumption) ?_
      rotate_left
      · (intro V hSw; have q0 : V.cell? ⟨b9, off + i * 9, none⟩ = some (.int .i64 kd) := hSw 0 (by decide); have q1 : V.cell? ⟨b9, off + i * 9 + 1, none⟩ = some (.int .i64 who) := hSw 1 (by decide); have q2 : V.cell? ⟨b9, off + i * 9 + 2, none⟩ = some (.int .i64 kc) := hSw 2 (by decide); have q3 : V.cell? ⟨b9, off + i * 9 + 3, none⟩ = some (.int .i64 kf) := hSw 3 (by decide); have q4 : V.cell? ⟨b9, off + i * 9 + 4, none⟩ = some (.int .u64 ks) := hSw 4 (by decide); have q5 : V.cell? ⟨b9, off + i * 9 + 5, none⟩ = some (.int .i64 sd) := hSw 5 (by decide); have q6 : V.cell? ⟨b9, off + i * 9 + 6, none⟩ = some (.int .i64 ac) := hSw 6 (by decide); have q7 : V.cell? ⟨b9, off + i * 9 + 7, none⟩ = some (.int .u64 ep) := hSw 7 (by decide); have q8 : V.cell? ⟨b9, off + i * 9 + 8, none⟩ = some (.int .u64 nn) := hSw 8 (by decide); clear hSw; go_simp; try with_reducible rfl)
      try simp only [Act.put, List.getElem_toArray, List.getElem_cons_succ, List.getElem_cons_zero, List.setIfInBounds_toArray, List.set_cons_zero, List.set_cons_succ]
      have hS1 := HS.out.1.below (Below.refl _ _).drew
      have hcb1 := Cb.below HS.out.2 (Below.refl _ _).drew
      obtain ⟨w5, hw5⟩ : ∃ X, X = wr.drew := ⟨_, rfl⟩
      rw [← hw5] at hS1 hcb1 hHeld ⊢
      have hd := hS1.doo (Oq.mk kd who kc kf ks sd ac ep nn) HM.out (by omega) HR.out.2 HR.out.1
      unfold Oq.val Oq.cells at hd
      dsimp only at hd
      have HD := Lib.hid hd
      have H5 := Lib.hid (And.intro hS1 hcb1)
      clear hw5 hS1 hcb1 hd HS
      refine wpAnyH_ready (rs := [5]) (by kernel_rfl) (by simp) ?_
      refine AllReadyH.cons rfl (fun K hK => ?_) AllReadyH.nil
      simp only [List.getElem_toArray, List.getElem_cons_succ, List.getElem_cons_zero]
      rw [if_pos (by rfl)]
      go_simp
      refine (HD.out).mono ?_
      rintro _ w6 ⟨rfl, v6, ai6, pa6, bel6, af6⟩
      have hcb6 := H5.out.1.kc af6 H5.out.2
      have hqd := qdoo H5.out.1.hb H5.out.1.hp H5.out.1.A (Oq.mk kd who kc kf ks sd ac ep nn) ai6 pa6 bel6 HM.out (by omega) HR.out.1
      unfold Oq.val Oq.cells at hqd
      dsimp only at hqd
      have HQd := Lib.hid hqd
      have hsa6 := HSA.out _ bel6
      have H6 := Lib.hid hcb6
      clear ai6 pa6 bel6 af6 hcb6 hqd HD H5
      go_wp2_with fail
      refine hK.out _ _ hsa6 (fun hHeld => ?_)
      clear hK K
      try simp only [Act.put, List.getElem_toArray, List.getElem_cons_succ, List.getElem_cons_zero, List.setIfInBounds_toArray, List.set_cons_zero, List.set_cons_succ]
      refine wpAnyH_ready (rs := [11]) (by kernel_rfl) (by simp) ?_
      refine AllReadyH.cons rfl (fun K hK => ?_) AllReadyH.nil
      simp only [List.getElem_toArray, List.getElem_cons_succ, List.getElem_cons_zero]
      rw [if_pos (by rfl)]
      go_simp
      refine (HQd.out).mono ?_
      rintro _ w7 ⟨rfl, z7, pw7, pf7⟩
      have hcb7 : Cb w7 W.heap.size (⟨cA, cn, cc, (A : Int), f2, f3, f4, f5, f6, f7, f8, f9, f10, f11⟩ : Cfg) := (pf7.at_ H6.out (by decide)).trans H6.out
      have H7 := Lib.hid (And.intro pw7 hcb7)
      have hsa7 := HSA.out _ pw7.bel
      clear pw7 pf7 hcb7 H6 HQd
      go_wp2_with fail
      refine hK.out _ _ hsa7 (fun hHeld => ?_)
      clear hK K
      try simp only [Act.put, List.getElem_toArray, List.getElem_cons_succ, List.getElem_cons_zero, List.setIfInBounds_toArray, List.set_cons_zero, List.set_cons_succ]
      refine wpAnyH_take (i := 12) (oi := _) (v := ?_) rfl (by kernel_rfl) (by kernel_rfl) (by kernel_rfl) (fun _ _ _ h => h) (Or.inl ⟨by rfl, ?_⟩) (by assumption) ?_
      rotate_left
      · (intro V hSw; clear hSw; have hne := fun W => ne_rt ra rb rc rd W; go_simp; try with_reducible rfl)
      try simp only [Act.put, List.getElem_toArray, List.getElem_cons_succ, List.getElem_cons_zero, List.setIfInBounds_toArray, List.set_cons_zero, List.set_cons_succ]
      refine wpAnyH_done (by kernel_rfl) ?_ _
      clear hHeld hsa6 hsa7
      go_wp2
      go_roundw
      case rel => exact ⟨i + 1, v6, z7, _, by go_num, hlt, H7.out.1, H7.out.2, Lib.hid fun j => (HM1.out j).more (by omega)⟩
      case measure => simp [intOf]; omega
    · obtain rfl : i = len := by omega
      have hii : ¬ ((i : Int) < (i : Int)) := by omega
      clear HQ
      go_wp2_with fail
      refine (awake_any _).mono ?_
      rintro _ w5 ⟨rfl, b5⟩
      have h5 := HS.out.1.below b5
      have hc5 := Cb.below HS.out.2 b5
      have hsm := lsame_any (⟨cA, cn, cc, (A : Int), f2, f3, f4, f5, f6, f7, f8, f9, f10, f11⟩ : Cfg) (by show (A : Int) = _; rw [HyA.out]) h5 HM.out (by omega)
      unfold Cfg.cells at hsm
      dsimp only at hsm
      have HSm := Lib.hid hsm
      unfold Cb ccells at hc5
      dsimp only at hc5
      have q := fun i => cell_of_row w5 W.heap.size i _ _ (0, 0) hc5
      have q0 := q 0; have q1 := q 1; have q2 := q 2; have q3 := q 3; have q4 := q 4; have q5 := q 5; have q6 := q 6; have q7 := q 7; have q8 := q 8; have q9 := q 9; have q10 := q 10; have q11 := q 11
      clear q
      clear b5 h5 hc5 hsm HS HM
      go_wp2_with fail
      refine HSm.out.mono ?_
      rintro _ w6 ⟨rfl, b6⟩
      have HB := Lib.hid b6
      clear b6 HSm q0 q1 q2 q3 q4 q5 q6 q7 q8 q9 q10 q11
      go_wp2
      go_ret
      exact ⟨rfl, HB.out⟩
end Go.Proofs.YtpkkomifenlkaaaGreat.Au
/- 'AllocPlays' holds for every input: the walk over what came in. -/
namespace Go.Proofs.YtpkkomifenlkaaaGreat.Au
open Go Go.RowKit Go.ChangeShapes Go.WideShapes Go.Deep Conf

set_option maxRecDepth 100000 in
theorem walk {H : Type} {enc : TypeId × Value → H} {spare : Nat → Bool} {held : Bool} {w : World} {base : Nat} {v u : Value} {d d' : DataW H} {p p' : List MemPlace}
    (ok : Value.okWide Tryz.prog w .any base 42 v) (h : DataW.Trod enc Tryz.prog w 0 spare held 42 v d p)
    (ok' : Value.okWide Tryz.prog w .any base 46 u) (h' : DataW.Trod enc Tryz.prog w 0 spare held 46 u d' p') :
    Calls Tryz.prog 4 #[v, u] w fun e w' => e = .returned (.bool true) ∧ Below w.heap.size w w' := by
  obtain ⟨A, len, cap, qs, rfl, hl, hr⟩ := open_oqs ok' h'
  obtain ⟨c, rfl, hf0, hf1⟩ := open_config_f11 ok h
  by_cases hc : 20 < c.n
  · exact plays_few c hc A len cap w
  by_cases hn : 100 < len
  · exact plays_long c (by omega) A len cap hn w
  rcases wrong_or c with ⟨h1, h2, _, h4⟩ | ⟨h1, h2⟩
  · exact plays_main c (by omega) h1 h2 h4 ⟨hf0, hf1⟩ A len cap qs w hr (by omega)
  · exact plays_wrong c (by omega) h1 h2 A len cap (by omega) w
end Go.Proofs.YtpkkomifenlkaaaGreat.Au
