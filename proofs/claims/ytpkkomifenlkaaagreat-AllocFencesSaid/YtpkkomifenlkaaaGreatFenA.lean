import Derived.Test.YtpkkomifenlkaaaGreatAlLawW
import Derived.Deep.CutBlock
import Derived.Deep.DeepCutAuto
import Derived.ProofKit
/- AllocFences: its guards. -/
namespace Go.Proofs.YtpkkomifenlkaaaGreat.Au
open Go Go.RowKit Go.MuLone Conf
set_option linter.unusedVariables false

set_option maxRecDepth 20000 in
set_option maxHeartbeats 2000000 in
theorem fences_few (c : Cfg) (h : 20 < c.n) (A : Option Addr) (len cap : Nat) (next : Int) (W : World) :
    Calls Tryz.prog 5 #[.agg c.cells, .slice A len cap, .int .u64 next] W fun e w' => e = .returned (.bool true) ∧ Below W.heap.size W w' := by
  have HF := Lib.hid (fun V => few_no c h V)
  clear h
  obtain ⟨cA, cn, cc, f1, f2, f3, f4, f5, f6, f7, f8, f9, f10, f11⟩ := c
  unfold Cfg.cells at *
  dsimp only at *
  obtain ⟨W0, hW0⟩ : ∃ X, X = W.alloc (.cells #[.slice cA cn cc, .int .i64 f1, .int .i64 f2, .int .i64 f3, .int .i64 f4, .int .i64 f5, .int .i64 f6, .int .i64 f7, .int .i64 f8, .int .i64 f9, .int .i64 f10, .int .u64 f11] TCf) := ⟨_, rfl⟩
  have hc0 : W0.heap[W.heap.size]? = some (.cells #[.slice cA cn cc, .int .i64 f1, .int .i64 f2, .int .i64 f3, .int .i64 f4, .int .i64 f5, .int .i64 f6, .int .i64 f7, .int .i64 f8, .int .i64 f9, .int .i64 f10, .int .u64 f11] TCf (0, 0)) := by rw [hW0]; exact heap_alloc_new _ _
  have b0 : Below W.heap.size W W0 := by rw [hW0]; exact (Below.refl _ _).alloc (Nat.le_refl _) _
  have H0 := Lib.hid (And.intro hc0 b0)
  have q := fun i => cell_of_row W0 W.heap.size i _ _ (0, 0) hc0
  have q0 := q 0; have q1 := q 1; have q2 := q 2; have q3 := q 3; have q4 := q 4; have q5 := q 5; have q6 := q 6; have q7 := q 7; have q8 := q 8; have q9 := q 9; have q10 := q 10; have q11 := q 11
  clear q
  clear hc0 b0
  go_enter Tryz.func5, Tryz.ntmps5
  go_upto_region 1 with fail
  rw [← hW0]
  clear hW0
  go_wp2_with fail
  refine (HF.out _).mono ?_
  rintro _ w1 ⟨rfl, b1⟩
  have hc1 := kp b1 H0.out.1
  have H1 := Lib.hid (And.intro hc1 (H0.out.2.trans (b1.mono H0.out.2.size)))
  clear q0 q1 q2 q3 q4 q5 q6 q7 q8 q9 q10 q11 b1 H0 HF
  have q := fun i => cell_of_row w1 W.heap.size i _ _ (0, 0) hc1
  have q0 := q 0; have q1 := q 1; have q2 := q 2; have q3 := q 3; have q4 := q 4; have q5 := q 5; have q6 := q 6; have q7 := q 7; have q8 := q 8; have q9 := q 9; have q10 := q 10; have q11 := q 11
  clear q
  clear hc1
  go_wp2_with fail
  refine (awake_any _).mono ?_
  rintro _ w9 ⟨rfl, b9⟩
  have hbe := H1.out.2.trans (b9.mono H1.out.2.size)
  clear b9
  go_wp2
  go_ret
  exact ⟨rfl, hbe⟩
set_option maxRecDepth 20000 in
set_option maxHeartbeats 2000000 in
theorem fences_long (c : Cfg) (h : c.n ≤ 20) (A : Option Addr) (len cap : Nat) (hl : 60 < len) (next : Int) (W : World) :
    Calls Tryz.prog 5 #[.agg c.cells, .slice A len cap, .int .u64 next] W fun e w' => e = .returned (.bool true) ∧ Below W.heap.size W w' := by
  have hp : (60 : Int) < (len : Int) := by omega
  have hp2 : decide ((60 : Int) < (len : Int)) = true := by simp; omega
  have HF := Lib.hid (fun V => few_yes c h V)
  clear h
  obtain ⟨cA, cn, cc, f1, f2, f3, f4, f5, f6, f7, f8, f9, f10, f11⟩ := c
  unfold Cfg.cells at *
  dsimp only at *
  obtain ⟨W0, hW0⟩ : ∃ X, X = W.alloc (.cells #[.slice cA cn cc, .int .i64 f1, .int .i64 f2, .int .i64 f3, .int .i64 f4, .int .i64 f5, .int .i64 f6, .int .i64 f7, .int .i64 f8, .int .i64 f9, .int .i64 f10, .int .u64 f11] TCf) := ⟨_, rfl⟩
  have hc0 : W0.heap[W.heap.size]? = some (.cells #[.slice cA cn cc, .int .i64 f1, .int .i64 f2, .int .i64 f3, .int .i64 f4, .int .i64 f5, .int .i64 f6, .int .i64 f7, .int .i64 f8, .int .i64 f9, .int .i64 f10, .int .u64 f11] TCf (0, 0)) := by rw [hW0]; exact heap_alloc_new _ _
  have b0 : Below W.heap.size W W0 := by rw [hW0]; exact (Below.refl _ _).alloc (Nat.le_refl _) _
  have H0 := Lib.hid (And.intro hc0 b0)
  have q := fun i => cell_of_row W0 W.heap.size i _ _ (0, 0) hc0
  have q0 := q 0; have q1 := q 1; have q2 := q 2; have q3 := q 3; have q4 := q 4; have q5 := q 5; have q6 := q 6; have q7 := q 7; have q8 := q 8; have q9 := q 9; have q10 := q 10; have q11 := q 11
  clear q
  clear hc0 b0
  go_enter Tryz.func5, Tryz.ntmps5
  go_upto_region 1 with fail
  rw [← hW0]
  clear hW0
  go_wp2_with fail
  refine (HF.out _).mono ?_
  rintro _ w1 ⟨rfl, b1⟩
  have hc1 := kp b1 H0.out.1
  have H1 := Lib.hid (And.intro hc1 (H0.out.2.trans (b1.mono H0.out.2.size)))
  clear q0 q1 q2 q3 q4 q5 q6 q7 q8 q9 q10 q11 b1 H0 HF
  have q := fun i => cell_of_row w1 W.heap.size i _ _ (0, 0) hc1
  have q0 := q 0; have q1 := q 1; have q2 := q 2; have q3 := q 3; have q4 := q 4; have q5 := q 5; have q6 := q 6; have q7 := q 7; have q8 := q 8; have q9 := q 9; have q10 := q 10; have q11 := q 11
  clear q
  clear hc1
  go_wp2_with fail
  refine (awake_any _).mono ?_
  rintro _ w9 ⟨rfl, b9⟩
  have hbe := H1.out.2.trans (b9.mono H1.out.2.size)
  clear b9
  go_wp2
  go_ret
  exact ⟨rfl, hbe⟩
set_option maxRecDepth 20000 in
set_option maxHeartbeats 2000000 in
theorem fences_wrong (c : Cfg) (h : c.n ≤ 20) (hwr : ∃ k, k < 11 ∧ wrong c 11 0 = word k) (A : Option Addr) (len cap : Nat) (hl : len ≤ 60) (next : Int) (W : World) :
    Calls Tryz.prog 5 #[.agg c.cells, .slice A len cap, .int .u64 next] W fun e w' => e = .returned (.bool true) ∧ Below W.heap.size W w' := by
  have hp : ¬ (60 : Int) < (len : Int) := by omega
  have hp2 : decide ((60 : Int) < (len : Int)) = false := by simp; omega
  obtain ⟨k, hk, hwk⟩ := hwr
  obtain ⟨z, hz⟩ : ∃ z, z = word k := ⟨_, rfl⟩
  have z1 : (z == (⟨#[]⟩ : ByteArray)) = false := by rw [hz]; exact (word_ne k hk).1
  have z2 : ¬ z.toList = [] := by rw [hz]; exact (word_ne k hk).2
  have z3 : z.toList.isEmpty = false := by simpa using z2
  have HWr : Hid (∀ V, Calls Tryz.prog 15 #[.agg c.cells] V fun e w' => e = .returned (.string z) ∧ Below V.heap.size V w') := Lib.hid (fun V => by rw [hz, ← hwk]; exact ref_wrong c V)
  have HF := Lib.hid (fun V => few_yes c h V)
  clear hz hwk hk h
  obtain ⟨cA, cn, cc, f1, f2, f3, f4, f5, f6, f7, f8, f9, f10, f11⟩ := c
  unfold Cfg.cells at *
  dsimp only at *
  obtain ⟨W0, hW0⟩ : ∃ X, X = W.alloc (.cells #[.slice cA cn cc, .int .i64 f1, .int .i64 f2, .int .i64 f3, .int .i64 f4, .int .i64 f5, .int .i64 f6, .int .i64 f7, .int .i64 f8, .int .i64 f9, .int .i64 f10, .int .u64 f11] TCf) := ⟨_, rfl⟩
  have hc0 : W0.heap[W.heap.size]? = some (.cells #[.slice cA cn cc, .int .i64 f1, .int .i64 f2, .int .i64 f3, .int .i64 f4, .int .i64 f5, .int .i64 f6, .int .i64 f7, .int .i64 f8, .int .i64 f9, .int .i64 f10, .int .u64 f11] TCf (0, 0)) := by rw [hW0]; exact heap_alloc_new _ _
  have b0 : Below W.heap.size W W0 := by rw [hW0]; exact (Below.refl _ _).alloc (Nat.le_refl _) _
  have H0 := Lib.hid (And.intro hc0 b0)
  have q := fun i => cell_of_row W0 W.heap.size i _ _ (0, 0) hc0
  have q0 := q 0; have q1 := q 1; have q2 := q 2; have q3 := q 3; have q4 := q 4; have q5 := q 5; have q6 := q 6; have q7 := q 7; have q8 := q 8; have q9 := q 9; have q10 := q 10; have q11 := q 11
  clear q
  clear hc0 b0
  go_enter Tryz.func5, Tryz.ntmps5
  go_upto_region 1 with fail
  rw [← hW0]
  clear hW0
  go_wp2_with fail
  refine (HF.out _).mono ?_
  rintro _ w1 ⟨rfl, b1⟩
  have hc1 := kp b1 H0.out.1
  have H1 := Lib.hid (And.intro hc1 (H0.out.2.trans (b1.mono H0.out.2.size)))
  clear q0 q1 q2 q3 q4 q5 q6 q7 q8 q9 q10 q11 b1 H0 HF
  have q := fun i => cell_of_row w1 W.heap.size i _ _ (0, 0) hc1
  have q0 := q 0; have q1 := q 1; have q2 := q 2; have q3 := q 3; have q4 := q 4; have q5 := q 5; have q6 := q 6; have q7 := q 7; have q8 := q 8; have q9 := q 9; have q10 := q 10; have q11 := q 11
  clear q
  clear hc1
  go_wp2_with fail
  refine (HWr.out _).mono ?_
  rintro _ w2 ⟨rfl, b2⟩
  have hc2 := kp b2 H1.out.1
  have H2 := Lib.hid (And.intro hc2 (H1.out.2.trans (b2.mono H1.out.2.size)))
  clear q0 q1 q2 q3 q4 q5 q6 q7 q8 q9 q10 q11 b2 H1 HWr
  go_wp2_with fail
  refine (awake_any _).mono ?_
  rintro _ w9 ⟨rfl, b9⟩
  have hbe := H2.out.2.trans (b9.mono H2.out.2.size)
  clear b9
  go_wp2
  go_ret
  exact ⟨rfl, hbe⟩
end Go.Proofs.YtpkkomifenlkaaaGreat.Au
/- AllocFences: a config that may be, few operations. -/
namespace Go.Proofs.YtpkkomifenlkaaaGreat.Au
open Go Go.RowKit Go.MuLone Conf
set_option linter.unusedVariables false

theorem eq_rt (a b c d : Int) (W : World) : (binOp .eql 32 (.agg #[.int .i64 a, .int .u64 b, .int .u64 c, .int .u64 d]) (.agg #[.int .i64 a, .int .u64 b, .int .u64 c, .int .u64 d])).run Tryz.prog W = .ok (.bool true) W := by
  have h : (Op.equal 32 (.agg #[.int .i64 a, .int .u64 b, .int .u64 c, .int .u64 d]) (.agg #[.int .i64 a, .int .u64 b, .int .u64 c, .int .u64 d])).run Tryz.prog W = .ok true W := by
    unfold Op.equal Op.maxDepth
    go_simp
  simp only [binOp, Sem.run_bind, h, Result.andThen_ok]
  rfl
theorem rc_ok {A : Nat} (hA : 1 ≤ A) {s : Nat → Nu} {k : Nat} (hok : ∀ i, NOk (s i) k) (hk : k ≤ 892) {a b c d : Int} (h : doR A (oR 1) s = (a, b, c, d)) : 0 ≤ c ∧ c ≤ 18446744073709551615 := by
  rw [do0R hA _ _ _ _ _ _ _ s (by decide) (by decide) (by decide)] at h
  unfold nuR at h
  rw [if_pos rfl, if_neg (by simp only; omega)] at h
  split at h
  · injection h with _ h; injection h with _ h; injection h with h _; omega
  · rename_i he
    have R := rs_ok (hok 0) (show (1 : Int) ≤ 1 by decide) (show (1 : Int) ≤ 8 by decide) (by simpa using he) 1
    injection h with _ h; injection h with _ h; injection h with h _
    have h0 := R.f0; have h1 := R.fm; have h2 := R.m0
    simp only at h h0 h1 h2
    omega
set_option maxRecDepth 20000 in
set_option maxHeartbeats 16000000 in
theorem fences_main (c : Cfg) (h : c.n ≤ 20) (hcode : code c 11 0 = 0) (hwr : wrong c 11 0 = ⟨#[]⟩) (hr1 : right c.f1 1 4 = true) (hf : 0 ≤ c.f11 ∧ c.f11 ≤ 18446744073709551615) (P : Option Addr) (len cap : Nat) (qs : List Oq) (next : Int) (W : World) (hq : RdQ W P len qs) (hl : len ≤ 60) (hn : 0 ≤ next ∧ next ≤ 18446744073709551615) :
    Calls Tryz.prog 5 #[.agg c.cells, .slice P len cap, .int .u64 next] W fun e w' => e = .returned (.bool true) ∧ Below W.heap.size W w' := by
  have HQ := Lib.hid hq
  have hp : ¬ (60 : Int) < (len : Int) := by omega
  have hp2 : decide ((60 : Int) < (len : Int)) = false := by simp; omega
  have HWr : Hid (∀ V, Calls Tryz.prog 15 #[.agg c.cells] V fun e w' => e = .returned (.string ⟨#[]⟩) ∧ Below V.heap.size V w') := Lib.hid (fun V => by rw [← hwr]; exact ref_wrong c V)
  have HF := Lib.hid (fun V => few_yes c h V)
  obtain ⟨A, hA, hA1, hA4⟩ : ∃ A : Nat, c.f1 = (A : Int) ∧ 1 ≤ A ∧ A ≤ 4 := by
    simp [right] at hr1
    exact ⟨c.f1.toNat, by omega, by omega, by omega⟩
  have HT := Lib.hid (fun V => anew_any c hcode A hA (by omega) V)
  have HF11 := Lib.hid hf
  have HNx := Lib.hid hn
  have HAa := Lib.hid (And.intro hA1 hA4)
  clear hcode hwr h hq hf hr1 hA1 hA4 hn
  obtain ⟨cA, cn, cc, f1, f2, f3, f4, f5, f6, f7, f8, f9, f10, f11⟩ := c
  unfold Cfg.cells at *
  dsimp only at *
  subst hA
  obtain ⟨W0, hW0⟩ : ∃ X, X = W.alloc (.cells #[.slice cA cn cc, .int .i64 (A : Int), .int .i64 f2, .int .i64 f3, .int .i64 f4, .int .i64 f5, .int .i64 f6, .int .i64 f7, .int .i64 f8, .int .i64 f9, .int .i64 f10, .int .u64 f11] TCf) := ⟨_, rfl⟩
  have hc0 : W0.heap[W.heap.size]? = some (.cells #[.slice cA cn cc, .int .i64 (A : Int), .int .i64 f2, .int .i64 f3, .int .i64 f4, .int .i64 f5, .int .i64 f6, .int .i64 f7, .int .i64 f8, .int .i64 f9, .int .i64 f10, .int .u64 f11] TCf (0, 0)) := by rw [hW0]; exact heap_alloc_new _ _
  have b0 : Below W.heap.size W W0 := by rw [hW0]; exact (Below.refl _ _).alloc (Nat.le_refl _) _
  have H0 := Lib.hid (And.intro hc0 b0)
  have q := fun i => cell_of_row W0 W.heap.size i _ _ (0, 0) hc0
  have q0 := q 0; have q1 := q 1; have q2 := q 2; have q3 := q 3; have q4 := q 4; have q5 := q 5; have q6 := q 6; have q7 := q 7; have q8 := q 8; have q9 := q 9; have q10 := q 10; have q11 := q 11
  clear q
  clear hc0 b0
  go_enter Tryz.func5, Tryz.ntmps5
  go_upto_region 1 with fail
  rw [← hW0]
  clear hW0
  go_wp2_with fail
  refine (HF.out _).mono ?_
  rintro _ w1 ⟨rfl, b1⟩
  have hc1 := kp b1 H0.out.1
  have H1 := Lib.hid (And.intro hc1 (H0.out.2.trans (b1.mono H0.out.2.size)))
  clear q0 q1 q2 q3 q4 q5 q6 q7 q8 q9 q10 q11 b1 H0 HF
  have q := fun i => cell_of_row w1 W.heap.size i _ _ (0, 0) hc1
  have q0 := q 0; have q1 := q 1; have q2 := q 2; have q3 := q 3; have q4 := q 4; have q5 := q 5; have q6 := q 6; have q7 := q 7; have q8 := q 8; have q9 := q 9; have q10 := q 10; have q11 := q 11
  clear q
  clear hc1
  go_wp2_with fail
  refine (HWr.out _).mono ?_
  rintro _ w2 ⟨rfl, b2⟩
  have hc2 := kp b2 H1.out.1
  have H2 := Lib.hid (And.intro hc2 (H1.out.2.trans (b2.mono H1.out.2.size)))
  clear q0 q1 q2 q3 q4 q5 q6 q7 q8 q9 q10 q11 b2 H1 HWr
  have q := fun i => cell_of_row w2 W.heap.size i _ _ (0, 0) hc2
  have q0 := q 0; have q1 := q 1; have q2 := q 2; have q3 := q 3; have q4 := q 4; have q5 := q 5; have q6 := q 6; have q7 := q 7; have q8 := q 8; have q9 := q 9; have q10 := q 10; have q11 := q 11
  clear q
  clear hc2
  go_wp2_with fail
  refine (HT.out _).mono ?_
  rintro _ w3 ⟨S, b, z0, z1, rfl, hn⟩
  have hfw : Fw W w3 ⟨S, A, b⟩ v00 (s00 f11) := ⟨⟨w2.heap.size + 1, z0, z1, by have := H2.out.2.size; omega, hn.al⟩, HAa.out, H2.out.2.trans (hn.bel.mono H2.out.2.size)⟩
  obtain ⟨y, hy⟩ : ∃ y : Alo, y = ⟨S, A, b⟩ := ⟨_, rfl⟩
  rw [← hy] at hfw
  obtain rfl : S = y.S := by rw [hy]
  have HS := Lib.hid hfw
  have HA := Lib.hid hfw.A
  have HN0 := Lib.hid (fun j => s00_ok f11 HF11.out j)
  clear q0 q1 q2 q3 q4 q5 q6 q7 q8 q9 q10 q11 hfw hn hy HT H2 HF11 HAa
  go_wp2_with fail
  go_loopw [9] (fun vi wr => ∃ (i : Nat) (v : Nat → Value) (s : Nat → Nu), vi = .int .i64 (i : Int) ∧ i ≤ len ∧ Fw W wr y v s ∧ Hid ((∀ j, NOk (s j) (8 * i)) ∧ ∀ j, (s j).ep ≤ (i : Int))) (fun vi _ => len - (intOf vi).toNat)
  case atStart => exact ⟨0, _, _, rfl, Nat.zero_le _, HS.out, Lib.hid ⟨HN0.out, fun _ => Int.le_refl _⟩⟩
  case round =>
    clear HS HN0
    obtain ⟨i, v, s, rfl, hi, hS, HM⟩ := hrel
    have HS := Lib.hid hS
    clear hS
    by_cases hlt : i < len
    · have hi0 : (0 : Int) ≤ (i : Int) := by omega
      have hi1 : (i : Int) < (len : Int) := by omega
      obtain ⟨b9, off, hAq, hbl, hcs⟩ := HQ.out.cells (by omega)
      have hat := hcs i (by have := HQ.out.many; omega)
      have hok := HQ.out.ok _ (List.getElem_mem (h := (by have := HQ.out.many; omega : i < qs.length)))
      generalize qs[i]'(by have := HQ.out.many; omega) = q at hat hok
      subst hAq
      clear hcs
      obtain ⟨kd, who, kc, kf, ks, sd, ac, ep, nn⟩ := q
      have HSA : Hid (∀ V, Below W.heap.size W V → OqAt V b9 off i (Oq.mk kd who kc kf ks sd ac ep nn)) := Lib.hid fun V hb => hat.keep (hb.block b9 hbl)
      have HOK := Lib.hid hok
      clear hat hok hbl
      obtain ⟨ra, rb, rc, rd, hr⟩ : ∃ a b c d, doR y.A (Oq.mk kd who kc kf ks sd ac ep nn) s = (a, b, c, d) := ⟨_, _, _, _, rfl⟩
      have hd := HS.out.doo (Oq.mk kd who kc kf ks sd ac ep nn) HM.out.1 (by omega) HOK.out.nn hr
      unfold Oq.val Oq.cells at hd
      dsimp only at hd
      have HD := Lib.hid hd
      have HM1 := Lib.hid (And.intro (all_ok (A := y.A) (o := (Oq.mk kd who kc kf ks sd ac ep nn)) HM.out.1 (by omega) HOK.out.nn) (ep_doS (A := y.A) (o := (Oq.mk kd who kc kf ks sd ac ep nn)) HM.out.2))
      generalize doS y.A (Oq.mk kd who kc kf ks sd ac ep nn) s = s1 at HD HM1
      clear hd hr HOK
      have hsa := HSA.out _ HS.out.bel
      have q0 : wr.cell? ⟨b9, off + i * 9, none⟩ = some (.int .i64 kd) := hsa 0 (by decide)
      have q1 : wr.cell? ⟨b9, off + i * 9 + 1, none⟩ = some (.int .i64 who) := hsa 1 (by decide)
      have q2 : wr.cell? ⟨b9, off + i * 9 + 2, none⟩ = some (.int .i64 kc) := hsa 2 (by decide)
      have q3 : wr.cell? ⟨b9, off + i * 9 + 3, none⟩ = some (.int .i64 kf) := hsa 3 (by decide)
      have q4 : wr.cell? ⟨b9, off + i * 9 + 4, none⟩ = some (.int .u64 ks) := hsa 4 (by decide)
      have q5 : wr.cell? ⟨b9, off + i * 9 + 5, none⟩ = some (.int .i64 sd) := hsa 5 (by decide)
      have q6 : wr.cell? ⟨b9, off + i * 9 + 6, none⟩ = some (.int .i64 ac) := hsa 6 (by decide)
      have q7 : wr.cell? ⟨b9, off + i * 9 + 7, none⟩ = some (.int .u64 ep) := hsa 7 (by decide)
      have q8 : wr.cell? ⟨b9, off + i * 9 + 8, none⟩ = some (.int .u64 nn) := hsa 8 (by decide)
      clear hsa
      go_wp2_with fail
      refine HD.out.mono ?_
      rintro _ w4 ⟨rfl, v1, h1, -⟩
      have H4 := Lib.hid h1
      clear h1 HD HS q0 q1 q2 q3 q4 q5 q6 q7 q8
      go_wp2
      go_roundw
      case rel => exact ⟨i + 1, v1, s1, by go_num, hlt, H4.out, Lib.hid ⟨fun j => (HM1.out.1 j).more (by omega), fun j => by have := HM1.out.2 j; omega⟩⟩
      case measure => simp [intOf]; omega
    · obtain rfl : i = len := by omega
      have hii : ¬ ((i : Int) < (i : Int)) := by omega
      clear HQ
      go_wp2_with fail
      refine HS.out.epoch.mono ?_
      rintro _ w4 ⟨rfl, h4, -⟩
      have hE1 := HM.out.2 0
      have hE0 := (HM.out.1 0).ep
      obtain ⟨E, hE⟩ : ∃ E, E = (s 0).ep := ⟨_, rfl⟩
      rw [← hE] at hE0 hE1 ⊢
      have wrE : IntKind.u64.wrap (E + 1) = E + 1 := by simp [IntKind.wrap, IntKind.bits, IntKind.signed]; omega
      obtain ⟨ra, rb, rc, rd, hr⟩ : ∃ a b c d, doR y.A (oR 1) s = (a, b, c, d) := ⟨_, _, _, _, rfl⟩
      have hd := h4.doo (oR 1) HM.out.1 (by omega) (by decide) hr
      unfold Oq.val Oq.cells oR at hd
      dsimp only at hd
      have he1 := (fen_ep (A := y.A) HA.out.1 s).trans hE.symm
      have hk1 := all_ok (A := y.A) (o := oR 1) HM.out.1 (by omega) (by decide)
      unfold oR at he1 hk1
      generalize doS y.A ⟨6, 1, 0, 0, 0, 0, 1, 0, 1⟩ s = s1 at hd he1 hk1
      have hrc : 0 ≤ rc ∧ rc ≤ 18446744073709551615 := rc_ok (A := y.A) HA.out.1 HM.out.1 (by omega) hr
      have HRC := Lib.hid hrc
      have HD := Lib.hid hd
      have HK1 := Lib.hid (And.intro he1 hk1)
      have HE := Lib.hid (And.intro hE0 hE1)
      clear hrc hd he1 hk1 hE hr HM HS h4 hE0 hE1
      go_wp2_with fail
      refine HD.out.mono ?_
      rintro _ w5 ⟨rfl, v5, h5, -⟩
      obtain ⟨h6, x6⟩ := h5.box ra rb rc rd
      obtain ⟨P, hP⟩ : ∃ P, P = w5.heap.size := ⟨_, rfl⟩
      obtain ⟨w6, hw6⟩ : ∃ X, X = w5.alloc (.cells #[.int .i64 ra, .int .u64 rb, .int .u64 rc, .int .u64 rd] TRt) := ⟨_, rfl⟩
      rw [← hP, ← hw6] at x6
      rw [← hw6] at h6
      have H6 := Lib.hid (And.intro h6 x6)
      clear h5 h6 x6 HD
      go_upto_region 12 with fail
      rw [← hw6, ← hP]
      clear hw6 hP
      have hs2 := fen_sync (A := y.A) HA.out.1 s1 next (by rw [HK1.out.1]; have := HE.out.2; omega)
      rw [HK1.out.1] at hs2
      have hd := H6.out.1.doo (oZ next) HK1.out.2 (by omega) HNx.out hs2.1
      unfold Oq.val Oq.cells oZ at hd
      dsimp only at hd
      have hk2 := all_ok (A := y.A) (o := oZ next) HK1.out.2 (by omega) HNx.out
      have he2 := hs2.2
      unfold oZ at hk2 he2
      generalize doS y.A ⟨9, 2, 0, 0, 0, 0, 1, 0, next⟩ s1 = s2 at hd he2 hk2
      have HD := Lib.hid hd
      have HK2 := Lib.hid (And.intro he2 hk2)
      clear hs2 hd he2 hk2 HK1
      go_wp2_with fail
      refine HD.out.mono ?_
      rintro _ w7 ⟨rfl, v7, h7, f7⟩
      have x7 := H6.out.2.af f7
      obtain ⟨h8, z8⟩ := h7.box 0 (E + 1) 0 0
      have x8 := x7.below ((Below.refl w7.heap.size w7).alloc (Nat.le_refl _) (.cells #[.int .i64 0, .int .u64 (E + 1), .int .u64 0, .int .u64 0] TRt))
      obtain ⟨Q, hQ⟩ : ∃ Q, Q = w7.heap.size := ⟨_, rfl⟩
      obtain ⟨w8, hw8⟩ : ∃ X, X = w7.alloc (.cells #[.int .i64 0, .int .u64 (E + 1), .int .u64 0, .int .u64 0] TRt) := ⟨_, rfl⟩
      rw [← hQ, ← hw8] at z8
      rw [← hw8] at h8 x8
      have H8 := Lib.hid (And.intro h8 x8)
      obtain ⟨p0, p1, -, -⟩ := z8.get
      clear h7 f7 x7 h8 x8 z8 HD H6
      go_upto_region 13 with fail
      rw [← hw8, ← hQ]
      clear hw8 hQ
      go_wp2_with fail
      clear p0 p1
      go_loopw [14] (fun vi wx => ∃ (k : Nat) (v : Nat → Value), vi = .int .i64 (k : Int) ∧ k ≤ 2 ∧ Fw W wx y v s2 ∧ Bx wx y v P ra rb rc rd) (fun vi _ => 2 - (intOf vi).toNat)
      case atStart => exact ⟨0, _, rfl, by decide, H8.out⟩
      case round =>
        clear H8
        obtain ⟨k, v9, rfl, hk, h9, x9⟩ := hrel
        obtain ⟨p0, -, p2, -⟩ := x9.get
        by_cases hk2 : k < 2
        · have hkz : (k : Int) < 2 := by omega
          have wrk : IntKind.i64.wrap (7 + (k : Int)) = 7 + (k : Int) := by simp [IntKind.wrap, IntKind.bits, IntKind.signed]; omega
          have b10 := (Below.refl wr.heap.size wr).alloc (Nat.le_refl _) (.cells #[.int .i64 (7 + (k : Int)), .int .i64 1, .int .i64 0, .int .i64 0, .int .u64 0, .int .i64 0, .int .i64 1, .int .u64 E, .int .u64 rc] TOp)
          have h10 := h9.below b10
          have x10 := x9.below b10
          have o10 := heap_alloc_new wr (.cells #[.int .i64 (7 + (k : Int)), .int .i64 1, .int .i64 0, .int .i64 0, .int .u64 0, .int .i64 0, .int .i64 1, .int .u64 E, .int .u64 rc] TOp)
          obtain ⟨O, hO⟩ : ∃ O, O = wr.heap.size := ⟨_, rfl⟩
          obtain ⟨w10, hw10⟩ : ∃ X, X = wr.alloc (.cells #[.int .i64 (7 + (k : Int)), .int .i64 1, .int .i64 0, .int .i64 0, .int .u64 0, .int .i64 0, .int .i64 1, .int .u64 E, .int .u64 rc] TOp) := ⟨_, rfl⟩
          rw [← hw10] at h10 x10 o10
          rw [← hO] at o10
          have H10 := Lib.hid (And.intro h10 (And.intro x10 o10))
          clear b10 h10 x10 o10 h9 x9
          go_upto_region 19 with fail
          rw [← hw10, ← hO]
          clear hw10 hO p0 p2
          obtain ⟨p0, -, -, -⟩ := H10.out.2.1.get
          by_cases ha : ra = 0
          · subst ha
            have q := fun i => cell_of_row w10 O i _ _ (0, 0) H10.out.2.2
            have q0 := q 0; have q1 := q 1; have q2 := q 2; have q3 := q 3; have q4 := q 4; have q5 := q 5; have q6 := q 6; have q7 := q 7; have q8 := q 8
            have hs2 := fen_old (A := y.A) HA.out.1 s2 (7 + (k : Int)) E rc (by omega) (by rw [HK2.out.1])
            have hd := H10.out.1.doo (oL (7 + (k : Int)) E rc) HK2.out.2 (by omega) HRC.out hs2.1
            rw [hs2.2] at hd
            unfold Oq.val Oq.cells oL at hd
            dsimp only at hd
            have HD := Lib.hid hd
            clear q hs2 hd
            go_wp2_with fail
            refine HD.out.mono ?_
            rintro _ w11 ⟨rfl, v11, h11, f11⟩
            have H11 := Lib.hid (And.intro h11 (H10.out.2.1.af f11))
            clear h11 f11 HD H10 p0 q0 q1 q2 q3 q4 q5 q6 q7 q8
            go_wp2
            go_roundw
            case rel => exact ⟨k + 1, v11, by go_num, hk2, H11.out⟩
            case measure => simp [intOf]; omega
          · have ha2 : (ra == 0) = false := by simpa using ha
            go_wp2
            go_roundw
            case rel => exact ⟨k + 1, v9, by go_num, hk2, H10.out.1, H10.out.2.1⟩
            case measure => simp [intOf]; omega
        · obtain rfl : k = 2 := by omega
          have H9 := Lib.hid h9
          clear p0 p2 h9 x9
          by_cases hnt : next = 18446744073709551615
          · subst hnt
            have hs3 := fen_top (A := y.A) HA.out.1 s2 _ HK2.out.1
            have hd := H9.out.doo (oR 1) HK2.out.2 (by omega) (by decide) hs3
            unfold Oq.val Oq.cells oR at hd
            dsimp only at hd
            have HD := Lib.hid hd
            clear hs3 hd
            go_wp2_with fail
            refine HD.out.mono ?_
            rintro _ w10 ⟨rfl, v10, h10, -⟩
            obtain ⟨h11, x11⟩ := h10.box 11 0 0 0
            obtain ⟨R, hR⟩ : ∃ R, R = w10.heap.size := ⟨_, rfl⟩
            obtain ⟨w11, hw11⟩ : ∃ X, X = w10.alloc (.cells #[.int .i64 11, .int .u64 0, .int .u64 0, .int .u64 0] TRt) := ⟨_, rfl⟩
            rw [← hR, ← hw11] at x11
            rw [← hw11] at h11
            have H11 := Lib.hid (And.intro h11 x11)
            clear h10 h11 x11 HD H9
            go_upto_region 22 with fail
            rw [← hw11, ← hR]
            clear hw11 hR
            go_wp2_with fail
            refine (awake_any _).mono ?_
            rintro _ w12 ⟨rfl, b12⟩
            obtain ⟨p0, p1, p2, p3⟩ := (H11.out.2.below b12).get
            have H12 := Lib.hid (H11.out.1.below b12).bel
            clear b12 H11
            go_wp2
            go_ret
            exact ⟨rfl, H12.out⟩
          · have hs3 := fen_new (A := y.A) HA.out.1 s2 _ next HK2.out.1 hnt HNx.out.2
            have hd := H9.out.doo (oR 1) HK2.out.2 (by omega) (by decide) hs3.1
            unfold Oq.val Oq.cells oR at hd
            dsimp only at hd
            have hl3 := hs3.2
            unfold oR at hl3
            generalize doS y.A ⟨6, 1, 0, 0, 0, 0, 1, 0, 1⟩ s2 = s3 at hd hl3
            have HD := Lib.hid hd
            have HL3 := Lib.hid hl3
            have hnt2 : (next == 18446744073709551615) = false := by simpa using hnt
            clear hs3 hd hl3
            go_wp2_with fail
            refine HD.out.mono ?_
            rintro _ w10 ⟨rfl, v10, h10, -⟩
            obtain ⟨h11, x11⟩ := h10.box 0 (E + 1) next 1
            obtain ⟨R, hR⟩ : ∃ R, R = w10.heap.size := ⟨_, rfl⟩
            obtain ⟨w11, hw11⟩ : ∃ X, X = w10.alloc (.cells #[.int .i64 0, .int .u64 (E + 1), .int .u64 next, .int .u64 1] TRt) := ⟨_, rfl⟩
            rw [← hR, ← hw11] at x11
            rw [← hw11] at h11
            have H11 := Lib.hid (And.intro h11 x11)
            clear h10 h11 x11 HD H9
            go_upto_region 22 with fail
            rw [← hw11, ← hR]
            clear hw11 hR
            go_wp2_with fail
            refine (awake_any _).mono ?_
            rintro _ w12 ⟨rfl, b12⟩
            obtain ⟨p0, p1, p2, p3⟩ := (H11.out.2.below b12).get
            have H12 := Lib.hid (H11.out.1.below b12)
            clear b12 H11
            go_wp2_with fail
            refine (H12.out.free0 HL3.out).mono ?_
            rintro _ w13 ⟨A9, c9, rfl, b13⟩
            have H13 := Lib.hid b13
            clear b13 H12 p0 p1 p2 p3
            go_wp2
            go_ret
            exact ⟨rfl, H13.out⟩
end Go.Proofs.YtpkkomifenlkaaaGreat.Au
/- 'AllocFences' holds for every input: the walk over what came in. -/
namespace Go.Proofs.YtpkkomifenlkaaaGreat.Au
open Go Go.RowKit Go.ChangeShapes Go.WideShapes Go.Deep Conf

set_option maxRecDepth 100000 in
theorem walk {H : Type} {enc : TypeId × Value → H} {spare : Nat → Bool} {held : Bool} {w : World} {base : Nat} {v u : Value} {d d' : DataW H} {p p' : List MemPlace}
    (ok : Value.okWide Tryz.prog w .any base 42 v) (h : DataW.Trod enc Tryz.prog w 0 spare held 42 v d p)
    (ok' : Value.okWide Tryz.prog w .any base 46 u) (h' : DataW.Trod enc Tryz.prog w 0 spare held 46 u d' p') (a : Int) (hw : (Lit.int .u64 a).wf = true) :
    Calls Tryz.prog 5 #[v, u, .int .u64 a] w fun e w' => e = .returned (.bool true) ∧ Below w.heap.size w w' := by
  obtain ⟨A, len, cap, qs, rfl, hl, hr⟩ := open_oqs ok' h'
  obtain ⟨c, rfl, hf0, hf1⟩ := open_config_f11 ok h
  have ha : 0 ≤ a ∧ a ≤ 18446744073709551615 := by
    simp [Lit.wf, IntKind.min, IntKind.max, IntKind.bits, IntKind.signed] at hw
    omega
  by_cases hc : 20 < c.n
  · exact fences_few c hc A len cap a w
  by_cases hn : 60 < len
  · exact fences_long c (by omega) A len cap hn a w
  rcases wrong_or c with ⟨h1, h2, _, h4⟩ | ⟨_, h2⟩
  · exact fences_main c (by omega) h1 h2 h4 ⟨hf0, hf1⟩ A len cap qs a w hr (by omega) ha
  · exact fences_wrong c (by omega) h2 A len cap (by omega) a w
end Go.Proofs.YtpkkomifenlkaaaGreat.Au
