import Derived.Test.YtlpnecmcncekcaaGreatTpAsk
import Derived.Test.YtlpnecmcncekcaaGreatSameKeys
import Derived.Test.YtlpnecmcncekcaaGreatTableAwake
import Derived.Test.YtlpnecmcncekcaaGreatOps
import Derived.Test.YtlpnecmcncekcaaGreatCw
import Derived.Deep.CutBlock
import Derived.Deep.DeepCutAuto
import Derived.Deep.RegionHeld3
/- TablePlays: a config that may be, few operations. -/
namespace Go.Proofs.YtlpnecmcncekcaaGreat.Mk
open Go Go.RowKit Go.MuLone Conf
set_option linter.unusedVariables false

theorem ne_rt (a b c d : Int) (W : World) : (binOp .neq 38 (.agg #[.int .i64 a, .int .u64 b, .int .u64 c, .int .u64 d]) (.agg #[.int .i64 a, .int .u64 b, .int .u64 c, .int .u64 d])).run Tryz.prog W = .ok (.bool false) W := by
  have h : (Op.equal 38 (.agg #[.int .i64 a, .int .u64 b, .int .u64 c, .int .u64 d]) (.agg #[.int .i64 a, .int .u64 b, .int .u64 c, .int .u64 d])).run Tryz.prog W = .ok true W := by
    unfold Op.equal Op.maxDepth
    go_simp
  simp only [binOp, Sem.run_bind, h, Result.andThen_ok]
  rfl
theorem ne_en (a b c d e : Int) (W : World) : (binOp .neq TEn (.agg #[.int .i64 a, .int .i64 b, .int .u64 c, .int .i64 d, .int .i64 e]) (.agg #[.int .i64 a, .int .i64 b, .int .u64 c, .int .i64 d, .int .i64 e])).run Tryz.prog W = .ok (.bool false) W := by
  have h : (Op.equal TEn (.agg #[.int .i64 a, .int .i64 b, .int .u64 c, .int .i64 d, .int .i64 e]) (.agg #[.int .i64 a, .int .i64 b, .int .u64 c, .int .i64 d, .int .i64 e])).run Tryz.prog W = .ok true W := by
    unfold Op.equal Op.maxDepth
    go_simp
  simp only [binOp, Sem.run_bind, h, Result.andThen_ok]
  rfl
set_option maxRecDepth 20000 in
set_option maxHeartbeats 16000000 in
theorem plays_main (c : Cfg) (h : c.n ≤ 20) (hcode : code c 11 0 = 0) (hwr : wrong c 11 0 = ⟨#[]⟩) (A : Option Addr) (len cap : Nat) (ops : List Op9) (W : World) (hq : RdO W A len ops) (hl : len ≤ 100) :
    Calls Tryz.prog 5 #[.agg c.cells, .slice A len cap] W fun e w' => e = .returned (.bool true) ∧ Below W.heap.size W w' := by
  have HQ := Lib.hid hq
  have hp : ¬ (100 : Int) < (len : Int) := by omega
  have hp2 : decide ((100 : Int) < (len : Int)) = false := by simp; omega
  have HWr : Hid (∀ V, Calls Tryz.prog 7 #[.agg c.cells] V fun e w' => e = .returned (.string ⟨#[]⟩) ∧ Below V.heap.size V w') := Lib.hid (fun V => by rw [← hwr]; exact ref_wrong c V)
  have HF := Lib.hid (fun V => few_yes c h V)
  have hh := code_has c hcode
  obtain ⟨n, hn, hn0, hn8⟩ : ∃ n : Nat, c.f2 = (n : Int) ∧ 0 < n ∧ n ≤ 8 := ⟨c.f2.toNat, by omega, by omega, by omega⟩
  obtain ⟨room, hroom⟩ : ∃ r, r = c.f3 := ⟨_, rfl⟩
  have HT : Hid (∀ V, Calls Tryz.prog 9 #[.agg c.cells] V fun e w' => ∃ T v ss, e = .returned (.tuple #[.pointer (some ⟨T, 0, none⟩), .int .i64 0]) ∧ ss.length = n ∧ TR room V w' T v ss c) :=
    Lib.hid fun V => tnew_r room (by omega) (by omega) c n hn0 hn8 hcode hn hroom.symm V
  have HPN := Lib.hid (fun V => pnew_any room c n hn0 hn8 hn hroom.symm V)
  have HR := Lib.hid (show 0 ≤ room ∧ room ≤ 64 by omega)
  have HNn := Lib.hid (And.intro hn0 hn8)
  clear hcode hwr h hq hh hn0 hn8 hroom
  obtain ⟨cA, cn, cc, f1, f2, f3, f4, f5, f6, f7, f8, f9, f10, f11⟩ := c
  unfold Cfg.cells at *
  dsimp only at *
  subst hn
  obtain ⟨W0, hW0⟩ : ∃ X, X = W.alloc (.cells #[.slice cA cn cc, .int .i64 f1, .int .i64 (n : Int), .int .i64 f3, .int .i64 f4, .int .i64 f5, .int .i64 f6, .int .i64 f7, .int .i64 f8, .int .i64 f9, .int .i64 f10, .int .u64 f11] TCf) := ⟨_, rfl⟩
  have hc0 : W0.heap[W.heap.size]? = some (.cells #[.slice cA cn cc, .int .i64 f1, .int .i64 (n : Int), .int .i64 f3, .int .i64 f4, .int .i64 f5, .int .i64 f6, .int .i64 f7, .int .i64 f8, .int .i64 f9, .int .i64 f10, .int .u64 f11] TCf (0, 0)) := by rw [hW0]; exact heap_alloc_new _ _
  have b0 : Below W.heap.size W W0 := by rw [hW0]; exact (Below.refl _ _).alloc (Nat.le_refl _) _
  have H0 := Lib.hid (And.intro hc0 b0)
  have q := fun i => cell_of_row W0 W.heap.size i _ _ (0, 0) hc0
  have q0 := q 0; have q1 := q 1; have q2 := q 2; have q3 := q 3; have q4 := q 4; have q5 := q 5; have q6 := q 6; have q7 := q 7; have q8 := q 8; have q9 := q 9; have q10 := q 10; have q11 := q 11
  clear q
  clear hc0 b0
  go_enter Tryz.func5, Tryz.ntmps5
  go_upto_region 1 with fail
  rw [← hW0]
  clear hW0
  go_wp2_with fail
  refine (HF.out _).mono ?_
  rintro _ w1 ⟨rfl, b1⟩
  have hc1 := kpT b1 H0.out.1
  have H1 := Lib.hid (And.intro hc1 (H0.out.2.trans (b1.mono H0.out.2.size)))
  clear q0 q1 q2 q3 q4 q5 q6 q7 q8 q9 q10 q11 b1 H0 HF
  have q := fun i => cell_of_row w1 W.heap.size i _ _ (0, 0) hc1
  have q0 := q 0; have q1 := q 1; have q2 := q 2; have q3 := q 3; have q4 := q 4; have q5 := q 5; have q6 := q 6; have q7 := q 7; have q8 := q 8; have q9 := q 9; have q10 := q 10; have q11 := q 11
  clear q
  clear hc1
  go_wp2_with fail
  refine (HT.out _).mono ?_
  rintro _ w3 ⟨T0, sv, ss, rfl, hss, hTB⟩
  obtain ⟨y, hyT, hyn, hyr, hylo, hyhi, hyok, hywt, hymo, hysz⟩ := wt_of hTB hss HNn.out.1 HNn.out.2 HR.out.1 HR.out.2
  have hc3 := (hTB.bel.block _ (Array.getElem?_eq_some_iff.1 H1.out.1).1).trans H1.out.1
  have H3 := Lib.hid (And.intro hc3 (And.intro hywt (And.intro hTB.bel (And.intro hylo (And.intro hyhi (And.intro hymo hyr))))))
  have HY := Lib.hid hyok
  have HB1 := Lib.hid (And.intro H1.out.2 H1.out.1)
  clear q0 q1 q2 q3 q4 q5 q6 q7 q8 q9 q10 q11 hTB hss hyr hylo hyhi hyok hywt hymo hysz HT H1 HNn
  have q := fun i => cell_of_row w3 W.heap.size i _ _ (0, 0) hc3
  have q0 := q 0; have q1 := q 1; have q2 := q 2; have q3 := q 3; have q4 := q 4; have q5 := q 5; have q6 := q 6; have q7 := q 7; have q8 := q 8; have q9 := q 9; have q10 := q 10; have q11 := q 11
  clear q
  clear hc3
  subst hyT
  go_wp2_with fail
  refine (HWr.out _).mono ?_
  rintro _ w4 ⟨rfl, b4⟩
  have hc4 := kpT b4 H3.out.1
  have H4 := Lib.hid (And.intro hc4 b4)
  clear q0 q1 q2 q3 q4 q5 q6 q7 q8 q9 q10 q11 b4 HWr
  have q := fun i => cell_of_row w4 W.heap.size i _ _ (0, 0) hc4
  have q0 := q 0; have q1 := q 1; have q2 := q 2; have q3 := q 3; have q4 := q 4; have q5 := q 5; have q6 := q 6; have q7 := q 7; have q8 := q 8; have q9 := q 9; have q10 := q 10; have q11 := q 11
  clear q
  clear hc4
  go_wp2_with fail
  refine (HPN.out _).mono ?_
  rintro _ w5 ⟨T, g, cap2, q, rfl, hpt, b5⟩
  have htp : TPW w1 w5 y (fun _ => ([], 0)) T g cap2 (w4.heap.size + 1) q (fun _ => .slice none 0 0) (fun _ => []) :=
    ⟨(H3.out.2.1.below HY.out H4.out.2).below HY.out b5, by rw [hyn, H3.out.2.2.2.2.2.2]; exact hpt, by have := H3.out.2.2.2.2.1; have := H4.out.2.size; omega, by have := H3.out.2.2.2.1; omega, fun i _ => QM.nil, H3.out.2.2.2.2.2.1, (H3.out.2.2.1.trans (H4.out.2.mono H3.out.2.2.1.size)).trans (b5.mono (Nat.le_trans H3.out.2.2.1.size H4.out.2.size))⟩
  generalize w4.heap.size + 1 = lo at htp
  have HS := Lib.hid htp
  clear q0 q1 q2 q3 q4 q5 q6 q7 q8 q9 q10 q11 hpt b5 htp HPN H4 H3 HR
  subst hyn
  have hn8 := HY.out.n8
  go_wp2_with fail
  go_loopw [8] (fun vi wr => ∃ (i : Nat) (M : Maps) (v : Nat → Value) (ls : Nat → List En), vi = .int .i64 (i : Int) ∧ i ≤ len ∧ TPW w1 wr y M T g cap2 lo q v ls) (fun vi _ => len - (intOf vi).toNat)
  case atStart => exact ⟨0, _, _, _, rfl, Nat.zero_le _, HS.out⟩
  case round =>
    clear HS
    obtain ⟨i, M, v, ls, rfl, hi, hS⟩ := hrel
    have HS := Lib.hid hS
    clear hS
    by_cases hlt : i < len
    · have hi0 : (0 : Int) ≤ (i : Int) := by omega
      have hi1 : (i : Int) < (len : Int) := by omega
      obtain ⟨b9, off, hAq, hbl, hcs⟩ := HQ.out.cells (by omega)
      have hat := hcs i (by have := HQ.out.many; omega)
      have hqok := HQ.out.keys _ (List.getElem_mem (h := (by have := HQ.out.many; omega : i < ops.length)))
      generalize ops[i]'(by have := HQ.out.many; omega) = o at hat hqok
      subst hAq
      clear hcs
      obtain ⟨kd, who, ⟨kc, kf, ks⟩, sd, ac, ep, nn⟩ := o
      have HSA : Hid (∀ V, Below w1.heap.size w1 V → OpAt V b9 off i (Op9.mk kd who ⟨kc, kf, ks⟩ sd ac ep nn)) := Lib.hid fun V hb => (hat.keep (HB1.out.1.block b9 hbl)).keep (hb.block b9 (Nat.lt_of_lt_of_le hbl HB1.out.1.size))
      have HOk := Lib.hid hqok
      have HBl : Hid (b9 < w1.heap.size) := Lib.hid (Nat.lt_of_lt_of_le hbl HB1.out.1.size)
      clear hat hqok hbl
      go_upto_region 12 with fail
      refine wp_region_held_drew (S := fun V => OpAt V b9 off i (Op9.mk kd who ⟨kc, kf, ks⟩ sd ac ep nn)) (by kernel_rfl) (HSA.out _ HS.out.bel.drew) (fun hHeld => ?_)
      refine wpAnyH_take (i := 0) (oi := _) (v := ?_) rfl (by kernel_rfl) (by kernel_rfl) (by kernel_rfl) (fun _ _ _ h => h) (Or.inl ⟨by rfl, ?_⟩) (by assumption) ?_
      rotate_left
      · (intro V hSw; go_simp; try with_reducible rfl)
      try simp only [Act.put, List.getElem_toArray, List.getElem_cons_zero, List.setIfInBounds_toArray, List.set_cons_zero, List.set_cons_succ]
      refine wpAnyH_take (i := 1) (oi := _) (v := ?_) rfl (by kernel_rfl) (by kernel_rfl) (by kernel_rfl) (fun _ _ _ h => h) (Or.inl ⟨by rfl, ?_⟩) (by assumption) ?_
      rotate_left
      · (intro V hSw; go_simp; try with_reducible rfl)
      try simp only [Act.put, List.getElem_toArray, List.getElem_cons_succ, List.getElem_cons_zero, List.setIfInBounds_toArray, List.set_cons_zero, List.set_cons_succ]
      refine wpAnyH_take (i := 2) (oi := _) (v := ?_) rfl (by kernel_rfl) (by kernel_rfl) (by kernel_rfl) (fun _ _ _ h => h) (Or.inl ⟨by rfl, ?_⟩) (by assumption) ?_
      rotate_left
      · (intro V hSw; go_simp; try with_reducible rfl)
      try simp only [Act.put, List.getElem_toArray, List.getElem_cons_succ, List.getElem_cons_zero, List.setIfInBounds_toArray, List.set_cons_zero, List.set_cons_succ]
      refine wpAnyH_take (i := 3) (oi := _) (v := ?_) rfl (by kernel_rfl) (by kernel_rfl) (by kernel_rfl) (fun _ _ _ h => h) (Or.inl ⟨by rfl, ?_⟩) (by assumption) ?_
      rotate_left
      · (intro V hSw; go_simp; try with_reducible rfl)
      try simp only [Act.put, List.getElem_toArray, List.getElem_cons_succ, List.getElem_cons_zero, List.setIfInBounds_toArray, List.set_cons_zero, List.set_cons_succ]
      refine wpAnyH_take (i := 4) (oi := _) (v := ?_) rfl (by kernel_rfl) (by kernel_rfl) (by kernel_rfl) (fun _ _ _ h => h) (Or.inl ⟨by rfl, ?_⟩) (by assumption) ?_
      rotate_left
      · (intro V hSw; have q0 : V.cell? ⟨b9, off + i * 9, none⟩ = some (.int .i64 kd) := hSw 0 (by decide); have q1 : V.cell? ⟨b9, off + i * 9 + 1, none⟩ = some (.int .i64 who) := hSw 1 (by decide); have q2 : V.cell? ⟨b9, off + i * 9 + 2, none⟩ = some (.int .i64 kc) := hSw 2 (by decide); have q3 : V.cell? ⟨b9, off + i * 9 + 3, none⟩ = some (.int .i64 kf) := hSw 3 (by decide); have q4 : V.cell? ⟨b9, off + i * 9 + 4, none⟩ = some (.int .u64 ks) := hSw 4 (by decide); have q5 : V.cell? ⟨b9, off + i * 9 + 5, none⟩ = some (.int .i64 sd) := hSw 5 (by decide); have q6 : V.cell? ⟨b9, off + i * 9 + 6, none⟩ = some (.int .i64 ac) := hSw 6 (by decide); have q7 : V.cell? ⟨b9, off + i * 9 + 7, none⟩ = some (.int .u64 ep) := hSw 7 (by decide); have q8 : V.cell? ⟨b9, off + i * 9 + 8, none⟩ = some (.int .u64 nn) := hSw 8 (by decide); clear hSw; go_simp; try with_reducible rfl)
      try simp only [Act.put, List.getElem_toArray, List.getElem_cons_succ, List.getElem_cons_zero, List.setIfInBounds_toArray, List.set_cons_zero, List.set_cons_succ]
      refine wpAnyH_take (i := 6) (oi := _) (v := ?_) rfl (by kernel_rfl) (by kernel_rfl) (by kernel_rfl) (fun _ _ _ h => h) (Or.inl ⟨by rfl, ?_⟩) (by assumption) ?_
      rotate_left
      · (intro V hSw; go_simp; try with_reducible rfl)
      try simp only [Act.put, List.getElem_toArray, List.getElem_cons_succ, List.getElem_cons_zero, List.setIfInBounds_toArray, List.set_cons_zero, List.set_cons_succ]
      refine wpAnyH_take (i := 7) (oi := _) (v := ?_) rfl (by kernel_rfl) (by kernel_rfl) (by kernel_rfl) (fun _ _ _ h => h) (Or.inl ⟨by rfl, ?_⟩) (by assumption) ?_
      rotate_left
      · (intro V hSw; go_simp; try with_reducible rfl)
      try simp only [Act.put, List.getElem_toArray, List.getElem_cons_succ, List.getElem_cons_zero, List.setIfInBounds_toArray, List.set_cons_zero, List.set_cons_succ]
      refine wpAnyH_take (i := 8) (oi := _) (v := ?_) rfl (by kernel_rfl) (by kernel_rfl) (by kernel_rfl) (fun _ _ _ h => h) (Or.inl ⟨by rfl, ?_⟩) (by assumption) ?_
      rotate_left
      · (intro V hSw; go_simp; try with_reducible rfl)
      try simp only [Act.put, List.getElem_toArray, List.getElem_cons_succ, List.getElem_cons_zero, List.setIfInBounds_toArray, List.set_cons_zero, List.set_cons_succ]
      refine wpAnyH_take (i := 9) (oi := _) (v := ?_) rfl (by kernel_rfl) (by kernel_rfl) (by kernel_rfl) (fun _ _ _ h => h) (Or.inl ⟨by rfl, ?_⟩) (by assumption) ?_
      rotate_left
      · (intro V hSw; go_simp; try with_reducible rfl)
      try simp only [Act.put, List.getElem_toArray, List.getElem_cons_succ, List.getElem_cons_zero, List.setIfInBounds_toArray, List.set_cons_zero, List.set_cons_succ]
      refine wpAnyH_take (i := 10) (oi := _) (v := ?_) rfl (by kernel_rfl) (by kernel_rfl) (by kernel_rfl) (fun _ _ _ h => h) (Or.inl ⟨by rfl, ?_⟩) (by assumption) ?_
      rotate_left
      · (intro V hSw; have q0 : V.cell? ⟨b9, off + i * 9, none⟩ = some (.int .i64 kd) := hSw 0 (by decide); have q1 : V.cell? ⟨b9, off + i * 9 + 1, none⟩ = some (.int .i64 who) := hSw 1 (by decide); have q2 : V.cell? ⟨b9, off + i * 9 + 2, none⟩ = some (.int .i64 kc) := hSw 2 (by decide); have q3 : V.cell? ⟨b9, off + i * 9 + 3, none⟩ = some (.int .i64 kf) := hSw 3 (by decide); have q4 : V.cell? ⟨b9, off + i * 9 + 4, none⟩ = some (.int .u64 ks) := hSw 4 (by decide); have q5 : V.cell? ⟨b9, off + i * 9 + 5, none⟩ = some (.int .i64 sd) := hSw 5 (by decide); have q6 : V.cell? ⟨b9, off + i * 9 + 6, none⟩ = some (.int .i64 ac) := hSw 6 (by decide); have q7 : V.cell? ⟨b9, off + i * 9 + 7, none⟩ = some (.int .u64 ep) := hSw 7 (by decide); have q8 : V.cell? ⟨b9, off + i * 9 + 8, none⟩ = some (.int .u64 nn) := hSw 8 (by decide); clear hSw; go_simp; try with_reducible rfl)
      try simp only [Act.put, List.getElem_toArray, List.getElem_cons_succ, List.getElem_cons_zero, List.setIfInBounds_toArray, List.set_cons_zero, List.set_cons_succ]
      have hS1 := HS.out.drew
      obtain ⟨w5, hw5⟩ : ∃ X, X = wr.drew := ⟨_, rfl⟩
      rw [← hw5] at hS1 hHeld ⊢
      have hd := hS1.doo HY.out (Op9.mk kd who ⟨kc, kf, ks⟩ sd ac ep nn) HOk.out
      obtain ⟨r, hr⟩ : ∃ r, r = tAns (Op9.mk kd who ⟨kc, kf, ks⟩ sd ac ep nn) y.n y.room M := ⟨_, rfl⟩
      rw [← hr] at hd
      unfold Op9.val opV at hd
      unfold retV at hd
      dsimp only at hd
      have HD := Lib.hid hd
      have H5 := Lib.hid hS1
      have HRr := Lib.hid hr
      clear hw5 hS1 hd HS hr
      refine wpAnyH_ready (rs := [5]) (by kernel_rfl) (by simp) ?_
      refine AllReadyH.cons rfl (fun K hK => ?_) AllReadyH.nil
      simp only [List.getElem_toArray, List.getElem_cons_succ, List.getElem_cons_zero]
      rw [if_pos (by rfl)]
      go_simp
      refine (HD.out).mono ?_
      rintro _ w6 ⟨rfl, wt6, pt6, bel6⟩
      have hqd := tqdoo H5.out HY.out (Op9.mk kd who ⟨kc, kf, ks⟩ sd ac ep nn) HOk.out wt6 pt6 bel6
      rw [← HRr.out] at hqd
      unfold Op9.val opV at hqd
      unfold retV at hqd
      dsimp only at hqd
      have HQd := Lib.hid hqd
      have hsa6 := HSA.out _ bel6
      clear wt6 pt6 bel6 hqd HD H5
      go_wp2_with fail
      refine hK.out _ _ hsa6 (fun hHeld => ?_)
      clear hK K
      try simp only [Act.put, List.getElem_toArray, List.getElem_cons_succ, List.getElem_cons_zero, List.setIfInBounds_toArray, List.set_cons_zero, List.set_cons_succ]
      refine wpAnyH_ready (rs := [11]) (by kernel_rfl) (by simp) ?_
      refine AllReadyH.cons rfl (fun K hK => ?_) AllReadyH.nil
      simp only [List.getElem_toArray, List.getElem_cons_succ, List.getElem_cons_zero]
      rw [if_pos (by rfl)]
      go_simp
      refine (HQd.out).mono ?_
      rintro _ w7 ⟨rfl, v7, ls7, tp7⟩
      have H7 := Lib.hid tp7
      have hsa7 := HSA.out _ tp7.bel
      clear tp7 HQd HRr
      go_wp2_with fail
      refine hK.out _ _ hsa7 (fun hHeld => ?_)
      clear hK K
      try simp only [Act.put, List.getElem_toArray, List.getElem_cons_succ, List.getElem_cons_zero, List.setIfInBounds_toArray, List.set_cons_zero, List.set_cons_succ]
      refine wpAnyH_take (i := 12) (oi := _) (v := ?_) rfl (by kernel_rfl) (by kernel_rfl) (by kernel_rfl) (fun _ _ _ h => h) (Or.inl ⟨by rfl, ?_⟩) (by assumption) ?_
      rotate_left
      · (intro V hSw; clear hSw; have hne := fun W => ne_rt r 0 0 0 W; go_simp; try with_reducible rfl)
      try simp only [Act.put, List.getElem_toArray, List.getElem_cons_succ, List.getElem_cons_zero, List.setIfInBounds_toArray, List.set_cons_zero, List.set_cons_succ]
      refine wpAnyH_done (by kernel_rfl) ?_ _
      clear hHeld hsa6
      generalize tMaps (Op9.mk kd who ⟨kc, kf, ks⟩ sd ac ep nn) y.n y.room M = M7 at H7
      have hget := H7.out.get HY.out ⟨kc, kf, ks⟩ HOk.out
      obtain ⟨e, he⟩ : ∃ e, e = (entM ⟨kc, kf, ks⟩ (M7 (own y.n ⟨kc, kf, ks⟩)).1).getD en0 := ⟨_, rfl⟩
      obtain ⟨bb, hbb⟩ : ∃ b, b = (entM ⟨kc, kf, ks⟩ (M7 (own y.n ⟨kc, kf, ks⟩)).1).isSome := ⟨_, rfl⟩
      rw [← he, ← hbb] at hget
      obtain ⟨⟨xc, xf, xs⟩, xt, xo⟩ := e
      unfold K3.val En.cells at hget
      dsimp only at hget
      have HGet := Lib.hid hget
      have HE := Lib.hid (And.intro he hbb)
      clear hget he hbb
      have q0 : w7.cell? ⟨b9, off + i * 9, none⟩ = some (.int .i64 kd) := hsa7 0 (by decide)
      have q1 : w7.cell? ⟨b9, off + i * 9 + 1, none⟩ = some (.int .i64 who) := hsa7 1 (by decide)
      have q2 : w7.cell? ⟨b9, off + i * 9 + 2, none⟩ = some (.int .i64 kc) := hsa7 2 (by decide)
      have q3 : w7.cell? ⟨b9, off + i * 9 + 3, none⟩ = some (.int .i64 kf) := hsa7 3 (by decide)
      have q4 : w7.cell? ⟨b9, off + i * 9 + 4, none⟩ = some (.int .u64 ks) := hsa7 4 (by decide)
      have q5 : w7.cell? ⟨b9, off + i * 9 + 5, none⟩ = some (.int .i64 sd) := hsa7 5 (by decide)
      have q6 : w7.cell? ⟨b9, off + i * 9 + 6, none⟩ = some (.int .i64 ac) := hsa7 6 (by decide)
      have q7 : w7.cell? ⟨b9, off + i * 9 + 7, none⟩ = some (.int .u64 ep) := hsa7 7 (by decide)
      have q8 : w7.cell? ⟨b9, off + i * 9 + 8, none⟩ = some (.int .u64 nn) := hsa7 8 (by decide)
      clear hsa7
      go_wp2_with fail
      refine HGet.out.mono ?_
      rintro _ w8 ⟨rfl, tp8, r8⟩
      have bx8 : Below w8.heap.size w8 (w8.alloc (.cells #[.int .i64 xc, .int .i64 xf, .int .u64 xs, .int .i64 xt, .int .i64 xo] TEn)) := (Below.refl _ _).alloc (Nat.le_refl _) _
      have hx8 := heap_alloc_new w8 (.cells #[.int .i64 xc, .int .i64 xf, .int .u64 xs, .int .i64 xt, .int .i64 xo] TEn)
      have tp9 := tp8.below HY.out bx8
      obtain ⟨B1, hB1⟩ : ∃ b, b = w8.heap.size := ⟨_, rfl⟩
      have hB1h : y.hi ≤ B1 := by rw [hB1]; exact tp8.hiV
      obtain ⟨w9, hw9⟩ : ∃ X, X = w8.alloc (.cells #[.int .i64 xc, .int .i64 xf, .int .u64 xs, .int .i64 xt, .int .i64 xo] TEn) := ⟨_, rfl⟩
      rw [← hw9, ← hB1] at hx8
      rw [← hw9] at tp9
      have H9 := Lib.hid (And.intro tp9 (And.intro hx8 hB1h))
      have hqget := tp9.qget HY.out ⟨kc, kf, ks⟩ HOk.out
      rw [← HE.out.1, ← HE.out.2] at hqget
      unfold K3.val En.cells at hqget
      dsimp only at hqget
      have HQGet := Lib.hid hqget
      have hsa9 := HSA.out _ tp9.bel
      clear q0 q1 q2 q3 q4 q5 q6 q7 q8 tp8 r8 bx8 hx8 tp9 hqget HGet H7 HE
      go_upto_region 15 with fail
      rw [← hw9, ← hB1]
      clear hw9 hB1 hB1h
      have q0 : w9.cell? ⟨b9, off + i * 9, none⟩ = some (.int .i64 kd) := hsa9 0 (by decide)
      have q1 : w9.cell? ⟨b9, off + i * 9 + 1, none⟩ = some (.int .i64 who) := hsa9 1 (by decide)
      have q2 : w9.cell? ⟨b9, off + i * 9 + 2, none⟩ = some (.int .i64 kc) := hsa9 2 (by decide)
      have q3 : w9.cell? ⟨b9, off + i * 9 + 3, none⟩ = some (.int .i64 kf) := hsa9 3 (by decide)
      have q4 : w9.cell? ⟨b9, off + i * 9 + 4, none⟩ = some (.int .u64 ks) := hsa9 4 (by decide)
      have q5 : w9.cell? ⟨b9, off + i * 9 + 5, none⟩ = some (.int .i64 sd) := hsa9 5 (by decide)
      have q6 : w9.cell? ⟨b9, off + i * 9 + 6, none⟩ = some (.int .i64 ac) := hsa9 6 (by decide)
      have q7 : w9.cell? ⟨b9, off + i * 9 + 7, none⟩ = some (.int .u64 ep) := hsa9 7 (by decide)
      have q8 : w9.cell? ⟨b9, off + i * 9 + 8, none⟩ = some (.int .u64 nn) := hsa9 8 (by decide)
      clear hsa9
      go_wp2_with fail
      refine HQGet.out.mono ?_
      rintro _ w10 ⟨rfl, b10⟩
      have tp10 := H9.out.1.below HY.out b10
      have hx10 := kpT b10 H9.out.2.1
      have bx10 : Below w10.heap.size w10 (w10.alloc (.cells #[.int .i64 xc, .int .i64 xf, .int .u64 xs, .int .i64 xt, .int .i64 xo] TEn)) := (Below.refl _ _).alloc (Nat.le_refl _) _
      have hy10 := heap_alloc_new w10 (.cells #[.int .i64 xc, .int .i64 xf, .int .u64 xs, .int .i64 xt, .int .i64 xo] TEn)
      have tp11 := tp10.below HY.out bx10
      have hx11 := kpT bx10 hx10
      obtain ⟨B2, hB2⟩ : ∃ b, b = w10.heap.size := ⟨_, rfl⟩
      have hB2h : y.hi ≤ B2 := by rw [hB2]; exact tp10.hiV
      obtain ⟨w11, hw11⟩ : ∃ X, X = w10.alloc (.cells #[.int .i64 xc, .int .i64 xf, .int .u64 xs, .int .i64 xt, .int .i64 xo] TEn) := ⟨_, rfl⟩
      rw [← hw11, ← hB2] at hy10
      rw [← hw11] at tp11 hx11
      have H11 := Lib.hid (And.intro tp11 (And.intro hx11 (And.intro H9.out.2.2 (And.intro hy10 hB2h))))
      clear q0 q1 q2 q3 q4 q5 q6 q7 q8 b10 tp10 hx10 bx10 hy10 tp11 hx11 HQGet H9
      go_upto_region 16 with fail
      rw [← hw11, ← hB2]
      clear hw11 hB2 hB2h
      have hbn : (bb != bb) = false := by simp
      refine wp_region_held_drew (S := fun V => OpAt V b9 off i (Op9.mk kd who ⟨kc, kf, ks⟩ sd ac ep nn) ∧ V.heap[B1]? = some (.cells #[.int .i64 xc, .int .i64 xf, .int .u64 xs, .int .i64 xt, .int .i64 xo] TEn (0, 0)) ∧ V.heap[B2]? = some (.cells #[.int .i64 xc, .int .i64 xf, .int .u64 xs, .int .i64 xt, .int .i64 xo] TEn (0, 0))) (by kernel_rfl) ⟨HSA.out _ H11.out.1.bel.drew, H11.out.2.1, H11.out.2.2.2.1⟩ (fun hHeld => ?_)
      refine wpAnyH_take (i := 0) (oi := _) (v := ?_) rfl (by kernel_rfl) (by kernel_rfl) (by kernel_rfl) (fun _ _ _ h => h) (Or.inl ⟨by rfl, ?_⟩) (by assumption) ?_
      rotate_left
      · (intro V hSw; have u := fun j => cell_of_row V B1 j _ _ (0, 0) hSw.2.1; have u0 := u 0; have u1 := u 1; have u2 := u 2; have u3 := u 3; have u4 := u 4; clear u hSw; go_simp; try with_reducible rfl)
      try simp only [Act.put, List.getElem_toArray, List.getElem_cons_zero, List.setIfInBounds_toArray, List.set_cons_zero, List.set_cons_succ]
      refine wpAnyH_take (i := 1) (oi := _) (v := ?_) rfl (by kernel_rfl) (by kernel_rfl) (by kernel_rfl) (fun _ _ _ h => h) (Or.inl ⟨by rfl, ?_⟩) (by assumption) ?_
      rotate_left
      · (intro V hSw; have u := fun j => cell_of_row V B2 j _ _ (0, 0) hSw.2.2; have u0 := u 0; have u1 := u 1; have u2 := u 2; have u3 := u 3; have u4 := u 4; clear u hSw; go_simp; try with_reducible rfl)
      try simp only [Act.put, List.getElem_toArray, List.getElem_cons_succ, List.getElem_cons_zero, List.setIfInBounds_toArray, List.set_cons_zero, List.set_cons_succ]
      refine wpAnyH_take (i := 2) (oi := _) (v := ?_) rfl (by kernel_rfl) (by kernel_rfl) (by kernel_rfl) (fun _ _ _ h => h) (Or.inl ⟨by rfl, ?_⟩) (by assumption) ?_
      rotate_left
      · (intro V hSw; clear hSw; have hne := fun W => ne_en xc xf xs xt xo W; go_simp; try with_reducible rfl)
      try simp only [Act.put, List.getElem_toArray, List.getElem_cons_succ, List.getElem_cons_zero, List.setIfInBounds_toArray, List.set_cons_zero, List.set_cons_succ]
      refine wpAnyH_take (i := 3) (oi := _) (v := ?_) rfl (by kernel_rfl) (by kernel_rfl) (by kernel_rfl) (fun _ _ _ h => h) (Or.inl ⟨by rfl, ?_⟩) (by assumption) ?_
      rotate_left
      · (intro V hSw; clear hSw; go_simp; try with_reducible rfl)
      try simp only [Act.put, List.getElem_toArray, List.getElem_cons_succ, List.getElem_cons_zero, List.setIfInBounds_toArray, List.set_cons_zero, List.set_cons_succ]
      refine wpAnyH_take (i := 4) (oi := _) (v := ?_) rfl (by kernel_rfl) (by kernel_rfl) (by kernel_rfl) (fun _ _ _ h => h) (Or.inl ⟨by rfl, ?_⟩) (by assumption) ?_
      rotate_left
      · (intro V hSw; clear hSw; go_simp; try with_reducible rfl)
      try simp only [Act.put, List.getElem_toArray, List.getElem_cons_succ, List.getElem_cons_zero, List.setIfInBounds_toArray, List.set_cons_zero, List.set_cons_succ]
      refine wpAnyH_take (i := 5) (oi := _) (v := ?_) rfl (by kernel_rfl) (by kernel_rfl) (by kernel_rfl) (fun _ _ _ h => h) (Or.inl ⟨by rfl, ?_⟩) (by assumption) ?_
      rotate_left
      · (intro V hSw; clear hSw; go_simp; try with_reducible rfl)
      try simp only [Act.put, List.getElem_toArray, List.getElem_cons_succ, List.getElem_cons_zero, List.setIfInBounds_toArray, List.set_cons_zero, List.set_cons_succ]
      refine wpAnyH_take (i := 6) (oi := _) (v := ?_) rfl (by kernel_rfl) (by kernel_rfl) (by kernel_rfl) (fun _ _ _ h => h) (Or.inl ⟨by rfl, ?_⟩) (by assumption) ?_
      rotate_left
      · (intro V hSw; clear hSw; go_simp; try with_reducible rfl)
      try simp only [Act.put, List.getElem_toArray, List.getElem_cons_succ, List.getElem_cons_zero, List.setIfInBounds_toArray, List.set_cons_zero, List.set_cons_succ]
      refine wpAnyH_take (i := 7) (oi := _) (v := ?_) rfl (by kernel_rfl) (by kernel_rfl) (by kernel_rfl) (fun _ _ _ h => h) (Or.inl ⟨by rfl, ?_⟩) (by assumption) ?_
      rotate_left
      · (intro V hSw; clear hSw; go_simp; try with_reducible rfl)
      try simp only [Act.put, List.getElem_toArray, List.getElem_cons_succ, List.getElem_cons_zero, List.setIfInBounds_toArray, List.set_cons_zero, List.set_cons_succ]
      refine wpAnyH_take (i := 8) (oi := _) (v := ?_) rfl (by kernel_rfl) (by kernel_rfl) (by kernel_rfl) (fun _ _ _ h => h) (Or.inl ⟨by rfl, ?_⟩) (by assumption) ?_
      rotate_left
      · (intro V hSw; clear hSw; go_simp; try with_reducible rfl)
      try simp only [Act.put, List.getElem_toArray, List.getElem_cons_succ, List.getElem_cons_zero, List.setIfInBounds_toArray, List.set_cons_zero, List.set_cons_succ]
      refine wpAnyH_take (i := 9) (oi := _) (v := ?_) rfl (by kernel_rfl) (by kernel_rfl) (by kernel_rfl) (fun _ _ _ h => h) (Or.inl ⟨by rfl, ?_⟩) (by assumption) ?_
      rotate_left
      · (intro V hSw; clear hSw; go_simp; try with_reducible rfl)
      try simp only [Act.put, List.getElem_toArray, List.getElem_cons_succ, List.getElem_cons_zero, List.setIfInBounds_toArray, List.set_cons_zero, List.set_cons_succ]
      refine wpAnyH_take (i := 10) (oi := _) (v := ?_) rfl (by kernel_rfl) (by kernel_rfl) (by kernel_rfl) (fun _ _ _ h => h) (Or.inl ⟨by rfl, ?_⟩) (by assumption) ?_
      rotate_left
      · (intro V hSw; clear hSw; go_simp; try with_reducible rfl)
      try simp only [Act.put, List.getElem_toArray, List.getElem_cons_succ, List.getElem_cons_zero, List.setIfInBounds_toArray, List.set_cons_zero, List.set_cons_succ]
      refine wpAnyH_take (i := 11) (oi := _) (v := ?_) rfl (by kernel_rfl) (by kernel_rfl) (by kernel_rfl) (fun _ _ _ h => h) (Or.inl ⟨by rfl, ?_⟩) (by assumption) ?_
      rotate_left
      · (intro V hSw; clear hSw; go_simp; try with_reducible rfl)
      try simp only [Act.put, List.getElem_toArray, List.getElem_cons_succ, List.getElem_cons_zero, List.setIfInBounds_toArray, List.set_cons_zero, List.set_cons_succ]
      refine wpAnyH_take (i := 12) (oi := _) (v := ?_) rfl (by kernel_rfl) (by kernel_rfl) (by kernel_rfl) (fun _ _ _ h => h) (Or.inl ⟨by rfl, ?_⟩) (by assumption) ?_
      rotate_left
      · (intro V hSw; clear hSw; go_simp; try with_reducible rfl)
      try simp only [Act.put, List.getElem_toArray, List.getElem_cons_succ, List.getElem_cons_zero, List.setIfInBounds_toArray, List.set_cons_zero, List.set_cons_succ]
      refine wpAnyH_take (i := 13) (oi := _) (v := ?_) rfl (by kernel_rfl) (by kernel_rfl) (by kernel_rfl) (fun _ _ _ h => h) (Or.inl ⟨by rfl, ?_⟩) (by assumption) ?_
      rotate_left
      · (intro V hSw; clear hSw; go_simp; try with_reducible rfl)
      try simp only [Act.put, List.getElem_toArray, List.getElem_cons_succ, List.getElem_cons_zero, List.setIfInBounds_toArray, List.set_cons_zero, List.set_cons_succ]
      refine wpAnyH_take (i := 14) (oi := _) (v := ?_) rfl (by kernel_rfl) (by kernel_rfl) (by kernel_rfl) (fun _ _ _ h => h) (Or.inl ⟨by rfl, ?_⟩) (by assumption) ?_
      rotate_left
      · (intro V hSw; have q1 : V.cell? ⟨b9, off + i * 9 + 1, none⟩ = some (.int .i64 who) := hSw.1 1 (by decide); clear hSw; go_simp; try with_reducible rfl)
      try simp only [Act.put, List.getElem_toArray, List.getElem_cons_succ, List.getElem_cons_zero, List.setIfInBounds_toArray, List.set_cons_zero, List.set_cons_succ]
      refine wpAnyH_take (i := 16) (oi := _) (v := ?_) rfl (by kernel_rfl) (by kernel_rfl) (by kernel_rfl) (fun _ _ _ h => h) (Or.inl ⟨by rfl, ?_⟩) (by assumption) ?_
      rotate_left
      · (intro V hSw; clear hSw; go_simp; try with_reducible rfl)
      try simp only [Act.put, List.getElem_toArray, List.getElem_cons_succ, List.getElem_cons_zero, List.setIfInBounds_toArray, List.set_cons_zero, List.set_cons_succ]
      refine wpAnyH_take (i := 17) (oi := _) (v := ?_) rfl (by kernel_rfl) (by kernel_rfl) (by kernel_rfl) (fun _ _ _ h => h) (Or.inl ⟨by rfl, ?_⟩) (by assumption) ?_
      rotate_left
      · (intro V hSw; clear hSw; go_simp; try with_reducible rfl)
      try simp only [Act.put, List.getElem_toArray, List.getElem_cons_succ, List.getElem_cons_zero, List.setIfInBounds_toArray, List.set_cons_zero, List.set_cons_succ]
      refine wpAnyH_take (i := 18) (oi := _) (v := ?_) rfl (by kernel_rfl) (by kernel_rfl) (by kernel_rfl) (fun _ _ _ h => h) (Or.inl ⟨by rfl, ?_⟩) (by assumption) ?_
      rotate_left
      · (intro V hSw; clear hSw; go_simp; try with_reducible rfl)
      try simp only [Act.put, List.getElem_toArray, List.getElem_cons_succ, List.getElem_cons_zero, List.setIfInBounds_toArray, List.set_cons_zero, List.set_cons_succ]
      refine wpAnyH_take (i := 19) (oi := _) (v := ?_) rfl (by kernel_rfl) (by kernel_rfl) (by kernel_rfl) (fun _ _ _ h => h) (Or.inl ⟨by rfl, ?_⟩) (by assumption) ?_
      rotate_left
      · (intro V hSw; clear hSw; go_simp; try with_reducible rfl)
      try simp only [Act.put, List.getElem_toArray, List.getElem_cons_succ, List.getElem_cons_zero, List.setIfInBounds_toArray, List.set_cons_zero, List.set_cons_succ]
      refine wpAnyH_take (i := 20) (oi := _) (v := ?_) rfl (by kernel_rfl) (by kernel_rfl) (by kernel_rfl) (fun _ _ _ h => h) (Or.inl ⟨by rfl, ?_⟩) (by assumption) ?_
      rotate_left
      · (intro V hSw; clear hSw; go_simp; try with_reducible rfl)
      try simp only [Act.put, List.getElem_toArray, List.getElem_cons_succ, List.getElem_cons_zero, List.setIfInBounds_toArray, List.set_cons_zero, List.set_cons_succ]
      refine wpAnyH_take (i := 21) (oi := _) (v := ?_) rfl (by kernel_rfl) (by kernel_rfl) (by kernel_rfl) (fun _ _ _ h => h) (Or.inl ⟨by rfl, ?_⟩) (by assumption) ?_
      rotate_left
      · (intro V hSw; have q1 : V.cell? ⟨b9, off + i * 9 + 1, none⟩ = some (.int .i64 who) := hSw.1 1 (by decide); clear hSw; go_simp; try with_reducible rfl)
      try simp only [Act.put, List.getElem_toArray, List.getElem_cons_succ, List.getElem_cons_zero, List.setIfInBounds_toArray, List.set_cons_zero, List.set_cons_succ]
      have tp12 := H11.out.1.drew
      obtain ⟨w12, hw12⟩ : ∃ X, X = w11.drew := ⟨_, rfl⟩
      have hB12 : w12.heap[B1]? = some (.cells #[.int .i64 xc, .int .i64 xf, .int .u64 xs, .int .i64 xt, .int .i64 xo] TEn (0, 0)) ∧ w12.heap[B2]? = some (.cells #[.int .i64 xc, .int .i64 xf, .int .u64 xs, .int .i64 xt, .int .i64 xo] TEn (0, 0)) := by rw [hw12]; exact ⟨H11.out.2.1, H11.out.2.2.2.1⟩
      rw [← hw12] at tp12 hHeld ⊢
      have HOw := Lib.hid (tp12.owned HY.out who)
      have H12 := Lib.hid (And.intro hB12 (And.intro H11.out.2.2.1 H11.out.2.2.2.2))
      clear hw12 tp12 hB12 H11
      refine wpAnyH_ready (rs := [15]) (by kernel_rfl) (by simp) ?_
      refine AllReadyH.cons rfl (fun K hK => ?_) AllReadyH.nil
      simp only [List.getElem_toArray, List.getElem_cons_succ, List.getElem_cons_zero]
      rw [if_pos (by rfl)]
      go_simp
      refine (HOw.out).mono ?_
      rintro _ w13 ⟨v13, rfl, ow13, tp13, r13⟩
      have hB13 : w13.heap[B1]? = some (.cells #[.int .i64 xc, .int .i64 xf, .int .u64 xs, .int .i64 xt, .int .i64 xo] TEn (0, 0)) ∧ w13.heap[B2]? = some (.cells #[.int .i64 xc, .int .i64 xf, .int .u64 xs, .int .i64 xt, .int .i64 xo] TEn (0, 0)) := ⟨(r13.block B1 (lt_blkC H12.out.1.1) (Or.inr H12.out.2.1)).trans H12.out.1.1, (r13.block B2 (lt_blkC H12.out.1.2) (Or.inr H12.out.2.2)).trans H12.out.1.2⟩
      have hS13 := And.intro (HSA.out _ tp13.bel) hB13
      have HQo := Lib.hid (tp13.qowned HY.out who)
      have H13 := Lib.hid (And.intro tp13 (And.intro hB13 ow13))
      clear ow13 tp13 r13 hB13 HOw H12
      go_wp2_with fail
      refine hK.out _ _ hS13 (fun hHeld => ?_)
      clear hK K
      try simp only [Act.put, List.getElem_toArray, List.getElem_cons_succ, List.getElem_cons_zero, List.setIfInBounds_toArray, List.set_cons_zero, List.set_cons_succ]
      refine wpAnyH_ready (rs := [22]) (by kernel_rfl) (by simp) ?_
      refine AllReadyH.cons rfl (fun K hK => ?_) AllReadyH.nil
      simp only [List.getElem_toArray, List.getElem_cons_succ, List.getElem_cons_zero]
      rw [if_pos (by rfl)]
      go_simp
      refine (HQo.out).mono ?_
      rintro _ w14 ⟨v14, rfl, ow14, b14⟩
      have tp14 := H13.out.1.below HY.out b14
      have hB14 : w14.heap[B1]? = some (.cells #[.int .i64 xc, .int .i64 xf, .int .u64 xs, .int .i64 xt, .int .i64 xo] TEn (0, 0)) ∧ w14.heap[B2]? = some (.cells #[.int .i64 xc, .int .i64 xf, .int .u64 xs, .int .i64 xt, .int .i64 xo] TEn (0, 0)) := ⟨kpT b14 H13.out.2.1.1, kpT b14 H13.out.2.1.2⟩
      have hS14 := And.intro (HSA.out _ tp14.bel) hB14
      have ow13 := own_sameT H13.out.2.2 fun j hj => b14.block j (H13.out.2.2.lt j hj).2
      have HSk := Lib.hid (same_keys _ _ _ _ (keysOf who (srtL ls7 y.n)) w14 (by
        have h1 := tp14.srt_len HY.out
        unfold keysOf
        rw [List.length_map]
        exact Nat.le_trans (List.length_filter_le _ _) h1) ow13 ow14)
      have H14 := Lib.hid (And.intro tp14 hB14)
      clear ow13 ow14 tp14 b14 hB14 HQo H13
      go_wp2_with fail
      refine hK.out _ _ hS14 (fun hHeld => ?_)
      clear hK K
      try simp only [Act.put, List.getElem_toArray, List.getElem_cons_succ, List.getElem_cons_zero, List.setIfInBounds_toArray, List.set_cons_zero, List.set_cons_succ]
      refine wpAnyH_ready (rs := [23]) (by kernel_rfl) (by simp) ?_
      refine AllReadyH.cons rfl (fun K hK => ?_) AllReadyH.nil
      simp only [List.getElem_toArray, List.getElem_cons_succ, List.getElem_cons_zero]
      rw [if_pos (by rfl)]
      go_simp
      refine (HSk.out).mono ?_
      rintro _ w15 ⟨rfl, b15⟩
      have tp15 := H14.out.1.below HY.out b15
      have hS15 := And.intro (HSA.out _ tp15.bel) (And.intro (kpT b15 H14.out.2.1) (kpT b15 H14.out.2.2))
      have H15 := Lib.hid tp15
      clear tp15 b15 HSk H14
      go_wp2_with fail
      refine hK.out _ _ hS15 (fun hHeld => ?_)
      clear hK K
      try simp only [Act.put, List.getElem_toArray, List.getElem_cons_succ, List.getElem_cons_zero, List.setIfInBounds_toArray, List.set_cons_zero, List.set_cons_succ]
      refine wpAnyH_take (i := 24) (oi := _) (v := ?_) rfl (by kernel_rfl) (by kernel_rfl) (by kernel_rfl) (fun _ _ _ h => h) (Or.inl ⟨by rfl, ?_⟩) (by assumption) ?_
      rotate_left
      · (intro V hSw; clear hSw; go_simp; try with_reducible rfl)
      try simp only [Act.put, List.getElem_toArray, List.getElem_cons_succ, List.getElem_cons_zero, List.setIfInBounds_toArray, List.set_cons_zero, List.set_cons_succ]
      refine wpAnyH_take (i := 25) (oi := _) (v := ?_) rfl (by kernel_rfl) (by kernel_rfl) (by kernel_rfl) (fun _ _ _ h => h) (Or.inl ⟨by rfl, ?_⟩) (by assumption) ?_
      rotate_left
      · (intro V hSw; clear hSw; go_simp; try with_reducible rfl)
      try simp only [Act.put, List.getElem_toArray, List.getElem_cons_succ, List.getElem_cons_zero, List.setIfInBounds_toArray, List.set_cons_zero, List.set_cons_succ]
      refine wpAnyH_done (by kernel_rfl) ?_ _
      clear hHeld hS13 hS14 hS15 hbn
      go_wp2
      go_roundw
      case rel => exact ⟨i + 1, M7, v7, ls7, by go_num, hlt, H15.out⟩
      case measure => simp [intOf]; omega
    · obtain rfl : i = len := by omega
      have hii : ¬ ((i : Int) < (i : Int)) := by omega
      clear HQ
      go_wp2_with fail
      refine (awake_any _).mono ?_
      rintro _ w6 ⟨rfl, b6⟩
      have h6 := HS.out.below HY.out b6
      have HSm := Lib.hid (tsame_any h6 HY.out)
      clear b6 h6 HS
      go_wp2_with fail
      refine HSm.out.mono ?_
      rintro _ w7 ⟨rfl, h7⟩
      clear HSm
      have HC1 := Lib.hid (h7.count HY.out 1)
      clear h7
      obtain ⟨n1, hn1⟩ : ∃ m, m = cntS 1 (allE M y.n) := ⟨_, rfl⟩
      have HCn1 := Lib.hid hn1
      rw [← hn1] at HC1
      clear hn1
      go_wp2_with fail
      refine HC1.out.mono ?_
      rintro _ w8 ⟨rfl, h8⟩
      have HD1 := Lib.hid (h8.qcount HY.out 1)
      rw [← HCn1.out] at HD1
      clear h8 HC1
      go_wp2_with fail
      refine HD1.out.mono ?_
      rintro _ w9 ⟨rfl, h9⟩
      clear HD1 HCn1
      have eq1 : ((n1 : Int) == (n1 : Int)) = true := by simp
      have HC2 := Lib.hid (h9.count HY.out 2)
      clear h9
      obtain ⟨n2, hn2⟩ : ∃ m, m = cntS 2 (allE M y.n) := ⟨_, rfl⟩
      have HCn2 := Lib.hid hn2
      rw [← hn2] at HC2
      clear hn2
      go_wp2_with fail
      refine HC2.out.mono ?_
      rintro _ w10 ⟨rfl, h10⟩
      have HD2 := Lib.hid (h10.qcount HY.out 2)
      rw [← HCn2.out] at HD2
      clear h10 HC2
      go_wp2_with fail
      refine HD2.out.mono ?_
      rintro _ w11 ⟨rfl, h11⟩
      clear HD2 HCn2
      have eq2 : ((n2 : Int) == (n2 : Int)) = true := by simp
      have HC3 := Lib.hid (h11.count HY.out 3)
      clear h11
      obtain ⟨n3, hn3⟩ : ∃ m, m = cntS 3 (allE M y.n) := ⟨_, rfl⟩
      have HCn3 := Lib.hid hn3
      rw [← hn3] at HC3
      clear hn3
      go_wp2_with fail
      refine HC3.out.mono ?_
      rintro _ w12 ⟨rfl, h12⟩
      have HD3 := Lib.hid (h12.qcount HY.out 3)
      rw [← HCn3.out] at HD3
      clear h12 HC3
      go_wp2_with fail
      refine HD3.out.mono ?_
      rintro _ w13 ⟨rfl, h13⟩
      clear HD3 HCn3
      have eq3 : ((n3 : Int) == (n3 : Int)) = true := by simp
      have HO1 := Lib.hid (tsnap_out h13.wt (-1) (Or.inl (by decide)))
      have HO2 := Lib.hid (tsnap_out h13.wt (y.n : Int) (Or.inr (Int.le_refl _)))
      have hc := (h13.bel.block _ (Array.getElem?_eq_some_iff.1 HB1.out.2).1).trans HB1.out.2
      have HBe := Lib.hid (HB1.out.1.trans (h13.bel.mono HB1.out.1.size))
      have q2 := cell_of_row w13 W.heap.size 2 _ _ (0, 0) hc
      clear h13 hc
      go_wp2_with fail
      refine HO1.out.mono ?_
      rintro _ w14 ⟨rfl, hww⟩
      obtain rfl := hww.symm
      clear hww HO1
      go_wp2_with fail
      refine HO2.out.mono ?_
      rintro _ w14 ⟨rfl, hww⟩
      obtain rfl := hww.symm
      clear hww HO2 q2
      go_wp2
      go_ret
      exact ⟨rfl, HBe.out⟩
end Go.Proofs.YtlpnecmcncekcaaGreat.Mk
