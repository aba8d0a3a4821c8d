import Derived.Test.YtpkkomifenlkaaaGreatPgB
import Derived.Test.YtpkkomifenlkaaaGreatPgB
import Derived.Deep.CutBlock
import Derived.Deep.DeepCutAuto
import Derived.Test.YtpkkomifenlkaaaGreatAlLaw
/- The page's allocator: Do, by kinds. -/
namespace Go.Proofs.YtpkkomifenlkaaaGreat.Au
open Go Go.RowKit Go.MuLone
set_option linter.unusedVariables false

theorem idx_ltA {A i : Nat} {sd ac : Int} (h : idx A sd ac = some i) : i < A + A := by
  have := idx_val h
  unfold Val at this
  omega
theorem FP.off {z z' : Pz} {W V : World} {k : Nat} (f : FP z z' W V) (o : POff z k) (hk : k < W.heap.size) : POff z' k := by
  refine ⟨by rw [f.N]; exact o.n, ?_, fun e => ?_, fun e => ?_⟩
  · rcases f.Q with q | q
    · rw [q]; exact o.q
    · omega
  · rcases f.oq with q | q
    · exact o.oq (e.trans q)
    · have := q k e.symm; omega
  · rcases f.oh with q | q
    · exact o.oh (e.trans q)
    · have := q k e.symm; omega
theorem RB.start2 {base : Nat} {z : Pz} {s : Nu} {W : World} (h : PZ base W z s) (oc : Array Value) : RB base W ((W.alloc (.cells oc TOp)).alloc (.cells #[.int .i64 0, .int .u64 0, .int .u64 0, .int .u64 0] TRt)) z z s W.heap.size (W.heap.size + 1) oc TOp := by
  have hb : Below W.heap.size W ((W.alloc (.cells oc TOp)).alloc (.cells #[.int .i64 0, .int .u64 0, .int .u64 0, .int .u64 0] TRt)) := ((Below.refl _ _).alloc (Nat.le_refl _) _).alloc (by simp) _
  refine ⟨h.below hb, FP.of_below hb, (Below.heap_alloc _ _ _ (by simp)).trans (heap_alloc_new W _), ?_, by omega, by decide⟩
  have := heap_alloc_new (W.alloc (.cells oc TOp)) (.cells #[.int .i64 0, .int .u64 0, .int .u64 0, .int .u64 0] TRt)
  simpa using this
theorem RB.drew {base : Nat} {z0 z : Pz} {s : Nu} {W V : World} {P R : Nat} {oc : Array Value} {T0 : TypeId} (h : RB base W V z0 z s P R oc T0) : RB base W V.drew z0 z s P R oc T0 := h.below (Below.refl _ _).drew
section
variable {base S A : Nat} {sl v0 v1 : Value} {z : Nat → Pz} {s : Nat → Nu} {W V X : World}
set_option maxRecDepth 20000 in
set_option maxHeartbeats 2000000 in
theorem pdo_bad (kd : Int) (who kc kf ks sd ac ep nn : Int) (hb : kd < 6 ∨ 10 < kd ∨ who < 1) :
    Calls Tryz.prog 17 #[.pointer (some ⟨S, 0, none⟩), .agg #[.int .i64 kd, .int .i64 who, .int .i64 kc, .int .i64 kf, .int .u64 ks, .int .i64 sd, .int .i64 ac, .int .u64 ep, .int .u64 nn]] W fun e w' => e = .returned (rt 1 0 0 0) ∧ Below W.heap.size W w' := by
  unfold rt
  have hop : ((W.alloc (.cells #[.int .i64 kd, .int .i64 who, .int .i64 kc, .int .i64 kf, .int .u64 ks, .int .i64 sd, .int .i64 ac, .int .u64 ep, .int .u64 nn] TOp)).alloc (.cells #[.int .i64 0, .int .u64 0, .int .u64 0, .int .u64 0] TRt)).heap[W.heap.size]? = some (.cells #[.int .i64 kd, .int .i64 who, .int .i64 kc, .int .i64 kf, .int .u64 ks, .int .i64 sd, .int .i64 ac, .int .u64 ep, .int .u64 nn] TOp (0, 0)) := (Below.heap_alloc _ _ _ (by simp)).trans (heap_alloc_new W _)
  have hrt := heap_alloc_new (W.alloc (.cells #[.int .i64 kd, .int .i64 who, .int .i64 kc, .int .i64 kf, .int .u64 ks, .int .i64 sd, .int .i64 ac, .int .u64 ep, .int .u64 nn] TOp)) (.cells #[.int .i64 0, .int .u64 0, .int .u64 0, .int .u64 0] TRt)
  have hsz : (W.alloc (.cells #[.int .i64 kd, .int .i64 who, .int .i64 kc, .int .i64 kf, .int .u64 ks, .int .i64 sd, .int .i64 ac, .int .u64 ep, .int .u64 nn] TOp)).heap.size = W.heap.size + 1 := by simp
  rw [hsz] at hrt
  have b0 : Below W.heap.size W ((W.alloc (.cells #[.int .i64 kd, .int .i64 who, .int .i64 kc, .int .i64 kf, .int .u64 ks, .int .i64 sd, .int .i64 ac, .int .u64 ep, .int .u64 nn] TOp)).alloc (.cells #[.int .i64 0, .int .u64 0, .int .u64 0, .int .u64 0] TRt)) := ((Below.refl _ _).alloc (Nat.le_refl _) _).alloc (by simp) _
  obtain ⟨w0, hw0⟩ : ∃ X, X = (W.alloc (.cells #[.int .i64 kd, .int .i64 who, .int .i64 kc, .int .i64 kf, .int .u64 ks, .int .i64 sd, .int .i64 ac, .int .u64 ep, .int .u64 nn] TOp)).alloc (.cells #[.int .i64 0, .int .u64 0, .int .u64 0, .int .u64 0] TRt) := ⟨_, rfl⟩
  rw [← hw0] at hop hrt b0
  obtain ⟨P, hP⟩ : ∃ P, P = W.heap.size := ⟨_, rfl⟩
  obtain ⟨R, hR⟩ : ∃ R, R = P + 1 := ⟨_, rfl⟩
  rw [← hP] at hop
  rw [← hP, ← hR] at hrt
  have p0 := cell_of_row w0 P 0 _ _ (0, 0) hop
  have p1 := cell_of_row w0 P 1 _ _ (0, 0) hop
  obtain ⟨r0, r1, r2, r3, rf⟩ := get4 hrt
  have hset := set4 (.int .i64 1) (.int .u64 0) (.int .u64 0) (.int .u64 0) hrt
  have hbl : Below W.heap.size W ((((w0.setCell ⟨R, 0, none⟩ (.int .i64 1)).setCell ⟨R, 1, none⟩ (.int .u64 0)).setCell ⟨R, 2, none⟩ (.int .u64 0)).setCell ⟨R, 3, none⟩ (.int .u64 0)) :=
    (((b0.setCell (by show W.heap.size ≤ R; omega) _).setCell (by show W.heap.size ≤ R; omega) _).setCell (by show W.heap.size ≤ R; omega) _).setCell (by show W.heap.size ≤ R; omega) _
  have HF := Lib.hid (And.intro hset hbl)
  clear hop hrt b0 hset hbl hsz
  rcases (show kd < 6 ∨ ¬ kd < 6 ∧ 10 < kd ∨ ¬ kd < 6 ∧ ¬ 10 < kd ∧ who < 1 by omega) with hk | ⟨hk1, hk⟩ | ⟨hk1, hk2, hk⟩
  · have d1 : decide (kd < 6) = true := decide_eq_true hk; clear hb
    go_enter Tryz.func17, Tryz.ntmps17
    go_upto_region 1 with fail
    rw [← hw0, ← hP, ← hR]
    clear hw0 hP hR
    go_wp2
    generalize ((((w0.setCell ⟨R, 0, none⟩ (.int .i64 1)).setCell ⟨R, 1, none⟩ (.int .u64 0)).setCell ⟨R, 2, none⟩ (.int .u64 0)).setCell ⟨R, 3, none⟩ (.int .u64 0)) = V4 at HF ⊢
    obtain ⟨q0, q1, q2, q3, -⟩ := get4 HF.out.1
    simp [bodyPost, results, Tryz.results17, go_sem, q0, q1, q2, q3]
    exact HF.out.2
  · have d1 : decide (kd < 6) = false := decide_eq_false hk1; have d2 : decide (10 < kd) = true := decide_eq_true hk; clear hb hk1
    go_enter Tryz.func17, Tryz.ntmps17
    go_upto_region 1 with fail
    rw [← hw0, ← hP, ← hR]
    clear hw0 hP hR
    go_wp2
    generalize ((((w0.setCell ⟨R, 0, none⟩ (.int .i64 1)).setCell ⟨R, 1, none⟩ (.int .u64 0)).setCell ⟨R, 2, none⟩ (.int .u64 0)).setCell ⟨R, 3, none⟩ (.int .u64 0)) = V4 at HF ⊢
    obtain ⟨q0, q1, q2, q3, -⟩ := get4 HF.out.1
    simp [bodyPost, results, Tryz.results17, go_sem, q0, q1, q2, q3]
    exact HF.out.2
  · have d1 : decide (kd < 6) = false := decide_eq_false hk1; have d2 : decide (10 < kd) = false := decide_eq_false hk2; have d3 : decide (who < 1) = true := decide_eq_true hk; clear hb hk1 hk2
    go_enter Tryz.func17, Tryz.ntmps17
    go_upto_region 1 with fail
    rw [← hw0, ← hP, ← hR]
    clear hw0 hP hR
    go_wp2
    generalize ((((w0.setCell ⟨R, 0, none⟩ (.int .i64 1)).setCell ⟨R, 1, none⟩ (.int .u64 0)).setCell ⟨R, 2, none⟩ (.int .u64 0)).setCell ⟨R, 3, none⟩ (.int .u64 0)) = V4 at HF ⊢
    obtain ⟨q0, q1, q2, q3, -⟩ := get4 HF.out.1
    simp [bodyPost, results, Tryz.results17, go_sem, q0, q1, q2, q3]
    exact HF.out.2
set_option maxRecDepth 20000 in
set_option maxHeartbeats 2000000 in
theorem pdo_none (kd : Int) (who kc kf ks sd ac ep nn : Int) (hk1 : 6 ≤ kd) (hk2 : kd ≤ 10) (hw : 1 ≤ who) (hi : idx A sd ac = none) (hA : A ≤ 1000000) (h : PA base W S A sl v0 v1 z s) :
    Calls Tryz.prog 17 #[.pointer (some ⟨S, 0, none⟩), .agg #[.int .i64 kd, .int .i64 who, .int .i64 kc, .int .i64 kf, .int .u64 ks, .int .i64 sd, .int .i64 ac, .int .u64 ep, .int .u64 nn]] W fun e w' => e = .returned (rt 24 0 0 0) ∧ Below W.heap.size W w' := by
  unfold rt
  have d1 : decide (kd < 6) = false := decide_eq_false (by omega)
  have d2 : decide (10 < kd) = false := decide_eq_false (by omega)
  have d3 : decide (who < 1) = false := decide_eq_false (by omega)
  have hop : ((W.alloc (.cells #[.int .i64 kd, .int .i64 who, .int .i64 kc, .int .i64 kf, .int .u64 ks, .int .i64 sd, .int .i64 ac, .int .u64 ep, .int .u64 nn] TOp)).alloc (.cells #[.int .i64 0, .int .u64 0, .int .u64 0, .int .u64 0] TRt)).heap[W.heap.size]? = some (.cells #[.int .i64 kd, .int .i64 who, .int .i64 kc, .int .i64 kf, .int .u64 ks, .int .i64 sd, .int .i64 ac, .int .u64 ep, .int .u64 nn] TOp (0, 0)) := (Below.heap_alloc _ _ _ (by simp)).trans (heap_alloc_new W _)
  have hrt := heap_alloc_new (W.alloc (.cells #[.int .i64 kd, .int .i64 who, .int .i64 kc, .int .i64 kf, .int .u64 ks, .int .i64 sd, .int .i64 ac, .int .u64 ep, .int .u64 nn] TOp)) (.cells #[.int .i64 0, .int .u64 0, .int .u64 0, .int .u64 0] TRt)
  have hsz : (W.alloc (.cells #[.int .i64 kd, .int .i64 who, .int .i64 kc, .int .i64 kf, .int .u64 ks, .int .i64 sd, .int .i64 ac, .int .u64 ep, .int .u64 nn] TOp)).heap.size = W.heap.size + 1 := by simp
  rw [hsz] at hrt
  have b0 : Below W.heap.size W ((W.alloc (.cells #[.int .i64 kd, .int .i64 who, .int .i64 kc, .int .i64 kf, .int .u64 ks, .int .i64 sd, .int .i64 ac, .int .u64 ep, .int .u64 nn] TOp)).alloc (.cells #[.int .i64 0, .int .u64 0, .int .u64 0, .int .u64 0] TRt)) := ((Below.refl _ _).alloc (Nat.le_refl _) _).alloc (by simp) _
  have h0 := h.below b0
  obtain ⟨w0, hw0⟩ : ∃ X, X = (W.alloc (.cells #[.int .i64 kd, .int .i64 who, .int .i64 kc, .int .i64 kf, .int .u64 ks, .int .i64 sd, .int .i64 ac, .int .u64 ep, .int .u64 nn] TOp)).alloc (.cells #[.int .i64 0, .int .u64 0, .int .u64 0, .int .u64 0] TRt) := ⟨_, rfl⟩
  rw [← hw0] at hop hrt b0 h0
  obtain ⟨P, hP⟩ : ∃ P, P = W.heap.size := ⟨_, rfl⟩
  obtain ⟨R, hR⟩ : ∃ R, R = P + 1 := ⟨_, rfl⟩
  rw [← hP] at hop
  rw [← hP, ← hR] at hrt
  have HIs := Lib.hid (pis_any sd ac h0 hA)
  rw [hi] at HIs
  have p0 := cell_of_row w0 P 0 _ _ (0, 0) hop
  have p1 := cell_of_row w0 P 1 _ _ (0, 0) hop
  have p5 := cell_of_row w0 P 5 _ _ (0, 0) hop
  have p6 := cell_of_row w0 P 6 _ _ (0, 0) hop
  obtain ⟨r0, r1, r2, r3, rf⟩ := get4 hrt
  have hset := set4 (.int .i64 24) (.int .u64 0) (.int .u64 0) (.int .u64 0) hrt
  have hbl : Below W.heap.size W ((((w0.setCell ⟨R, 0, none⟩ (.int .i64 24)).setCell ⟨R, 1, none⟩ (.int .u64 0)).setCell ⟨R, 2, none⟩ (.int .u64 0)).setCell ⟨R, 3, none⟩ (.int .u64 0)) :=
    (((b0.setCell (by show W.heap.size ≤ R; omega) _).setCell (by show W.heap.size ≤ R; omega) _).setCell (by show W.heap.size ≤ R; omega) _).setCell (by show W.heap.size ≤ R; omega) _
  have HF := Lib.hid (And.intro hset hbl)
  clear hop hrt b0 hset hbl hsz h h0 hk1 hk2 hw
  go_enter Tryz.func17, Tryz.ntmps17
  go_upto_region 1 with fail
  rw [← hw0, ← hP, ← hR]
  clear hw0 hP hR
  go_wp2_with fail
  refine HIs.out.mono ?_
  rintro _ w1 ⟨rfl, hww⟩
  obtain rfl := hww.symm
  clear hww HIs
  go_wp2
  generalize ((((w0.setCell ⟨R, 0, none⟩ (.int .i64 24)).setCell ⟨R, 1, none⟩ (.int .u64 0)).setCell ⟨R, 2, none⟩ (.int .u64 0)).setCell ⟨R, 3, none⟩ (.int .u64 0)) = V4 at HF ⊢
  obtain ⟨q0, q1, q2, q3, -⟩ := get4 HF.out.1
  simp [bodyPost, results, Tryz.results17, go_sem, q0, q1, q2, q3]
  exact HF.out.2
set_option maxRecDepth 20000 in
set_option maxHeartbeats 2000000 in
theorem pdo_res (who kc kf ks sd ac ep nn : Int) (i : Nat) (hA : A ≤ 1000000) (hw : 1 ≤ who) (hi : idx A sd ac = some i) (a b c d : Int) (s' : Nu) (hc : ∀ V, PZ base V (z i) (s i) → Calls Tryz.prog 39 #[.pointer (some ⟨(z i).N, 0, none⟩), .int .i64 who, .int .u64 nn] V fun e w' => e = .returned (rt a b c d) ∧ ∃ z', PZ base w' z' s' ∧ FP (z i) z' V w') (h : PA base W S A sl v0 v1 z s) :
    Calls Tryz.prog 17 #[.pointer (some ⟨S, 0, none⟩), .agg #[.int .i64 6, .int .i64 who, .int .i64 kc, .int .i64 kf, .int .u64 ks, .int .i64 sd, .int .i64 ac, .int .u64 ep, .int .u64 nn]] W fun e w' => e = .returned (rt (a) (b) (c) (d)) ∧ ∃ z', PZ base w' z' s' ∧ FP (z i) z' W w' := by
  unfold rt
  have hj := idx_ltA hi
  have b0 : Below W.heap.size W ((W.alloc (.cells #[.int .i64 6, .int .i64 who, .int .i64 kc, .int .i64 kf, .int .u64 ks, .int .i64 sd, .int .i64 ac, .int .u64 ep, .int .u64 nn] TOp)).alloc (.cells #[.int .i64 0, .int .u64 0, .int .u64 0, .int .u64 0] TRt)) := ((Below.refl _ _).alloc (Nat.le_refl _) _).alloc (by simp) _
  have h0 := h.below b0
  have hB := RB.start2 (h.it i hj) #[.int .i64 6, .int .i64 who, .int .i64 kc, .int .i64 kf, .int .u64 ks, .int .i64 sd, .int .i64 ac, .int .u64 ep, .int .u64 nn]
  obtain ⟨w0, hw0⟩ : ∃ X, X = (W.alloc (.cells #[.int .i64 6, .int .i64 who, .int .i64 kc, .int .i64 kf, .int .u64 ks, .int .i64 sd, .int .i64 ac, .int .u64 ep, .int .u64 nn] TOp)).alloc (.cells #[.int .i64 0, .int .u64 0, .int .u64 0, .int .u64 0] TRt) := ⟨_, rfl⟩
  obtain ⟨P, hP⟩ : ∃ P, P = W.heap.size := ⟨_, rfl⟩
  obtain ⟨R, hR⟩ : ∃ R, R = P + 1 := ⟨_, rfl⟩
  rw [← hw0] at h0
  rw [← hw0, ← hP, ← hR] at hB
  have HIs := Lib.hid (pis_any sd ac h0 hA)
  have HAt := Lib.hid (pat_any sd ac i h0 hi hA)
  rw [hi] at HIs
  have HB := Lib.hid hB
  have p0 := cell_of_row w0 P 0 _ _ (0, 0) (RB.op hB)
  have p1 := cell_of_row w0 P 1 _ _ (0, 0) (RB.op hB)
  have p2 := cell_of_row w0 P 2 _ _ (0, 0) (RB.op hB)
  have p3 := cell_of_row w0 P 3 _ _ (0, 0) (RB.op hB)
  have p4 := cell_of_row w0 P 4 _ _ (0, 0) (RB.op hB)
  have p5 := cell_of_row w0 P 5 _ _ (0, 0) (RB.op hB)
  have p6 := cell_of_row w0 P 6 _ _ (0, 0) (RB.op hB)
  have p7 := cell_of_row w0 P 7 _ _ (0, 0) (RB.op hB)
  have p8 := cell_of_row w0 P 8 _ _ (0, 0) (RB.op hB)
  have d3 : decide (who < 1) = false := decide_eq_false (by omega)
  have HJ := Lib.hid hj
  have HC := Lib.hid (hc w0 hB.pz)
  unfold rt at HC
  clear hc
  clear h h0 hB hi hw b0 hj
  go_enter Tryz.func17, Tryz.ntmps17
  go_upto_region 1 with fail
  rw [← hw0, ← hP, ← hR]
  clear hw0 hP hR
  go_wp2_with fail
  refine HIs.out.mono ?_
  rintro _ w1 ⟨rfl, hww⟩
  obtain rfl := hww.symm
  clear hww
  go_wp2_with fail
  refine HAt.out.mono ?_
  rintro _ w1 ⟨rfl, hww⟩
  obtain rfl := hww.symm
  clear hww HIs HAt d3
  go_wp2_with fail
  refine HC.out.mono ?_
  rintro _ w2 ⟨rfl, z2, hz, hf⟩
  have h2 := RB.turn HB.out hz hf
  have HR := Lib.hid (RB.fin h2 (.int .i64 a) (.int .u64 b) (.int .u64 c) (.int .u64 d))
  obtain ⟨r0, r1, r2, r3, rf⟩ := get4 (RB.rt h2)
  clear hz hf h2 HB HC p0 p1 p2 p3 p4 p5 p6 p7 p8
  go_wp2
  generalize ((((w2.setCell ⟨R, 0, none⟩ (.int .i64 a)).setCell ⟨R, 1, none⟩ (.int .u64 b)).setCell ⟨R, 2, none⟩ (.int .u64 c)).setCell ⟨R, 3, none⟩ (.int .u64 d)) = V4 at HR ⊢
  obtain ⟨q0, q1, q2, q3, -⟩ := get4 HR.out.1
  simp [bodyPost, results, Tryz.results17, go_sem, q0, q1, q2, q3]
  exact ⟨_, HR.out.2⟩
set_option maxRecDepth 20000 in
set_option maxHeartbeats 2000000 in
theorem pdo_top (who kc kf ks sd ac ep nn : Int) (i : Nat) (hA : A ≤ 1000000) (hw : 1 ≤ who) (hi : idx A sd ac = some i) (he : (s i).ep = 18446744073709551615) (h : PA base W S A sl v0 v1 z s) :
    Calls Tryz.prog 17 #[.pointer (some ⟨S, 0, none⟩), .agg #[.int .i64 9, .int .i64 who, .int .i64 kc, .int .i64 kf, .int .u64 ks, .int .i64 sd, .int .i64 ac, .int .u64 ep, .int .u64 nn]] W fun e w' => e = .returned (rt (11) (0) (0) (0)) ∧ ∃ z', PZ base w' z' (s i) ∧ FP (z i) z' W w' := by
  unfold rt
  have hj := idx_ltA hi
  have b0 : Below W.heap.size W ((W.alloc (.cells #[.int .i64 9, .int .i64 who, .int .i64 kc, .int .i64 kf, .int .u64 ks, .int .i64 sd, .int .i64 ac, .int .u64 ep, .int .u64 nn] TOp)).alloc (.cells #[.int .i64 0, .int .u64 0, .int .u64 0, .int .u64 0] TRt)) := ((Below.refl _ _).alloc (Nat.le_refl _) _).alloc (by simp) _
  have h0 := h.below b0
  have hB := RB.start2 (h.it i hj) #[.int .i64 9, .int .i64 who, .int .i64 kc, .int .i64 kf, .int .u64 ks, .int .i64 sd, .int .i64 ac, .int .u64 ep, .int .u64 nn]
  obtain ⟨w0, hw0⟩ : ∃ X, X = (W.alloc (.cells #[.int .i64 9, .int .i64 who, .int .i64 kc, .int .i64 kf, .int .u64 ks, .int .i64 sd, .int .i64 ac, .int .u64 ep, .int .u64 nn] TOp)).alloc (.cells #[.int .i64 0, .int .u64 0, .int .u64 0, .int .u64 0] TRt) := ⟨_, rfl⟩
  obtain ⟨P, hP⟩ : ∃ P, P = W.heap.size := ⟨_, rfl⟩
  obtain ⟨R, hR⟩ : ∃ R, R = P + 1 := ⟨_, rfl⟩
  rw [← hw0] at h0
  rw [← hw0, ← hP, ← hR] at hB
  have HIs := Lib.hid (pis_any sd ac h0 hA)
  have HAt := Lib.hid (pat_any sd ac i h0 hi hA)
  rw [hi] at HIs
  have HB := Lib.hid hB
  have p0 := cell_of_row w0 P 0 _ _ (0, 0) (RB.op hB)
  have p1 := cell_of_row w0 P 1 _ _ (0, 0) (RB.op hB)
  have p2 := cell_of_row w0 P 2 _ _ (0, 0) (RB.op hB)
  have p3 := cell_of_row w0 P 3 _ _ (0, 0) (RB.op hB)
  have p4 := cell_of_row w0 P 4 _ _ (0, 0) (RB.op hB)
  have p5 := cell_of_row w0 P 5 _ _ (0, 0) (RB.op hB)
  have p6 := cell_of_row w0 P 6 _ _ (0, 0) (RB.op hB)
  have p7 := cell_of_row w0 P 7 _ _ (0, 0) (RB.op hB)
  have p8 := cell_of_row w0 P 8 _ _ (0, 0) (RB.op hB)
  have d3 : decide (who < 1) = false := decide_eq_false (by omega)
  have HJ := Lib.hid hj
  have e0 := (PZ.cells hB.pz).1
  rw [he] at e0
  clear he
  clear h h0 hB hi hw b0 hj
  go_enter Tryz.func17, Tryz.ntmps17
  go_upto_region 1 with fail
  rw [← hw0, ← hP, ← hR]
  clear hw0 hP hR
  go_wp2_with fail
  refine HIs.out.mono ?_
  rintro _ w1 ⟨rfl, hww⟩
  obtain rfl := hww.symm
  clear hww
  go_wp2_with fail
  refine HAt.out.mono ?_
  rintro _ w1 ⟨rfl, hww⟩
  obtain rfl := hww.symm
  clear hww HIs HAt d3
  have HR := Lib.hid (RB.fin HB.out (.int .i64 11) (.int .u64 0) (.int .u64 0) (.int .u64 0))
  obtain ⟨r0, r1, r2, r3, rf⟩ := get4 (RB.rt HB.out)
  
  go_wp2
  generalize ((((w0.setCell ⟨R, 0, none⟩ (.int .i64 11)).setCell ⟨R, 1, none⟩ (.int .u64 0)).setCell ⟨R, 2, none⟩ (.int .u64 0)).setCell ⟨R, 3, none⟩ (.int .u64 0)) = V4 at HR ⊢
  obtain ⟨q0, q1, q2, q3, -⟩ := get4 HR.out.1
  simp [bodyPost, results, Tryz.results17, go_sem, q0, q1, q2, q3]
  exact ⟨_, HR.out.2⟩
set_option maxRecDepth 20000 in
set_option maxHeartbeats 2000000 in
theorem pdo_syn (who kc kf ks sd ac ep nn : Int) (i : Nat) (hA : A ≤ 1000000) (hw : 1 ≤ who) (hi : idx A sd ac = some i) (he : (s i).ep ≠ 18446744073709551615) (h0e : 0 ≤ (s i).ep) (h9e : (s i).ep ≤ 18446744073709551615) (h : PA base W S A sl v0 v1 z s) :
    Calls Tryz.prog 17 #[.pointer (some ⟨S, 0, none⟩), .agg #[.int .i64 9, .int .i64 who, .int .i64 kc, .int .i64 kf, .int .u64 ks, .int .i64 sd, .int .i64 ac, .int .u64 ep, .int .u64 nn]] W fun e w' => e = .returned (rt (0) ((s i).ep + 1) (0) (0)) ∧ ∃ z', PZ base w' z' ⟨(s i).ep + 1, nn, [], []⟩ ∧ FP (z i) z' W w' := by
  unfold rt
  have hj := idx_ltA hi
  have b0 : Below W.heap.size W ((W.alloc (.cells #[.int .i64 9, .int .i64 who, .int .i64 kc, .int .i64 kf, .int .u64 ks, .int .i64 sd, .int .i64 ac, .int .u64 ep, .int .u64 nn] TOp)).alloc (.cells #[.int .i64 0, .int .u64 0, .int .u64 0, .int .u64 0] TRt)) := ((Below.refl _ _).alloc (Nat.le_refl _) _).alloc (by simp) _
  have h0 := h.below b0
  have hB := RB.start2 (h.it i hj) #[.int .i64 9, .int .i64 who, .int .i64 kc, .int .i64 kf, .int .u64 ks, .int .i64 sd, .int .i64 ac, .int .u64 ep, .int .u64 nn]
  obtain ⟨w0, hw0⟩ : ∃ X, X = (W.alloc (.cells #[.int .i64 9, .int .i64 who, .int .i64 kc, .int .i64 kf, .int .u64 ks, .int .i64 sd, .int .i64 ac, .int .u64 ep, .int .u64 nn] TOp)).alloc (.cells #[.int .i64 0, .int .u64 0, .int .u64 0, .int .u64 0] TRt) := ⟨_, rfl⟩
  obtain ⟨P, hP⟩ : ∃ P, P = W.heap.size := ⟨_, rfl⟩
  obtain ⟨R, hR⟩ : ∃ R, R = P + 1 := ⟨_, rfl⟩
  rw [← hw0] at h0
  rw [← hw0, ← hP, ← hR] at hB
  have HIs := Lib.hid (pis_any sd ac h0 hA)
  have HAt := Lib.hid (pat_any sd ac i h0 hi hA)
  rw [hi] at HIs
  have HB := Lib.hid hB
  have p0 := cell_of_row w0 P 0 _ _ (0, 0) (RB.op hB)
  have p1 := cell_of_row w0 P 1 _ _ (0, 0) (RB.op hB)
  have p2 := cell_of_row w0 P 2 _ _ (0, 0) (RB.op hB)
  have p3 := cell_of_row w0 P 3 _ _ (0, 0) (RB.op hB)
  have p4 := cell_of_row w0 P 4 _ _ (0, 0) (RB.op hB)
  have p5 := cell_of_row w0 P 5 _ _ (0, 0) (RB.op hB)
  have p6 := cell_of_row w0 P 6 _ _ (0, 0) (RB.op hB)
  have p7 := cell_of_row w0 P 7 _ _ (0, 0) (RB.op hB)
  have p8 := cell_of_row w0 P 8 _ _ (0, 0) (RB.op hB)
  have d3 : decide (who < 1) = false := decide_eq_false (by omega)
  have HJ := Lib.hid hj
  have e0 := (PZ.cells hB.pz).1
  have g0 := (PZ.cells hB.pz).2.2.2.2 0
  have he2 : ((s i).ep == 18446744073709551615) = false := by simpa using he
  have hwr : IntKind.u64.wrap ((s i).ep + 1) = (s i).ep + 1 := wrap_u (by omega) (by omega)
  obtain ⟨E, hE⟩ : ∃ E, E = (s i).ep := ⟨_, rfl⟩
  rw [← hE] at e0 he2 hwr ⊢
  have HE := Lib.hid hE
  have hk1 := RB.setE HB.out (E + 1)
  have HK1 := Lib.hid hk1
  have e1 := (PZ.cells hk1.pz).2.1
  have g1 := (PZ.cells hk1.pz).2.2.2.2 1
  have p8' := cell_of_row _ P 8 _ _ (0, 0) hk1.op
  clear he h0e h9e hE
  clear h h0 hB hi hw b0 hj
  go_enter Tryz.func17, Tryz.ntmps17
  go_upto_region 1 with fail
  rw [← hw0, ← hP, ← hR]
  clear hw0 hP hR
  go_wp2_with fail
  refine HIs.out.mono ?_
  rintro _ w1 ⟨rfl, hww⟩
  obtain rfl := hww.symm
  clear hww
  go_wp2_with fail
  refine HAt.out.mono ?_
  rintro _ w1 ⟨rfl, hww⟩
  obtain rfl := hww.symm
  clear hww HIs HAt d3
  go_upto_region 12 with fail
  generalize w0.setCell ⟨(z i).N, 0, none⟩ (.int .u64 (E + 1)) = w1 at HK1 e1 g1 p8' hk1 ⊢
  clear p0 p1 p2 p3 p4 p5 p6 p7 p8 e0 g0 hwr he2 HB
  have hk2 := RB.setX HK1.out nn
  have HK2 := Lib.hid hk2
  go_upto_region 13 with fail
  generalize w1.setCell ⟨(z i).N, 1, none⟩ (.int .u64 nn) = w2 at HK2 hk2 ⊢
  clear e1 g1 p8' hk1 HK1
  obtain ⟨hn3, hf3⟩ := PZ.newQ hk2.pz
  have hk3 := RB.turn hk2 hn3 hf3
  have b3 : Below w2.heap.size w2 (w2.alloc (.cells #[.slice none 0 0] Gp.TQh)) := (Below.refl _ _).alloc (Nat.le_refl _) _
  have c3 := PZ.cells (hk2.pz.below b3)
  have c32 := c3.2.2.1
  have g32 := c3.2.2.2.2 2
  have HK3 := Lib.hid hk3
  clear hn3 hf3 b3 c3 hk2 HK2
  go_upto_region 14 with fail
  generalize (w2.alloc (.cells #[.slice none 0 0] Gp.TQh)).setCell ⟨(z i).N, 2, none⟩ (.pointer (some ⟨w2.heap.size, 0, none⟩)) = w3 at HK3 hk3 ⊢
  generalize w2.heap.size = QN at HK3 hk3
  clear c32 g32
  obtain ⟨hn4, hf4⟩ := PZ.rowNil hk3.pz
  have hk4 := RB.turn hk3 hn4 hf4
  have c33 := (PZ.cells hk3.pz).2.2.2.1
  have g33 := (PZ.cells hk3.pz).2.2.2.2 3
  have HK4 := Lib.hid hk4
  clear hn4 hf4 hk3 HK3
  dsimp only at c33 g33
  go_upto_region 15 with fail
  dsimp only at HK4 hk4
  generalize w3.setCell ⟨(z i).N, 3, none⟩ (.slice none 0 0) = w4 at HK4 hk4 ⊢
  clear c33 g33
  have e4 := (PZ.cells hk4.pz).1
  dsimp only at e4
  have HR := Lib.hid (RB.fin HK4.out (.int .i64 0) (.int .u64 (E + 1)) (.int .u64 0) (.int .u64 0))
  obtain ⟨r0, r1, r2, r3, rf⟩ := get4 (RB.rt HK4.out)
  clear hk4
  go_wp2
  generalize ((((w4.setCell ⟨R, 0, none⟩ (.int .i64 0)).setCell ⟨R, 1, none⟩ (.int .u64 (E + 1))).setCell ⟨R, 2, none⟩ (.int .u64 0)).setCell ⟨R, 3, none⟩ (.int .u64 0)) = V4 at HR ⊢
  obtain ⟨q0, q1, q2, q3, -⟩ := get4 HR.out.1
  simp [bodyPost, results, Tryz.results17, go_sem, q0, q1, q2, q3]
  exact ⟨_, HR.out.2⟩
end
end Go.Proofs.YtpkkomifenlkaaaGreat.Au
/- The page's allocator: Do of a commit, a return. -/
namespace Go.Proofs.YtpkkomifenlkaaaGreat.Au
open Go Go.RowKit Go.MuLone
set_option linter.unusedVariables false

theorem lk_fnd {k : Int} {M : List (Int × Int)} (h : lk k M = none) : fnd k M = -1 := fnd_none fun j hj => (lk_none.1 h) _ (List.getElem_mem hj)
theorem lk_some_at : ∀ {k hd : Int} {M : List (Int × Int)}, lk k M = some hd → ∃ a, ∃ h : a < M.length, M[a] = (k, hd) ∧ ∀ j (hj : j < M.length), j < a → M[j].1 ≠ k
  | k, hd, [], h => by cases h
  | k, hd, x :: M, h => by
    unfold lk at h
    by_cases e : k = x.1
    · rw [if_pos e] at h
      injection h with h
      exact ⟨0, by simp, by rw [e, ← h]; rfl, fun j _ hj => by omega⟩
    · rw [if_neg e] at h
      obtain ⟨a, ha, e1, e2⟩ := lk_some_at h
      refine ⟨a + 1, by simpa using ha, by simpa using e1, fun j hj hja => ?_⟩
      cases j with
      | zero => exact fun q => e q.symm
      | succ j => simpa using e2 j (by simpa using hj) (by omega)
theorem lk_at {k hd : Int} {M : List (Int × Int)} (h : lk k M = some hd) : ∃ a, ∃ ha : a < M.length, fnd k M = (a : Int) ∧ M[a] = (k, hd) := by
  obtain ⟨a, ha, e1, e2⟩ := lk_some_at h
  exact ⟨a, ha, fnd_at ha (by rw [e1]) e2, e1⟩
theorem dl_erase : ∀ {k : Int} {M : List (Int × Int)} {a : Nat} (ha : a < M.length), (M.map (·.1)).Nodup → M[a].1 = k → dl k M = M.eraseIdx a
  | k, x :: M, 0, _, hn, he => by
    have he : x.1 = k := he
    rw [List.map_cons, List.nodup_cons] at hn
    show (x :: M).filter _ = M
    rw [List.filter_cons, if_neg (by simp [he]), List.filter_eq_self.2]
    intro y hy
    have : y.1 ≠ k := fun e => hn.1 (by rw [he, ← e]; exact List.mem_map_of_mem hy)
    simpa using this
  | k, x :: M, a + 1, ha, hn, he => by
    rw [List.map_cons, List.nodup_cons] at hn
    have he : (M[a]'(by simpa using ha)).1 = k := he
    have hx : x.1 ≠ k := fun e => hn.1 (by rw [e, ← he]; exact List.mem_map_of_mem (List.getElem_mem _))
    have ih := dl_erase (by simpa using ha) hn.2 he
    show (x :: M).filter _ = x :: M.eraseIdx a
    rw [List.filter_cons, if_pos (by simpa using hx)]
    congr 1
/-- what comes of a commit, a return -/
theorem lv_cases (o : Oq) (s : Nu) : (lvC o s = 12 ∧ o.ep ≠ s.ep ∧ lvS o s = s) ∨ (o.ep = s.ep ∧ ((lvC o s = 8 ∧ lk o.nn s.M = none ∧ lvS o s = s) ∨ ∃ hd, lk o.nn s.M = some hd ∧ ((hd ≠ o.who ∧ lvC o s = 9 ∧ lvS o s = s) ∨ (hd = o.who ∧ lvC o s = 0 ∧ lvS o s = ⟨s.ep, s.nx, if o.kd = 8 then Gm.putS o.nn s.L else s.L, dl o.nn s.M⟩)))) := by
  by_cases he : o.ep = s.ep
  · refine Or.inr ⟨he, ?_⟩
    cases hl : lk o.nn s.M with
    | none =>
      have hc : lvC o s = 8 := by unfold lvC; rw [if_neg (fun h => h he), hl]
      exact Or.inl ⟨hc, rfl, by unfold lvS; rw [if_neg (by rw [hc]; decide)]⟩
    | some hd =>
      refine Or.inr ⟨hd, rfl, ?_⟩
      by_cases hw : hd = o.who
      · have hc : lvC o s = 0 := by unfold lvC; rw [if_neg (fun h => h he), hl]; exact if_neg (fun h => h hw)
        exact Or.inr ⟨hw, hc, by unfold lvS; rw [if_pos hc]⟩
      · have hc : lvC o s = 9 := by unfold lvC; rw [if_neg (fun h => h he), hl]; exact if_pos hw
        exact Or.inl ⟨hw, hc, by unfold lvS; rw [if_neg (by rw [hc]; decide)]⟩
  · have hc : lvC o s = 12 := by unfold lvC; rw [if_pos he]
    exact Or.inl ⟨hc, he, by unfold lvS; rw [if_neg (by rw [hc]; decide)]⟩
theorem putS_new {n : Int} {L : List Int} (h : n ≠ 18446744073709551615) (hn : n ∉ L) : Gm.putS n L = Gm.putL n L := by
  unfold Gm.putS
  rw [if_neg (by rintro (e | e); exact h e; exact hn e)]
section
variable {base S A : Nat} {sl v0 v1 : Value} {z : Nat → Pz} {s : Nat → Nu} {W V X : World}
set_option maxRecDepth 20000 in
set_option maxHeartbeats 4000000 in
theorem pdo_leave7 (who kc kf ks sd ac ep nn : Int) (i : Nat) (hA : A ≤ 1000000) (hw : 1 ≤ who) (hi : idx A sd ac = some i) (k : Nat) (ok : NOk (s i) k) (hk : k ≤ 892) (h : PA base W S A sl v0 v1 z s) :
    Calls Tryz.prog 17 #[.pointer (some ⟨S, 0, none⟩), .agg #[.int .i64 7, .int .i64 who, .int .i64 kc, .int .i64 kf, .int .u64 ks, .int .i64 sd, .int .i64 ac, .int .u64 ep, .int .u64 nn]] W fun e w' => e = .returned (rt (lvC (Oq.mk 7 who kc kf ks sd ac ep nn) (s i)) (0) (0) (0)) ∧ ∃ z', PZ base w' z' (lvS (Oq.mk 7 who kc kf ks sd ac ep nn) (s i)) ∧ FP (z i) z' W w' := by
  have key := lv_cases (Oq.mk 7 who kc kf ks sd ac ep nn) (s i)
  obtain ⟨C, hC⟩ : ∃ C, C = lvC (Oq.mk 7 who kc kf ks sd ac ep nn) (s i) := ⟨_, rfl⟩
  obtain ⟨T, hT⟩ : ∃ T, T = lvS (Oq.mk 7 who kc kf ks sd ac ep nn) (s i) := ⟨_, rfl⟩
  rw [← hC, ← hT] at key ⊢
  dsimp only at key
  have HKey := Lib.hid key
  have HOk := Lib.hid (And.intro ok hk)
  clear key hC hT ok hk
  unfold rt
  have hj := idx_ltA hi
  have b0 : Below W.heap.size W ((W.alloc (.cells #[.int .i64 7, .int .i64 who, .int .i64 kc, .int .i64 kf, .int .u64 ks, .int .i64 sd, .int .i64 ac, .int .u64 ep, .int .u64 nn] TOp)).alloc (.cells #[.int .i64 0, .int .u64 0, .int .u64 0, .int .u64 0] TRt)) := ((Below.refl _ _).alloc (Nat.le_refl _) _).alloc (by simp) _
  have h0 := h.below b0
  have hB := RB.start2 (h.it i hj) #[.int .i64 7, .int .i64 who, .int .i64 kc, .int .i64 kf, .int .u64 ks, .int .i64 sd, .int .i64 ac, .int .u64 ep, .int .u64 nn]
  obtain ⟨w0, hw0⟩ : ∃ X, X = (W.alloc (.cells #[.int .i64 7, .int .i64 who, .int .i64 kc, .int .i64 kf, .int .u64 ks, .int .i64 sd, .int .i64 ac, .int .u64 ep, .int .u64 nn] TOp)).alloc (.cells #[.int .i64 0, .int .u64 0, .int .u64 0, .int .u64 0] TRt) := ⟨_, rfl⟩
  obtain ⟨P, hP⟩ : ∃ P, P = W.heap.size := ⟨_, rfl⟩
  obtain ⟨R, hR⟩ : ∃ R, R = P + 1 := ⟨_, rfl⟩
  rw [← hw0] at h0
  rw [← hw0, ← hP, ← hR] at hB
  have HIs := Lib.hid (pis_any sd ac h0 hA)
  have HAt := Lib.hid (pat_any sd ac i h0 hi hA)
  rw [hi] at HIs
  have HB := Lib.hid hB
  have p0 := cell_of_row w0 P 0 _ _ (0, 0) (RB.op hB)
  have p1 := cell_of_row w0 P 1 _ _ (0, 0) (RB.op hB)
  have p2 := cell_of_row w0 P 2 _ _ (0, 0) (RB.op hB)
  have p3 := cell_of_row w0 P 3 _ _ (0, 0) (RB.op hB)
  have p4 := cell_of_row w0 P 4 _ _ (0, 0) (RB.op hB)
  have p5 := cell_of_row w0 P 5 _ _ (0, 0) (RB.op hB)
  have p6 := cell_of_row w0 P 6 _ _ (0, 0) (RB.op hB)
  have p7 := cell_of_row w0 P 7 _ _ (0, 0) (RB.op hB)
  have p8 := cell_of_row w0 P 8 _ _ (0, 0) (RB.op hB)
  have d3 : decide (who < 1) = false := decide_eq_false (by omega)
  have HJ := Lib.hid hj
  have e0 := (PZ.cells hB.pz).1
  clear h h0 hB hi hw b0 hj
  go_enter Tryz.func17, Tryz.ntmps17
  go_upto_region 1 with fail
  rw [← hw0, ← hP, ← hR]
  clear hw0 hP hR
  go_wp2_with fail
  refine HIs.out.mono ?_
  rintro _ w1 ⟨rfl, hww⟩
  obtain rfl := hww.symm
  clear hww
  go_wp2_with fail
  refine HAt.out.mono ?_
  rintro _ w1 ⟨rfl, hww⟩
  obtain rfl := hww.symm
  clear hww HIs HAt d3
  go_upto_region 24 with fail
  have h1 := RB.drew HB.out
  obtain ⟨E, hE⟩ : ∃ E, E = (s i).ep := ⟨_, rfl⟩
  rw [← hE] at e0
  have HE := Lib.hid hE
  clear hE
  rcases HKey.out with ⟨hC, hne, hT⟩ | ⟨heq, key⟩
  · have en : (ep != E) = true := by rw [HE.out]; simpa using hne
    obtain rfl := hC
    obtain rfl := hT
    clear hne HKey
    go_region
    obtain ⟨w1, hw1⟩ : ∃ X, X = w0.drew := ⟨_, rfl⟩
    rw [← hw1] at h1 ⊢
    clear hw1 e0 p0 p1 p2 p3 p4 p5 p6 p7 p8
    have HR := Lib.hid (RB.fin h1 (.int .i64 12) (.int .u64 0) (.int .u64 0) (.int .u64 0))
    obtain ⟨r0, r1, r2, r3, rf⟩ := get4 (RB.rt h1)
    
    go_wp2
    generalize ((((w1.setCell ⟨R, 0, none⟩ (.int .i64 12)).setCell ⟨R, 1, none⟩ (.int .u64 0)).setCell ⟨R, 2, none⟩ (.int .u64 0)).setCell ⟨R, 3, none⟩ (.int .u64 0)) = V4 at HR ⊢
    obtain ⟨q0, q1, q2, q3, -⟩ := get4 HR.out.1
    simp [bodyPost, results, Tryz.results17, go_sem, q0, q1, q2, q3]
    exact ⟨_, HR.out.2⟩
  · have en : (ep != E) = false := by rw [HE.out]; simpa using heq
    have HKy := Lib.hid key
    clear heq key HKey
    go_region
    obtain ⟨w1, hw1⟩ : ∃ X, X = w0.drew := ⟨_, rfl⟩
    rw [← hw1] at h1 ⊢
    clear hw1 e0 p0 p1 p2 p3 p4 p5 p6 p7 p8 en HB HE
    have p0 := cell_of_row w1 P 0 _ _ (0, 0) (RB.op h1)
    have p1 := cell_of_row w1 P 1 _ _ (0, 0) (RB.op h1)
    have p8 := cell_of_row w1 P 8 _ _ (0, 0) (RB.op h1)
    have HF := Lib.hid (find_any h1.pz nn (by have := HOk.out.1.len; have := HOk.out.2; omega))
    have H1 := Lib.hid h1
    clear h1
    go_wp2_with fail
    refine HF.out.mono ?_
    rintro _ w2 ⟨rfl, b2⟩
    have h2 := RB.below H1.out b2
    have H2 := Lib.hid h2
    clear b2 H1 HF p0 p1 p8
    have p0 := cell_of_row w2 P 0 _ _ (0, 0) (RB.op h2)
    have p1 := cell_of_row w2 P 1 _ _ (0, 0) (RB.op h2)
    have p8 := cell_of_row w2 P 8 _ _ (0, 0) (RB.op h2)
    rcases HKy.out with ⟨hC, hl, hT⟩ | ⟨hd, hl, key⟩
    · rw [lk_fnd hl]
      obtain rfl := hC
      obtain rfl := hT
      clear hl HKy
      have HR := Lib.hid (RB.fin h2 (.int .i64 8) (.int .u64 0) (.int .u64 0) (.int .u64 0))
      obtain ⟨r0, r1, r2, r3, rf⟩ := get4 (RB.rt h2)
      
      go_wp2
      generalize ((((w2.setCell ⟨R, 0, none⟩ (.int .i64 8)).setCell ⟨R, 1, none⟩ (.int .u64 0)).setCell ⟨R, 2, none⟩ (.int .u64 0)).setCell ⟨R, 3, none⟩ (.int .u64 0)) = V4 at HR ⊢
      obtain ⟨q0, q1, q2, q3, -⟩ := get4 HR.out.1
      simp [bodyPost, results, Tryz.results17, go_sem, q0, q1, q2, q3]
      exact ⟨_, HR.out.2⟩
    · obtain ⟨a, ha, hf, hat⟩ := lk_at hl
      rw [hf]
      obtain ⟨B, c, hv⟩ := held_form h2.pz.held
      have c3 := (PZ.cells h2.pz).2.2.2.1
      have hrow := h2.pz.held
      rw [hv] at c3 hrow
      obtain ⟨g, rfl, hg, m0, m1⟩ := held_at hrow a ha
      rw [hat] at m0 m1
      dsimp only at m0 m1
      have HA := Lib.hid (And.intro hat hl)
      have hal : (a : Int) < ((s i).M.length : Int) := by omega
      have ha0 : (0 : Int) ≤ (a : Int) := by omega
      have ha1 : ¬ ((a : Int) < 0) := by omega
      have HKz := Lib.hid key
      clear key HKy hf hat hl hrow hg
      go_upto_region 29 with fail
      have h3 := RB.drew H2.out
      rcases HKz.out with ⟨hne, hC, hT⟩ | ⟨heq, hC, hT⟩
      · have en : (hd != who) = true := by simpa using hne
        obtain rfl := hC
        obtain rfl := hT
        clear hne HKz
        go_region
        obtain ⟨w3, hw3⟩ : ∃ X, X = w2.drew := ⟨_, rfl⟩
        rw [← hw3] at h3 ⊢
        clear hw3 p0 p1 p8 c3 m0 m1 h2 H2
        have HR := Lib.hid (RB.fin h3 (.int .i64 9) (.int .u64 0) (.int .u64 0) (.int .u64 0))
        obtain ⟨r0, r1, r2, r3, rf⟩ := get4 (RB.rt h3)
        
        go_wp2
        generalize ((((w3.setCell ⟨R, 0, none⟩ (.int .i64 9)).setCell ⟨R, 1, none⟩ (.int .u64 0)).setCell ⟨R, 2, none⟩ (.int .u64 0)).setCell ⟨R, 3, none⟩ (.int .u64 0)) = V4 at HR ⊢
        obtain ⟨q0, q1, q2, q3, -⟩ := get4 HR.out.1
        simp [bodyPost, results, Tryz.results17, go_sem, q0, q1, q2, q3]
        exact ⟨_, HR.out.2⟩
      · have en : (hd != who) = false := by simpa using heq
        obtain rfl := hC
        have HT := Lib.hid hT
        clear heq HKz hT
        go_region
        obtain ⟨w3, hw3⟩ : ∃ X, X = w2.drew := ⟨_, rfl⟩
        rw [← hw3] at h3 ⊢
        clear hw3 p0 p1 p8 c3 m0 m1 h2 H2
        have HWo := Lib.hid (pwo_any h3.pz a (by have := HOk.out.1.len; have := HOk.out.2; omega))
        have H3 := Lib.hid h3
        clear h3 ha1
        go_wp2_with fail
        refine HWo.out.mono ?_
        rintro _ w4 ⟨v', rfl, hown, b4⟩
        obtain ⟨hz4, hf4⟩ := PZ.rowNew H3.out.pz b4 hown
        have h5 := RB.turn H3.out hz4 hf4
        have c4 := (PZ.cells (H3.out.pz.below b4)).2.2.2.1
        have g4 := (PZ.cells (H3.out.pz.below b4)).2.2.2.2 3
        obtain ⟨A4, c9, rfl⟩ := held_form hown
        have H5 := Lib.hid h5
        clear hz4 hf4 hown b4 H3 HWo
        go_upto_region 32 with fail
        obtain ⟨w5, hw5⟩ : ∃ X, X = w4.setCell ⟨(z i).N, 3, none⟩ (.slice A4 ((s i).M.eraseIdx a).length c9) := ⟨_, rfl⟩
        rw [← hw5] at h5 H5 ⊢
        clear hw5 c4 g4
        have p0 := cell_of_row w5 P 0 _ _ (0, 0) (RB.op h5)
        have p8 := cell_of_row w5 P 8 _ _ (0, 0) (RB.op h5)
        have hTe : T = ⟨(s i).ep, (s i).nx, (s i).L, (s i).M.eraseIdx a⟩ := by
          rw [HT.out, if_neg (by decide), dl_erase ha HOk.out.1.nd (by rw [HA.out.1])]
        obtain rfl := hTe
        have HR := Lib.hid (RB.fin h5 (.int .i64 0) (.int .u64 0) (.int .u64 0) (.int .u64 0))
        obtain ⟨r0, r1, r2, r3, rf⟩ := get4 (RB.rt h5)
        clear HT HA
        go_wp2
        generalize ((((w5.setCell ⟨R, 0, none⟩ (.int .i64 0)).setCell ⟨R, 1, none⟩ (.int .u64 0)).setCell ⟨R, 2, none⟩ (.int .u64 0)).setCell ⟨R, 3, none⟩ (.int .u64 0)) = V4 at HR ⊢
        obtain ⟨q0, q1, q2, q3, -⟩ := get4 HR.out.1
        simp [bodyPost, results, Tryz.results17, go_sem, q0, q1, q2, q3]
        exact ⟨_, HR.out.2⟩
set_option maxRecDepth 20000 in
set_option maxHeartbeats 4000000 in
theorem pdo_leave8 (who kc kf ks sd ac ep nn : Int) (i : Nat) (hA : A ≤ 1000000) (hw : 1 ≤ who) (hi : idx A sd ac = some i) (k : Nat) (ok : NOk (s i) k) (hk : k ≤ 892) (h : PA base W S A sl v0 v1 z s) :
    Calls Tryz.prog 17 #[.pointer (some ⟨S, 0, none⟩), .agg #[.int .i64 8, .int .i64 who, .int .i64 kc, .int .i64 kf, .int .u64 ks, .int .i64 sd, .int .i64 ac, .int .u64 ep, .int .u64 nn]] W fun e w' => e = .returned (rt (lvC (Oq.mk 8 who kc kf ks sd ac ep nn) (s i)) (0) (0) (0)) ∧ ∃ z', PZ base w' z' (lvS (Oq.mk 8 who kc kf ks sd ac ep nn) (s i)) ∧ FP (z i) z' W w' := by
  have key := lv_cases (Oq.mk 8 who kc kf ks sd ac ep nn) (s i)
  obtain ⟨C, hC⟩ : ∃ C, C = lvC (Oq.mk 8 who kc kf ks sd ac ep nn) (s i) := ⟨_, rfl⟩
  obtain ⟨T, hT⟩ : ∃ T, T = lvS (Oq.mk 8 who kc kf ks sd ac ep nn) (s i) := ⟨_, rfl⟩
  rw [← hC, ← hT] at key ⊢
  dsimp only at key
  have HKey := Lib.hid key
  have HOk := Lib.hid (And.intro ok hk)
  clear key hC hT ok hk
  unfold rt
  have hj := idx_ltA hi
  have b0 : Below W.heap.size W ((W.alloc (.cells #[.int .i64 8, .int .i64 who, .int .i64 kc, .int .i64 kf, .int .u64 ks, .int .i64 sd, .int .i64 ac, .int .u64 ep, .int .u64 nn] TOp)).alloc (.cells #[.int .i64 0, .int .u64 0, .int .u64 0, .int .u64 0] TRt)) := ((Below.refl _ _).alloc (Nat.le_refl _) _).alloc (by simp) _
  have h0 := h.below b0
  have hB := RB.start2 (h.it i hj) #[.int .i64 8, .int .i64 who, .int .i64 kc, .int .i64 kf, .int .u64 ks, .int .i64 sd, .int .i64 ac, .int .u64 ep, .int .u64 nn]
  obtain ⟨w0, hw0⟩ : ∃ X, X = (W.alloc (.cells #[.int .i64 8, .int .i64 who, .int .i64 kc, .int .i64 kf, .int .u64 ks, .int .i64 sd, .int .i64 ac, .int .u64 ep, .int .u64 nn] TOp)).alloc (.cells #[.int .i64 0, .int .u64 0, .int .u64 0, .int .u64 0] TRt) := ⟨_, rfl⟩
  obtain ⟨P, hP⟩ : ∃ P, P = W.heap.size := ⟨_, rfl⟩
  obtain ⟨R, hR⟩ : ∃ R, R = P + 1 := ⟨_, rfl⟩
  rw [← hw0] at h0
  rw [← hw0, ← hP, ← hR] at hB
  have HIs := Lib.hid (pis_any sd ac h0 hA)
  have HAt := Lib.hid (pat_any sd ac i h0 hi hA)
  rw [hi] at HIs
  have HB := Lib.hid hB
  have p0 := cell_of_row w0 P 0 _ _ (0, 0) (RB.op hB)
  have p1 := cell_of_row w0 P 1 _ _ (0, 0) (RB.op hB)
  have p2 := cell_of_row w0 P 2 _ _ (0, 0) (RB.op hB)
  have p3 := cell_of_row w0 P 3 _ _ (0, 0) (RB.op hB)
  have p4 := cell_of_row w0 P 4 _ _ (0, 0) (RB.op hB)
  have p5 := cell_of_row w0 P 5 _ _ (0, 0) (RB.op hB)
  have p6 := cell_of_row w0 P 6 _ _ (0, 0) (RB.op hB)
  have p7 := cell_of_row w0 P 7 _ _ (0, 0) (RB.op hB)
  have p8 := cell_of_row w0 P 8 _ _ (0, 0) (RB.op hB)
  have d3 : decide (who < 1) = false := decide_eq_false (by omega)
  have HJ := Lib.hid hj
  have e0 := (PZ.cells hB.pz).1
  clear h h0 hB hi hw b0 hj
  go_enter Tryz.func17, Tryz.ntmps17
  go_upto_region 1 with fail
  rw [← hw0, ← hP, ← hR]
  clear hw0 hP hR
  go_wp2_with fail
  refine HIs.out.mono ?_
  rintro _ w1 ⟨rfl, hww⟩
  obtain rfl := hww.symm
  clear hww
  go_wp2_with fail
  refine HAt.out.mono ?_
  rintro _ w1 ⟨rfl, hww⟩
  obtain rfl := hww.symm
  clear hww HIs HAt d3
  go_upto_region 24 with fail
  have h1 := RB.drew HB.out
  obtain ⟨E, hE⟩ : ∃ E, E = (s i).ep := ⟨_, rfl⟩
  rw [← hE] at e0
  have HE := Lib.hid hE
  clear hE
  rcases HKey.out with ⟨hC, hne, hT⟩ | ⟨heq, key⟩
  · have en : (ep != E) = true := by rw [HE.out]; simpa using hne
    obtain rfl := hC
    obtain rfl := hT
    clear hne HKey
    go_region
    obtain ⟨w1, hw1⟩ : ∃ X, X = w0.drew := ⟨_, rfl⟩
    rw [← hw1] at h1 ⊢
    clear hw1 e0 p0 p1 p2 p3 p4 p5 p6 p7 p8
    have HR := Lib.hid (RB.fin h1 (.int .i64 12) (.int .u64 0) (.int .u64 0) (.int .u64 0))
    obtain ⟨r0, r1, r2, r3, rf⟩ := get4 (RB.rt h1)
    
    go_wp2
    generalize ((((w1.setCell ⟨R, 0, none⟩ (.int .i64 12)).setCell ⟨R, 1, none⟩ (.int .u64 0)).setCell ⟨R, 2, none⟩ (.int .u64 0)).setCell ⟨R, 3, none⟩ (.int .u64 0)) = V4 at HR ⊢
    obtain ⟨q0, q1, q2, q3, -⟩ := get4 HR.out.1
    simp [bodyPost, results, Tryz.results17, go_sem, q0, q1, q2, q3]
    exact ⟨_, HR.out.2⟩
  · have en : (ep != E) = false := by rw [HE.out]; simpa using heq
    have HKy := Lib.hid key
    clear heq key HKey
    go_region
    obtain ⟨w1, hw1⟩ : ∃ X, X = w0.drew := ⟨_, rfl⟩
    rw [← hw1] at h1 ⊢
    clear hw1 e0 p0 p1 p2 p3 p4 p5 p6 p7 p8 en HB HE
    have p0 := cell_of_row w1 P 0 _ _ (0, 0) (RB.op h1)
    have p1 := cell_of_row w1 P 1 _ _ (0, 0) (RB.op h1)
    have p8 := cell_of_row w1 P 8 _ _ (0, 0) (RB.op h1)
    have HF := Lib.hid (find_any h1.pz nn (by have := HOk.out.1.len; have := HOk.out.2; omega))
    have H1 := Lib.hid h1
    clear h1
    go_wp2_with fail
    refine HF.out.mono ?_
    rintro _ w2 ⟨rfl, b2⟩
    have h2 := RB.below H1.out b2
    have H2 := Lib.hid h2
    clear b2 H1 HF p0 p1 p8
    have p0 := cell_of_row w2 P 0 _ _ (0, 0) (RB.op h2)
    have p1 := cell_of_row w2 P 1 _ _ (0, 0) (RB.op h2)
    have p8 := cell_of_row w2 P 8 _ _ (0, 0) (RB.op h2)
    rcases HKy.out with ⟨hC, hl, hT⟩ | ⟨hd, hl, key⟩
    · rw [lk_fnd hl]
      obtain rfl := hC
      obtain rfl := hT
      clear hl HKy
      have HR := Lib.hid (RB.fin h2 (.int .i64 8) (.int .u64 0) (.int .u64 0) (.int .u64 0))
      obtain ⟨r0, r1, r2, r3, rf⟩ := get4 (RB.rt h2)
      
      go_wp2
      generalize ((((w2.setCell ⟨R, 0, none⟩ (.int .i64 8)).setCell ⟨R, 1, none⟩ (.int .u64 0)).setCell ⟨R, 2, none⟩ (.int .u64 0)).setCell ⟨R, 3, none⟩ (.int .u64 0)) = V4 at HR ⊢
      obtain ⟨q0, q1, q2, q3, -⟩ := get4 HR.out.1
      simp [bodyPost, results, Tryz.results17, go_sem, q0, q1, q2, q3]
      exact ⟨_, HR.out.2⟩
    · obtain ⟨a, ha, hf, hat⟩ := lk_at hl
      rw [hf]
      obtain ⟨B, c, hv⟩ := held_form h2.pz.held
      have c3 := (PZ.cells h2.pz).2.2.2.1
      have hrow := h2.pz.held
      rw [hv] at c3 hrow
      obtain ⟨g, rfl, hg, m0, m1⟩ := held_at hrow a ha
      rw [hat] at m0 m1
      dsimp only at m0 m1
      have HA := Lib.hid (And.intro hat hl)
      have hal : (a : Int) < ((s i).M.length : Int) := by omega
      have ha0 : (0 : Int) ≤ (a : Int) := by omega
      have ha1 : ¬ ((a : Int) < 0) := by omega
      have HKz := Lib.hid key
      clear key HKy hf hat hl hrow hg
      go_upto_region 29 with fail
      have h3 := RB.drew H2.out
      rcases HKz.out with ⟨hne, hC, hT⟩ | ⟨heq, hC, hT⟩
      · have en : (hd != who) = true := by simpa using hne
        obtain rfl := hC
        obtain rfl := hT
        clear hne HKz
        go_region
        obtain ⟨w3, hw3⟩ : ∃ X, X = w2.drew := ⟨_, rfl⟩
        rw [← hw3] at h3 ⊢
        clear hw3 p0 p1 p8 c3 m0 m1 h2 H2
        have HR := Lib.hid (RB.fin h3 (.int .i64 9) (.int .u64 0) (.int .u64 0) (.int .u64 0))
        obtain ⟨r0, r1, r2, r3, rf⟩ := get4 (RB.rt h3)
        
        go_wp2
        generalize ((((w3.setCell ⟨R, 0, none⟩ (.int .i64 9)).setCell ⟨R, 1, none⟩ (.int .u64 0)).setCell ⟨R, 2, none⟩ (.int .u64 0)).setCell ⟨R, 3, none⟩ (.int .u64 0)) = V4 at HR ⊢
        obtain ⟨q0, q1, q2, q3, -⟩ := get4 HR.out.1
        simp [bodyPost, results, Tryz.results17, go_sem, q0, q1, q2, q3]
        exact ⟨_, HR.out.2⟩
      · have en : (hd != who) = false := by simpa using heq
        obtain rfl := hC
        have HT := Lib.hid hT
        clear heq HKz hT
        go_region
        obtain ⟨w3, hw3⟩ : ∃ X, X = w2.drew := ⟨_, rfl⟩
        rw [← hw3] at h3 ⊢
        clear hw3 p0 p1 p8 c3 m0 m1 h2 H2
        have HWo := Lib.hid (pwo_any h3.pz a (by have := HOk.out.1.len; have := HOk.out.2; omega))
        have H3 := Lib.hid h3
        clear h3 ha1
        go_wp2_with fail
        refine HWo.out.mono ?_
        rintro _ w4 ⟨v', rfl, hown, b4⟩
        obtain ⟨hz4, hf4⟩ := PZ.rowNew H3.out.pz b4 hown
        have h5 := RB.turn H3.out hz4 hf4
        have c4 := (PZ.cells (H3.out.pz.below b4)).2.2.2.1
        have g4 := (PZ.cells (H3.out.pz.below b4)).2.2.2.2 3
        obtain ⟨A4, c9, rfl⟩ := held_form hown
        have H5 := Lib.hid h5
        clear hz4 hf4 hown b4 H3 HWo
        go_upto_region 32 with fail
        obtain ⟨w5, hw5⟩ : ∃ X, X = w4.setCell ⟨(z i).N, 3, none⟩ (.slice A4 ((s i).M.eraseIdx a).length c9) := ⟨_, rfl⟩
        rw [← hw5] at h5 H5 ⊢
        clear hw5 c4 g4
        have p0 := cell_of_row w5 P 0 _ _ (0, 0) (RB.op h5)
        have p8 := cell_of_row w5 P 8 _ _ (0, 0) (RB.op h5)
        have hx := HOk.out.1.M _ (List.getElem_mem ha)
        rw [HA.out.1] at hx
        dsimp only at hx
        have hTe : T = ⟨(s i).ep, (s i).nx, Gm.putL nn (s i).L, (s i).M.eraseIdx a⟩ := by
          rw [HT.out, if_pos trivial, dl_erase ha HOk.out.1.nd (by rw [HA.out.1]), putS_new (by have := HOk.out.1.nx; omega) hx.2.2]
        obtain rfl := hTe
        have HP := Lib.hid (And.intro hx (And.intro HOk.out.1.nx (And.intro HOk.out.1.len HOk.out.2)))
        have c2 := (PZ.cells h5.pz).2.2.1
        dsimp only at c2
        clear HT HA hx h5
        go_upto_region 33 with fail
        refine wp_region_held_drew (S := fun V => V.cell? ⟨(z i).N, 2, none⟩ = some (.pointer (some ⟨(z i).Q, 0, none⟩)) ∧ V.cell? ⟨P, 8, none⟩ = some (.int .u64 nn)) (by kernel_rfl) ⟨c2, p8⟩ (fun hHeld => ?_)
        refine wpAnyH_take (i := 0) (oi := _) (v := ?_) rfl (by kernel_rfl) (by kernel_rfl) (by kernel_rfl) (fun _ _ _ h => h) (Or.inl ⟨by rfl, ?_⟩) (by assumption) ?_
        rotate_left
        · (intro V hSw; obtain ⟨x1, x2⟩ := hSw; go_simp; try with_reducible rfl)
        try simp only [Act.put, List.getElem_toArray, List.getElem_cons_zero, List.setIfInBounds_toArray, List.set_cons_zero, List.set_cons_succ]
        refine wpAnyH_take (i := 1) (oi := _) (v := ?_) rfl (by kernel_rfl) (by kernel_rfl) (by kernel_rfl) (fun _ _ _ h => h) (Or.inl ⟨by rfl, ?_⟩) (by assumption) ?_
        rotate_left
        · (intro V hSw; obtain ⟨x1, x2⟩ := hSw; go_simp; try with_reducible rfl)
        try simp only [Act.put, List.getElem_toArray, List.getElem_cons_succ, List.getElem_cons_zero, List.setIfInBounds_toArray, List.set_cons_zero, List.set_cons_succ]
        refine wpAnyH_take (i := 2) (oi := _) (v := ?_) rfl (by kernel_rfl) (by kernel_rfl) (by kernel_rfl) (fun _ _ _ h => h) (Or.inl ⟨by rfl, ?_⟩) (by assumption) ?_
        rotate_left
        · (intro V hSw; obtain ⟨x1, x2⟩ := hSw; go_simp; try with_reducible rfl)
        try simp only [Act.put, List.getElem_toArray, List.getElem_cons_succ, List.getElem_cons_zero, List.setIfInBounds_toArray, List.set_cons_zero, List.set_cons_succ]
        refine wpAnyH_take (i := 3) (oi := _) (v := ?_) rfl (by kernel_rfl) (by kernel_rfl) (by kernel_rfl) (fun _ _ _ h => h) (Or.inl ⟨by rfl, ?_⟩) (by assumption) ?_
        rotate_left
        · (intro V hSw; obtain ⟨x1, x2⟩ := hSw; go_simp; try with_reducible rfl)
        try simp only [Act.put, List.getElem_toArray, List.getElem_cons_succ, List.getElem_cons_zero, List.setIfInBounds_toArray, List.set_cons_zero, List.set_cons_succ]
        refine wpAnyH_take (i := 4) (oi := _) (v := ?_) rfl (by kernel_rfl) (by kernel_rfl) (by kernel_rfl) (fun _ _ _ h => h) (Or.inl ⟨by rfl, ?_⟩) (by assumption) ?_
        rotate_left
        · (intro V hSw; obtain ⟨x1, x2⟩ := hSw; go_simp; try with_reducible rfl)
        try simp only [Act.put, List.getElem_toArray, List.getElem_cons_succ, List.getElem_cons_zero, List.setIfInBounds_toArray, List.set_cons_zero, List.set_cons_succ]
        refine wpAnyH_take (i := 5) (oi := _) (v := ?_) rfl (by kernel_rfl) (by kernel_rfl) (by kernel_rfl) (fun _ _ _ h => h) (Or.inl ⟨by rfl, ?_⟩) (by assumption) ?_
        rotate_left
        · (intro V hSw; obtain ⟨x1, x2⟩ := hSw; go_simp; try with_reducible rfl)
        try simp only [Act.put, List.getElem_toArray, List.getElem_cons_succ, List.getElem_cons_zero, List.setIfInBounds_toArray, List.set_cons_zero, List.set_cons_succ]
        have h6 := RB.drew H5.out
        obtain ⟨w6, hw6⟩ : ∃ X, X = w5.drew := ⟨_, rfl⟩
        rw [← hw6] at h6 hHeld ⊢
        clear hw6 c2 p0 p8 H5
        refine wpAnyH_ready (rs := [6]) (by kernel_rfl) (by simp) ?_
        refine AllReadyH.cons rfl (fun K hK => ?_) AllReadyH.nil
        simp only [List.getElem_toArray, List.getElem_cons_succ, List.getElem_cons_zero]
        rw [if_pos (by rfl)]
        go_simp
        refine (Gp.qput_go base (z i).Q (z i).q (s i).L nn w6 h6.pz.qh HP.out.1.1 (by have := HP.out; omega) HP.out.1.2.2 (by have := HP.out; omega)).mono ?_
        rintro _ w7 ⟨rfl, q', hq, hf⟩
        have h7 := RB.heap h6 hq hf
        have H7 := Lib.hid h7
        have x7 := (PZ.cells h7.pz).2.2.1
        have y7 := cell_of_row w7 P 8 _ _ (0, 0) (RB.op h7)
        clear hq hf h7 h6
        go_wp2_with fail
        refine hK.out _ _ ⟨x7, y7⟩ (fun hHeld => ?_)
        clear hK K
        try simp only [Act.put, List.getElem_toArray, List.getElem_cons_succ, List.getElem_cons_zero, List.setIfInBounds_toArray, List.set_cons_zero, List.set_cons_succ]
        refine wpAnyH_done (by kernel_rfl) ?_ _
        clear hHeld x7 y7
        have HR := Lib.hid (RB.fin H7.out (.int .i64 0) (.int .u64 0) (.int .u64 0) (.int .u64 0))
        obtain ⟨r0, r1, r2, r3, rf⟩ := get4 (RB.rt H7.out)
        
        go_wp2
        generalize ((((w7.setCell ⟨R, 0, none⟩ (.int .i64 0)).setCell ⟨R, 1, none⟩ (.int .u64 0)).setCell ⟨R, 2, none⟩ (.int .u64 0)).setCell ⟨R, 3, none⟩ (.int .u64 0)) = V4 at HR ⊢
        obtain ⟨q0, q1, q2, q3, -⟩ := get4 HR.out.1
        simp [bodyPost, results, Tryz.results17, go_sem, q0, q1, q2, q3]
        exact ⟨_, HR.out.2⟩
end
end Go.Proofs.YtpkkomifenlkaaaGreat.Au
/- The page's allocator: Do of a drop. -/
namespace Go.Proofs.YtpkkomifenlkaaaGreat.Au
open Go Go.RowKit Go.MuLone
set_option linter.unusedVariables false

theorem pfoldM_sub : ∀ (l : List Int) (M : List (Int × Int)), (foldM l M).Sublist M
  | [], M => List.Sublist.refl _
  | x :: l, M => (pfoldM_sub l (dl x M)).trans List.filter_sublist
theorem pputS_len (n : Int) (L : List Int) : (Gm.putS n L).length ≤ L.length + 1 := by
  unfold Gm.putS
  split
  · omega
  · rw [Gm.putL_len]; omega
theorem pfoldL_len : ∀ (l L : List Int), (foldL l L).length ≤ L.length + l.length
  | [], L => by simp [foldL]
  | x :: l, L => by
    have h1 := pfoldL_len l (Gm.putS x L)
    have h2 := pputS_len x L
    show (foldL l (Gm.putS x L)).length ≤ _
    rw [List.length_cons]
    omega
theorem lk_mem {k : Int} {M : List (Int × Int)} {who : Int} (hn : (M.map (·.1)).Nodup) (h : (k, who) ∈ M) : lk k M = some who := by
  induction M with
  | nil => cases h
  | cons x M ih =>
    rw [List.map_cons, List.nodup_cons] at hn
    unfold lk
    by_cases e : k = x.1
    · rw [if_pos e]
      rcases List.mem_cons.1 h with h | h
      · rw [← h]
      · exact absurd (List.mem_map_of_mem (f := (·.1)) h) (by rw [← e] at hn; exact hn.1)
    · rw [if_neg e]
      rcases List.mem_cons.1 h with h | h
      · exact absurd (by rw [← h]) e
      · exact ih hn.2 h
theorem RdN.fp {z z' : Pz} {V X : World} {B : Option Addr} {n : Nat} {l : List Int} (h : RdN V B n l) (f : FP z z' V X) (o : ∀ g off, B = some ⟨g, off, none⟩ → POff z g) : RdN X B n l :=
  ⟨h.many, fun hl => by
    obtain ⟨b, off, e1, e2, e3⟩ := h.cells hl
    exact ⟨b, off, e1, Nat.lt_of_lt_of_le e2 f.size, fun i hi => (World.cell?_of_block (f.block b e2 (o b off e1))).trans (e3 i hi)⟩⟩
/-- a step of the drop -/
theorem drop_step {s : Nu} {k n : Nat} {who : Int} (ok : NOk s n) (hn : n ≤ 892) (hk : k < (hbs who s.M).length) :
    ∃ (x : Int) (a : Nat), (hbs who s.M)[k] = x ∧ fnd x (foldM ((hbs who s.M).take k) s.M) = (a : Int) ∧ (foldM ((hbs who s.M).take k) s.M).eraseIdx a = foldM ((hbs who s.M).take (k + 1)) s.M ∧ Gm.putL x (foldL ((hbs who s.M).take k) s.L) = foldL ((hbs who s.M).take (k + 1)) s.L ∧ 0 ≤ x ∧ x ≤ 18446744073709551614 ∧ x ∉ foldL ((hbs who s.M).take k) s.L ∧ (foldL ((hbs who s.M).take k) s.L).length < 900 ∧ (foldM ((hbs who s.M).take k) s.M).length ≤ 1000000 := by
  have hmem : ((hbs who s.M)[k], who) ∈ s.M := hbs_mem.1 (List.getElem_mem hk)
  have hxb := ok.M _ hmem
  have hnx := ok.nx
  have hlen := ok.len
  dsimp only at hxb
  have hnd := hbs_nodup (who := who) ok.nd
  have hnot : (hbs who s.M)[k] ∉ (hbs who s.M).take k := fun h => by
    obtain ⟨j, hj, e⟩ := List.getElem_of_mem h
    rw [List.getElem_take] at e
    have hj' : j < k := by simp at hj; omega
    exact (List.pairwise_iff_getElem.1 hnd j k (by omega) hk hj') e
  have hsub := pfoldM_sub ((hbs who s.M).take k) s.M
  have hM : ((hbs who s.M)[k], who) ∈ foldM ((hbs who s.M).take k) s.M := mem_foldM.2 ⟨hmem, hnot⟩
  have hMn : ((foldM ((hbs who s.M).take k) s.M).map (·.1)).Nodup := (hsub.map _).nodup ok.nd
  obtain ⟨a, ha, hf, hat⟩ := lk_at (lk_mem hMn hM)
  have htop : ∀ x ∈ (hbs who s.M).take k, x ≠ 18446744073709551615 := fun x hx => by
    have := ok.M _ (hbs_mem.1 (List.mem_of_mem_take hx))
    dsimp only at this
    omega
  have hL : (hbs who s.M)[k] ∉ foldL ((hbs who s.M).take k) s.L := fun h => by
    rcases (mem_foldL htop).1 h with h | h
    · exact hnot h
    · exact hxb.2.2 h
  have hll : (hbs who s.M).length ≤ s.M.length := by
    rw [(hbs_perm who s.M).length_eq]
    unfold hb
    rw [List.length_map]
    exact List.length_filter_le _ _
  refine ⟨_, a, rfl, hf, ?_, ?_, by omega, by omega, hL, ?_, Nat.le_trans hsub.length_le (by omega)⟩
  · rw [foldM_take hk, dl_erase ha hMn (by rw [hat])]
  · rw [foldL_take hk, putS_new (by omega) hL]
  · have := pfoldL_len ((hbs who s.M).take k) s.L
    rw [List.length_take] at this
    omega
section
variable {base S A : Nat} {sl v0 v1 : Value} {z : Nat → Pz} {s : Nat → Nu} {W V X : World}
set_option maxRecDepth 20000 in
set_option maxHeartbeats 8000000 in
theorem pdo_drop (who kc kf ks sd ac ep nn : Int) (i : Nat) (hA : A ≤ 1000000) (hw : 1 ≤ who) (hi : idx A sd ac = some i) (n : Nat) (ok : NOk (s i) n) (hn : n ≤ 892) (h : PA base W S A sl v0 v1 z s) :
    Calls Tryz.prog 17 #[.pointer (some ⟨S, 0, none⟩), .agg #[.int .i64 10, .int .i64 who, .int .i64 kc, .int .i64 kf, .int .u64 ks, .int .i64 sd, .int .i64 ac, .int .u64 ep, .int .u64 nn]] W fun e w' => e = .returned (rt (0) (0) (((hbs who (s i).M).length : Int)) (0)) ∧ ∃ z', PZ base w' z' (drS who (s i)) ∧ FP (z i) z' W w' := by
  obtain ⟨m, hm⟩ : ∃ m, m = (hbs who (s i).M).length := ⟨_, rfl⟩
  rw [← hm]
  have HM := Lib.hid hm
  have HOk := Lib.hid (And.intro ok hn)
  have hm9 : m ≤ 892 := by
    rw [hm, (hbs_perm who (s i).M).length_eq]
    unfold hb
    rw [List.length_map]
    exact Nat.le_trans (List.length_filter_le _ _) (by have := ok.len; omega)
  clear hm ok hn
  unfold rt
  have hj := idx_ltA hi
  have b0 : Below W.heap.size W ((W.alloc (.cells #[.int .i64 10, .int .i64 who, .int .i64 kc, .int .i64 kf, .int .u64 ks, .int .i64 sd, .int .i64 ac, .int .u64 ep, .int .u64 nn] TOp)).alloc (.cells #[.int .i64 0, .int .u64 0, .int .u64 0, .int .u64 0] TRt)) := ((Below.refl _ _).alloc (Nat.le_refl _) _).alloc (by simp) _
  have h0 := h.below b0
  have hB := RB.start2 (h.it i hj) #[.int .i64 10, .int .i64 who, .int .i64 kc, .int .i64 kf, .int .u64 ks, .int .i64 sd, .int .i64 ac, .int .u64 ep, .int .u64 nn]
  obtain ⟨w0, hw0⟩ : ∃ X, X = (W.alloc (.cells #[.int .i64 10, .int .i64 who, .int .i64 kc, .int .i64 kf, .int .u64 ks, .int .i64 sd, .int .i64 ac, .int .u64 ep, .int .u64 nn] TOp)).alloc (.cells #[.int .i64 0, .int .u64 0, .int .u64 0, .int .u64 0] TRt) := ⟨_, rfl⟩
  obtain ⟨P, hP⟩ : ∃ P, P = W.heap.size := ⟨_, rfl⟩
  obtain ⟨R, hR⟩ : ∃ R, R = P + 1 := ⟨_, rfl⟩
  rw [← hw0] at h0
  rw [← hw0, ← hP, ← hR] at hB
  have HIs := Lib.hid (pis_any sd ac h0 hA)
  have HAt := Lib.hid (pat_any sd ac i h0 hi hA)
  rw [hi] at HIs
  have HB := Lib.hid hB
  have p0 := cell_of_row w0 P 0 _ _ (0, 0) (RB.op hB)
  have p1 := cell_of_row w0 P 1 _ _ (0, 0) (RB.op hB)
  have p2 := cell_of_row w0 P 2 _ _ (0, 0) (RB.op hB)
  have p3 := cell_of_row w0 P 3 _ _ (0, 0) (RB.op hB)
  have p4 := cell_of_row w0 P 4 _ _ (0, 0) (RB.op hB)
  have p5 := cell_of_row w0 P 5 _ _ (0, 0) (RB.op hB)
  have p6 := cell_of_row w0 P 6 _ _ (0, 0) (RB.op hB)
  have p7 := cell_of_row w0 P 7 _ _ (0, 0) (RB.op hB)
  have p8 := cell_of_row w0 P 8 _ _ (0, 0) (RB.op hB)
  have d3 : decide (who < 1) = false := decide_eq_false (by omega)
  have HJ := Lib.hid hj
  have HOf := Lib.hid (pof_any hB.pz who HOk.out.1.nd (fun x hx => by have := HOk.out.1.M x hx; have := HOk.out.1.nx; omega) (by have := HOk.out.1.len; have := HOk.out.2; omega))
  clear h h0 hB hi hw b0 hj
  go_enter Tryz.func17, Tryz.ntmps17
  go_upto_region 1 with fail
  rw [← hw0, ← hP, ← hR]
  clear hw0 hP hR
  go_wp2_with fail
  refine HIs.out.mono ?_
  rintro _ w1 ⟨rfl, hww⟩
  obtain rfl := hww.symm
  clear hww
  go_wp2_with fail
  refine HAt.out.mono ?_
  rintro _ w1 ⟨rfl, hww⟩
  obtain rfl := hww.symm
  clear hww HIs HAt d3
  go_wp2_with fail
  refine HOf.out.mono ?_
  rintro _ w1 ⟨Al, cl, rfl, hrd, hnew, b1⟩
  rw [← HM.out] at hrd ⊢
  have h1 := RB.below HB.out b1
  have hoff : ∀ g off, Al = some ⟨g, off, none⟩ → POff (z i) g := fun g off e => by
    have hge := hnew g off e
    have hp := HB.out.pz
    refine ⟨?_, ?_, fun q => ?_, fun q => ?_⟩
    · have := hp.lt; dsimp only at this; omega
    · have := hp.ltQ; dsimp only at this; omega
    · have := (hp.ltq q.symm).2; omega
    · have := (hp.lth q.symm).2; omega
  have H1 := Lib.hid (And.intro h1 (And.intro hrd hoff))
  have hm0 : (0 : Int) ≤ (m : Int) := by omega
  clear h1 hrd hoff hnew b1 HB HOf p0 p1 p2 p3 p4 p5 p6 p7 p8
  go_wp2_with fail
  go_loopw [7] (fun iv wr => ∃ (k : Nat) (z' : Pz), iv = .int .i64 (k : Int) ∧ k ≤ m ∧ RB base W wr (z i) z' ⟨(s i).ep, (s i).nx, foldL ((hbs who (s i).M).take k) (s i).L, foldM ((hbs who (s i).M).take k) (s i).M⟩ P R #[.int .i64 10, .int .i64 who, .int .i64 kc, .int .i64 kf, .int .u64 ks, .int .i64 sd, .int .i64 ac, .int .u64 ep, .int .u64 nn] TOp ∧ RdN wr Al m (hbs who (s i).M) ∧ Hid (∀ g off, Al = some ⟨g, off, none⟩ → POff z' g)) (fun iv _ => m - (intOf iv).toNat)
  case atStart => exact ⟨0, z i, rfl, Nat.zero_le _, H1.out.1, H1.out.2.1, Lib.hid H1.out.2.2⟩
  case round =>
    clear H1
    obtain ⟨k, z', rfl, hk, hr, hrd, HOff⟩ := hrel
    by_cases hkm : k < m
    · obtain ⟨x, a, hx, hf, hM', hL', hx0, hx9, hxn, hlL, hlM⟩ := drop_step HOk.out.1 HOk.out.2 (by rw [← HM.out]; exact hkm)
      have hk0 : (0 : Int) ≤ (k : Int) := by omega
      have hk1 : (k : Int) < (m : Int) := by omega
      obtain ⟨bl, off, eA, hbl, hcs⟩ := hrd.cells (by omega)
      have hat := hcs k (by rw [← HM.out]; exact hkm)
      rw [hx] at hat
      have eN := hr.fp.N
      obtain ⟨N, Q, q, h⟩ := z'
      dsimp only at eN
      subst eN
      have HR1 := Lib.hid (And.intro hr (And.intro hrd HOff.out))
      have hfind := find_any hr.pz x hlM
      rw [hf] at hfind
      have HFi := Lib.hid hfind
      have HX := Lib.hid hx
      have HD := Lib.hid (And.intro (And.intro hM' hL') (And.intro (And.intro hx0 hx9) (And.intro hxn (And.intro hlL hlM))))
      subst eA
      clear hcs hx hf hM' hL' hx0 hx9 hxn hlL hlM hfind hr hrd HOff hbl
      go_wp2_with fail
      refine HFi.out.mono ?_
      rintro _ w2 ⟨rfl, b2⟩
      have h2 := RB.below HR1.out.1 b2
      have r2 := HR1.out.2.1.below b2
      have HWo := Lib.hid (pwo_any h2.pz a HD.out.2.2.2.2)
      have H2 := Lib.hid (And.intro h2 (And.intro r2 HR1.out.2.2))
      clear b2 h2 r2 HFi HR1 hat
      go_wp2_with fail
      refine HWo.out.mono ?_
      rintro _ w4 ⟨v', rfl, hown, b4⟩
      rw [HD.out.1.1] at hown
      obtain ⟨hz4, hf4⟩ := PZ.rowNew H2.out.1.pz b4 hown
      have h5 := RB.turn H2.out.1 hz4 hf4
      have r5 := H2.out.2.1.fp hf4 H2.out.2.2
      have o5 : ∀ g off', (some ⟨bl, off, none⟩ : Option Addr) = some ⟨g, off', none⟩ → POff ⟨(z i).N, Q, q, v'⟩ g := fun g off' e => by
        refine hf4.off (H2.out.2.2 g off' e) ?_
        obtain ⟨b', o', e1, e2, -⟩ := H2.out.2.1.cells (by omega)
        rw [e1] at e
        injection e with e
        injection e with e
        subst e
        exact e2
      have c4 := (PZ.cells (H2.out.1.pz.below b4)).2.2.2.1
      have g4 := (PZ.cells (H2.out.1.pz.below b4)).2.2.2.2 3
      obtain ⟨A4, c9, rfl⟩ := held_form hown
      have H5 := Lib.hid (And.intro h5 (And.intro r5 o5))
      clear hz4 hf4 hown b4 H2 HWo h5 r5 o5
      dsimp only at c4 g4
      go_upto_region 22 with fail
      obtain ⟨w5, hw5⟩ : ∃ X, X = w4.setCell ⟨(z i).N, 3, none⟩ (.slice A4 (foldM ((hbs who (s i).M).take (k + 1)) (s i).M).length c9) := ⟨_, rfl⟩
      try dsimp only at H5
      rw [← hw5] at H5 ⊢
      clear hw5 c4 g4
      have c2 := (PZ.cells H5.out.1.pz).2.2.1
      dsimp only at c2
      obtain ⟨b', o', e1, e2, e3⟩ := H5.out.2.1.cells (by omega)
      injection e1 with e1
      injection e1 with e1 e1'
      subst e1 e1'
      have hat := e3 k (by rw [← HM.out]; exact hkm)
      rw [HX.out] at hat
      clear e2 e3
      refine wp_region_held_drew (S := fun V => V.cell? ⟨(z i).N, 2, none⟩ = some (.pointer (some ⟨Q, 0, none⟩)) ∧ V.cell? ⟨bl, off + k, none⟩ = some (.int .u64 x)) (by kernel_rfl) ⟨c2, hat⟩ (fun hHeld => ?_)
      refine wpAnyH_take (i := 0) (oi := _) (v := ?_) rfl (by kernel_rfl) (by kernel_rfl) (by kernel_rfl) (fun _ _ _ h => h) (Or.inl ⟨by rfl, ?_⟩) (by assumption) ?_
      rotate_left
      · (intro V hSw; obtain ⟨x1, x2⟩ := hSw; go_simp; try with_reducible rfl)
      try simp only [Act.put, List.getElem_toArray, List.getElem_cons_zero, List.setIfInBounds_toArray, List.set_cons_zero, List.set_cons_succ]
      refine wpAnyH_take (i := 1) (oi := _) (v := ?_) rfl (by kernel_rfl) (by kernel_rfl) (by kernel_rfl) (fun _ _ _ h => h) (Or.inl ⟨by rfl, ?_⟩) (by assumption) ?_
      rotate_left
      · (intro V hSw; obtain ⟨x1, x2⟩ := hSw; go_simp; try with_reducible rfl)
      try simp only [Act.put, List.getElem_toArray, List.getElem_cons_succ, List.getElem_cons_zero, List.setIfInBounds_toArray, List.set_cons_zero, List.set_cons_succ]
      refine wpAnyH_take (i := 2) (oi := _) (v := ?_) rfl (by kernel_rfl) (by kernel_rfl) (by kernel_rfl) (fun _ _ _ h => h) (Or.inl ⟨by rfl, ?_⟩) (by assumption) ?_
      rotate_left
      · (intro V hSw; obtain ⟨x1, x2⟩ := hSw; go_simp; try with_reducible rfl)
      try simp only [Act.put, List.getElem_toArray, List.getElem_cons_succ, List.getElem_cons_zero, List.setIfInBounds_toArray, List.set_cons_zero, List.set_cons_succ]
      refine wpAnyH_take (i := 3) (oi := _) (v := ?_) rfl (by kernel_rfl) (by kernel_rfl) (by kernel_rfl) (fun _ _ _ h => h) (Or.inl ⟨by rfl, ?_⟩) (by assumption) ?_
      rotate_left
      · (intro V hSw; obtain ⟨x1, x2⟩ := hSw; go_simp; try with_reducible rfl)
      try simp only [Act.put, List.getElem_toArray, List.getElem_cons_succ, List.getElem_cons_zero, List.setIfInBounds_toArray, List.set_cons_zero, List.set_cons_succ]
      refine wpAnyH_take (i := 4) (oi := _) (v := ?_) rfl (by kernel_rfl) (by kernel_rfl) (by kernel_rfl) (fun _ _ _ h => h) (Or.inl ⟨by rfl, ?_⟩) (by assumption) ?_
      rotate_left
      · (intro V hSw; obtain ⟨x1, x2⟩ := hSw; go_simp; try with_reducible rfl)
      try simp only [Act.put, List.getElem_toArray, List.getElem_cons_succ, List.getElem_cons_zero, List.setIfInBounds_toArray, List.set_cons_zero, List.set_cons_succ]
      refine wpAnyH_take (i := 5) (oi := _) (v := ?_) rfl (by kernel_rfl) (by kernel_rfl) (by kernel_rfl) (fun _ _ _ h => h) (Or.inl ⟨by rfl, ?_⟩) (by assumption) ?_
      rotate_left
      · (intro V hSw; obtain ⟨x1, x2⟩ := hSw; go_simp; try with_reducible rfl)
      try simp only [Act.put, List.getElem_toArray, List.getElem_cons_succ, List.getElem_cons_zero, List.setIfInBounds_toArray, List.set_cons_zero, List.set_cons_succ]
      refine wpAnyH_take (i := 6) (oi := _) (v := ?_) rfl (by kernel_rfl) (by kernel_rfl) (by kernel_rfl) (fun _ _ _ h => h) (Or.inl ⟨by rfl, ?_⟩) (by assumption) ?_
      rotate_left
      · (intro V hSw; obtain ⟨x1, x2⟩ := hSw; go_simp; try with_reducible rfl)
      try simp only [Act.put, List.getElem_toArray, List.getElem_cons_succ, List.getElem_cons_zero, List.setIfInBounds_toArray, List.set_cons_zero, List.set_cons_succ]
      refine wpAnyH_take (i := 7) (oi := _) (v := ?_) rfl (by kernel_rfl) (by kernel_rfl) (by kernel_rfl) (fun _ _ _ h => h) (Or.inl ⟨by rfl, ?_⟩) (by assumption) ?_
      rotate_left
      · (intro V hSw; obtain ⟨x1, x2⟩ := hSw; go_simp; try with_reducible rfl)
      try simp only [Act.put, List.getElem_toArray, List.getElem_cons_succ, List.getElem_cons_zero, List.setIfInBounds_toArray, List.set_cons_zero, List.set_cons_succ]
      have h6 := RB.drew H5.out.1
      have r6 : RdN w5.drew _ m (hbs who (s i).M) := H5.out.2.1.below (Below.refl _ _).drew
      have hoff6 := H5.out.2.2
      obtain ⟨w6, hw6⟩ : ∃ X, X = w5.drew := ⟨_, rfl⟩
      rw [← hw6] at h6 r6 hHeld ⊢
      clear hw6 c2 hat H5
      refine wpAnyH_ready (rs := [8]) (by kernel_rfl) (by simp) ?_
      refine AllReadyH.cons rfl (fun K hK => ?_) AllReadyH.nil
      simp only [List.getElem_toArray, List.getElem_cons_succ, List.getElem_cons_zero]
      rw [if_pos (by rfl)]
      go_simp
      refine (Gp.qput_go base Q q _ x w6 h6.pz.qh HD.out.2.1.1 HD.out.2.1.2 HD.out.2.2.1 HD.out.2.2.2.1).mono ?_
      rintro _ w7 ⟨rfl, q', hq, hf⟩
      rw [HD.out.1.2] at hq
      have h7 := RB.heap h6 hq hf
      have f7 : FP ⟨(z i).N, Q, q, _⟩ ⟨(z i).N, Q, q', _⟩ w6 w7 := FP.of_fr (z := ⟨(z i).N, Q, q, .slice A4 (foldM ((hbs who (s i).M).take (k + 1)) (s i).M).length c9⟩) hf
      have r7 := r6.fp f7 hoff6
      have o7 : ∀ g off', (some ⟨bl, off, none⟩ : Option Addr) = some ⟨g, off', none⟩ → POff ⟨(z i).N, Q, q', .slice A4 (foldM ((hbs who (s i).M).take (k + 1)) (s i).M).length c9⟩ g := fun g off' e => by
        refine f7.off (hoff6 g off' e) ?_
        obtain ⟨b9, o9, e1, e2, -⟩ := r6.cells (by omega)
        rw [e1] at e
        injection e with e
        injection e with e
        subst e
        exact e2
      have y7 : w7.cell? ⟨bl, off + k, none⟩ = some (.int .u64 x) := by
        obtain ⟨b9, o9, e1, e2, e3⟩ := r7.cells (by omega)
        injection e1 with e1
        injection e1 with e1 e1'
        subst e1 e1'
        have := e3 k (by rw [← HM.out]; exact hkm)
        rw [HX.out] at this
        exact this
      have H7 := Lib.hid (And.intro h7 (And.intro r7 o7))
      have x7 := (PZ.cells h7.pz).2.2.1
      clear hq hf h7 h6 r6 r7 o7 f7 hoff6
      go_wp2_with fail
      refine hK.out _ _ ⟨x7, y7⟩ (fun hHeld => ?_)
      clear hK K
      try simp only [Act.put, List.getElem_toArray, List.getElem_cons_succ, List.getElem_cons_zero, List.setIfInBounds_toArray, List.set_cons_zero, List.set_cons_succ]
      refine wpAnyH_done (by kernel_rfl) ?_ _
      clear hHeld x7 y7
      go_wp2
      go_roundw
      case rel => exact ⟨k + 1, _, by go_num, hkm, H7.out.1, H7.out.2.1, Lib.hid H7.out.2.2⟩
      case measure => simp [intOf]; omega
    · obtain rfl : k = m := by omega
      have hTe : (⟨(s i).ep, (s i).nx, foldL ((hbs who (s i).M).take k) (s i).L, foldM ((hbs who (s i).M).take k) (s i).M⟩ : Nu) = drS who (s i) := by
        rw [HM.out, List.take_length]
        rfl
      rw [hTe] at hr
      have hwm : IntKind.u64.wrap (k : Int) = (k : Int) := wrap_u (by omega) (by omega)
      have hkk : ¬ ((k : Int) < (k : Int)) := by omega
      clear hTe hrd HOff
      have HR := Lib.hid (RB.fin hr (.int .i64 0) (.int .u64 0) (.int .u64 (k : Int)) (.int .u64 0))
      obtain ⟨r0, r1, r2, r3, rf⟩ := get4 (RB.rt hr)
      clear hr
      go_wp2
      generalize ((((wr.setCell ⟨R, 0, none⟩ (.int .i64 0)).setCell ⟨R, 1, none⟩ (.int .u64 0)).setCell ⟨R, 2, none⟩ (.int .u64 (k : Int))).setCell ⟨R, 3, none⟩ (.int .u64 0)) = V4 at HR ⊢
      obtain ⟨q0, q1, q2, q3, -⟩ := get4 HR.out.1
      simp [bodyPost, results, Tryz.results17, go_sem, q0, q1, q2, q3]
      exact ⟨_, HR.out.2⟩
end
end Go.Proofs.YtpkkomifenlkaaaGreat.Au
/- The page's allocator: Do of whatever operation. -/
namespace Go.Proofs.YtpkkomifenlkaaaGreat.Au
open Go Go.RowKit Go.MuLone
set_option linter.unusedVariables false

section
variable {base S A k : Nat} {sl v0 v1 : Value} {z : Nat → Pz} {s : Nat → Nu} {W V X : World}
theorem PA.baseLe (h : PA base W S A sl v0 v1 z s) : base ≤ W.heap.size := by
  have := h.low
  have := ltO h.box
  omega
theorem pdo_any (o : Oq) (h : PA base W S A sl v0 v1 z s) (hA : A ≤ 1000000) (hok : ∀ i, i < A + A → NOk (s i) k) (hk : k ≤ 892) :
    Calls Tryz.prog 17 #[.pointer (some ⟨S, 0, none⟩), o.val] W fun e w' => e = .returned (rtv (doR A o s)) ∧ ∃ z', PA base w' S A sl v0 v1 z' (doS A o s) ∧ PF W w' ∧ Below base W w' := by
  have fin : ∀ (r : Int × Int × Int × Int) (s' : Nat → Nu), doR A o s = r → doS A o s = s' → Calls Tryz.prog 17 #[.pointer (some ⟨S, 0, none⟩), o.val] W (fun e w' => e = .returned (rtv r) ∧ ∃ z', PA base w' S A sl v0 v1 z' s' ∧ PF W w' ∧ Below base W w') →
      Calls Tryz.prog 17 #[.pointer (some ⟨S, 0, none⟩), o.val] W fun e w' => e = .returned (rtv (doR A o s)) ∧ ∃ z', PA base w' S A sl v0 v1 z' (doS A o s) ∧ PF W w' ∧ Below base W w' := fun r s' h1 h2 h3 => by rw [h1, h2]; exact h3
  obtain ⟨kd, who, kc, kf, ks, sd, ac, ep, nn⟩ := o
  by_cases hb : kd < 6 ∨ 10 < kd ∨ who < 1
  · refine fin (1, 0, 0, 0) s (by unfold doR; rw [if_pos hb]) (by unfold doS; rw [if_pos hb]) ?_
    exact (pdo_bad kd who kc kf ks sd ac ep nn hb).mono fun e w' ⟨h1, h2⟩ => ⟨h1, z, h.below h2, PF.of_below h2, h2.mono h.baseLe⟩
  · cases hi : idx A sd ac with
    | none =>
      refine fin (24, 0, 0, 0) s (by unfold doR; rw [if_neg hb, hi]) (by unfold doS; rw [if_neg hb, hi]) ?_
      exact (pdo_none kd who kc kf ks sd ac ep nn (by omega) (by omega) (by omega) hi hA h).mono fun e w' ⟨h1, h2⟩ => ⟨h1, z, h.below h2, PF.of_below h2, h2.mono h.baseLe⟩
    | some i =>
      have hj := idx_ltA hi
      have ok := hok i hj
      have hw : 1 ≤ who := by omega
      have step : ∀ (r : Int × Int × Int × Int) (s' : Nu), nuR ⟨kd, who, kc, kf, ks, sd, ac, ep, nn⟩ (s i) = r → nuS ⟨kd, who, kc, kf, ks, sd, ac, ep, nn⟩ (s i) = s' → Calls Tryz.prog 17 #[.pointer (some ⟨S, 0, none⟩), (Oq.mk kd who kc kf ks sd ac ep nn).val] W (fun e w' => e = .returned (rtv r) ∧ ∃ z', PZ base w' z' s' ∧ FP (z i) z' W w') → _ := fun r s' h1 h2 h3 =>
        fin r (upd s i s') (by unfold doR; rw [if_neg hb, hi]; exact h1) (by unfold doS; rw [if_neg hb, hi]; show upd s i _ = _; rw [h2]) (h3.mono fun e w' ⟨e1, z', hn, f⟩ => ⟨e1, upd z i z', h.turn hj hn f, PF.of_fp f (h.it i hj), f.belowA h hj⟩)
      clear fin
      rcases (show kd = 6 ∨ kd = 7 ∨ kd = 8 ∨ kd = 9 ∨ kd = 10 by omega) with rfl | rfl | rfl | rfl | rfl
      · by_cases hm : nn < 1 ∨ 8 < nn
        · refine step (1, 0, 0, 0) (s i) (by unfold nuR; rw [if_pos rfl, if_pos hm]) (by unfold nuS; rw [if_pos rfl, if_pos hm]) ?_
          exact pdo_res who kc kf ks sd ac ep nn i hA hw hi 1 0 0 0 _ (fun V hV => pres_bad hV who nn hm) h
        · cases he : rsE (s i) with
          | true =>
            refine step (11, 0, 0, 0) (s i) (by unfold nuR; rw [if_pos rfl, if_neg hm, if_pos he]) (by unfold nuS; rw [if_pos rfl, if_neg hm, if_pos he]) ?_
            unfold rsE at he
            simp only [Bool.and_eq_true, decide_eq_true_eq] at he
            exact pdo_res who kc kf ks sd ac ep nn i hA hw hi 11 0 0 0 _ (fun V hV => pres_end hV who nn (by omega) (by omega) he.1 he.2) h
          | false =>
            have R := rs_ok ok (show 1 ≤ nn by omega) (show nn ≤ 8 by omega) he who
            refine step (0, (s i).ep, rsF nn (s i), (rsM nn (s i) : Int)) (rsS nn who (s i)) (by unfold nuR; rw [if_pos rfl, if_neg hm, if_neg (by rw [he]; decide)]) (by unfold nuS; rw [if_pos rfl, if_neg hm, if_neg (by rw [he]; decide)]) ?_
            exact pdo_res who kc kf ks sd ac ep nn i hA hw hi 0 _ _ _ _ (fun V hV => pres_any hV who nn (by omega) (by omega) ok.nx.1 ok.nx.2 (rsF nn (s i)) (rsM nn (s i)) _ _ R.hc R.f0 R.fm R.m0 R.mm (by have := ok.len; omega)) h
      · refine step (lvC ⟨7, who, kc, kf, ks, sd, ac, ep, nn⟩ (s i), 0, 0, 0) (lvS ⟨7, who, kc, kf, ks, sd, ac, ep, nn⟩ (s i)) rfl rfl ?_
        exact pdo_leave7 who kc kf ks sd ac ep nn i hA hw hi k ok hk h
      · refine step (lvC ⟨8, who, kc, kf, ks, sd, ac, ep, nn⟩ (s i), 0, 0, 0) (lvS ⟨8, who, kc, kf, ks, sd, ac, ep, nn⟩ (s i)) rfl rfl ?_
        exact pdo_leave8 who kc kf ks sd ac ep nn i hA hw hi k ok hk h
      · by_cases he : (s i).ep = 18446744073709551615
        · refine step (11, 0, 0, 0) (s i) (by show (if (s i).ep = 18446744073709551615 then _ else _) = _; rw [if_pos he]) (by show (if (s i).ep = 18446744073709551615 then _ else _) = _; rw [if_pos he]) ?_
          exact pdo_top who kc kf ks sd ac ep nn i hA hw hi he h
        · refine step (0, (s i).ep + 1, 0, 0) ⟨(s i).ep + 1, nn, [], []⟩ (by show (if (s i).ep = 18446744073709551615 then _ else _) = _; rw [if_neg he]) (by show (if (s i).ep = 18446744073709551615 then _ else _) = _; rw [if_neg he]) ?_
          exact pdo_syn who kc kf ks sd ac ep nn i hA hw hi he ok.ep.1 ok.ep.2 h
      · refine step (0, 0, ((hbs who (s i).M).length : Int), 0) (drS who (s i)) rfl rfl ?_
        exact pdo_drop who kc kf ks sd ac ep nn i hA hw hi k ok hk h
end
end Go.Proofs.YtpkkomifenlkaaaGreat.Au
