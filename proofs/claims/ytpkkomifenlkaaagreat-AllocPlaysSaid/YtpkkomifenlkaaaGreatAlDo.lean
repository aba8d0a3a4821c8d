import Derived.Test.YtpkkomifenlkaaaGreatAlA
/- An allocator: Do. -/
namespace Go.Proofs.YtpkkomifenlkaaaGreat.Au
open Go Go.RowKit Go.MuLone
set_option linter.unusedVariables false

section
variable {base : Nat} {y : Alo} {n0 n1 : Nat} {lk : Int} {v0 v1 : Value} {v u x : Nat → Value} {s t : Nat → Nu} {W V X : World}
/-- Do's world: the operation's box P, the answer's box R, both made behind W -/
structure DoW (base : Nat) (W V : World) (y : Alo) (lk : Int) (v0 v1 : Value) (u v : Nat → Value) (s : Nat → Nu) (P R : Nat) (oc : Array Value) : Prop where
  al : AIs base V y y.A y.A lk v0 v1 v s
  af : AF y y.A y.A u v W V
  op : V.heap[P]? = some (.cells oc TOp (0, 0))
  rt : V.heap[R]? = some (.cells #[.int .i64 0, .int .u64 0, .int .u64 0, .int .u64 0] TRt (0, 0))
  lo : W.heap.size ≤ P ∧ W.heap.size ≤ R ∧ P ≠ R
  fp : Fre y y.A y.A v P
  fr : Fre y y.A y.A v R ∧ some R ≠ v0.ownBlock ∧ some R ≠ v1.ownBlock
theorem DoW.start (h : AIs base W y y.A y.A lk v0 v1 v s) (oc : Array Value) : DoW base W ((W.alloc (.cells oc TOp)).alloc (.cells #[.int .i64 0, .int .u64 0, .int .u64 0, .int .u64 0] TRt)) y lk v0 v1 v v s W.heap.size (W.heap.size + 1) oc := by
  have hb : Below W.heap.size W ((W.alloc (.cells oc TOp)).alloc (.cells #[.int .i64 0, .int .u64 0, .int .u64 0, .int .u64 0] TRt)) := ((Below.refl _ _).alloc (Nat.le_refl _) _).alloc (by simp) _
  refine ⟨h.below hb, AF.of_below hb, (Below.heap_alloc _ _ _ (by simp)).trans (heap_alloc_new W _), ?_, ⟨Nat.le_refl _, by omega, by omega⟩, (h.fre_new (Nat.le_refl _)).1, h.fre_new (by omega)⟩
  have := heap_alloc_new (W.alloc (.cells oc TOp)) (.cells #[.int .i64 0, .int .u64 0, .int .u64 0, .int .u64 0] TRt)
  simpa using this
theorem DoW.lock {P R : Nat} {oc : Array Value} (h : DoW base W V y lk v0 v1 u v s P R oc) (l : Int) : DoW base W (V.setCell ⟨y.S, 0, none⟩ (.int .i32 l)) y l v0 v1 u v s P R oc :=
  ⟨h.al.lock l, h.af.trans (AF.of_setS 0 _), (Below.heap_setCell _ _ _ _ h.fp.s).trans h.op, (Below.heap_setCell _ _ _ _ h.fr.1.s).trans h.rt, h.lo, h.fp, h.fr⟩
theorem DoW.turn {P R j : Nat} {oc : Array Value} {v' : Value} {s' : Nu} (h : DoW base W V y lk v0 v1 u v s P R oc) (hj : Val y.A y.A y.A j) (hn : NIs base X (y.b j) v' s') (hf : FN (y.b j) (v j) v' V X) : DoW base W X y lk v0 v1 u (upd v j v') (upd s j s') P R oc :=
  have g : AF y y.A y.A v (upd v j v') V X := AF.of_fn hf hj
  ⟨h.al.turn hj hn hf, h.af.trans g, (g.block P (ltO h.op) h.fp).trans h.op, (g.block R (ltO h.rt) h.fr.1).trans h.rt, h.lo, g.free P (ltO h.op) h.fp, g.free R (ltO h.rt) h.fr.1, h.fr.2⟩
theorem DoW.fin {P R : Nat} {oc : Array Value} (h : DoW base W V y lk v0 v1 u v s P R oc) (a b c d : Value) : ((((V.setCell ⟨R, 0, none⟩ a).setCell ⟨R, 1, none⟩ b).setCell ⟨R, 2, none⟩ c).setCell ⟨R, 3, none⟩ d).heap[R]? = some (.cells #[a, b, c, d] TRt (0, 0)) ∧ AIs base ((((V.setCell ⟨R, 0, none⟩ a).setCell ⟨R, 1, none⟩ b).setCell ⟨R, 2, none⟩ c).setCell ⟨R, 3, none⟩ d) y y.A y.A lk v0 v1 v s ∧ AF y y.A y.A u v W ((((V.setCell ⟨R, 0, none⟩ a).setCell ⟨R, 1, none⟩ b).setCell ⟨R, 2, none⟩ c).setCell ⟨R, 3, none⟩ d) ∧ R ≠ y.S :=
  ⟨Au.set4 a b c d h.rt, h.al.set4 h.fr a b c d, h.af.set4 h.lo.2.1 a b c d, h.fr.1.s⟩
set_option maxRecDepth 20000 in
set_option maxHeartbeats 2000000 in
theorem do_bad (kd : Int) (who kc kf ks sd ac ep nn : Int) (hb : kd < 6 ∨ 10 < kd ∨ who < 1) (h : AIs base W y y.A y.A 0 v0 v1 v s) :
    Calls Tryz.prog 8 #[.pointer (some ⟨y.S, 0, none⟩), .agg #[.int .i64 kd, .int .i64 who, .int .i64 kc, .int .i64 kf, .int .u64 ks, .int .i64 sd, .int .i64 ac, .int .u64 ep, .int .u64 nn]] W fun e w' => e = .returned (rt 1 0 0 0) ∧ AIs base w' y y.A y.A 0 v0 v1 v s ∧ AF y y.A y.A v v W w' := by
  unfold rt
  have h0 := DoW.start h #[.int .i64 kd, .int .i64 who, .int .i64 kc, .int .i64 kf, .int .u64 ks, .int .i64 sd, .int .i64 ac, .int .u64 ep, .int .u64 nn]
  obtain ⟨w0, hw0⟩ : ∃ X, X = (W.alloc (.cells #[.int .i64 kd, .int .i64 who, .int .i64 kc, .int .i64 kf, .int .u64 ks, .int .i64 sd, .int .i64 ac, .int .u64 ep, .int .u64 nn] TOp)).alloc (.cells #[.int .i64 0, .int .u64 0, .int .u64 0, .int .u64 0] TRt) := ⟨_, rfl⟩
  obtain ⟨P, hP⟩ : ∃ P, P = W.heap.size := ⟨_, rfl⟩
  obtain ⟨R, hR⟩ : ∃ R, R = P + 1 := ⟨_, rfl⟩
  rw [← hw0, ← hP, ← hR] at h0
  have H0 := Lib.hid h0
  have p0 := cell_of_row w0 P 0 _ _ (0, 0) h0.op
  have p1 := cell_of_row w0 P 1 _ _ (0, 0) h0.op
  obtain ⟨r0, r1, r2, r3, rf⟩ := get4 h0.rt
  obtain ⟨c0, -, -, f0⟩ := h0.al.cellS
  have HF := Lib.hid (h0.fin (.int .i64 1) (.int .u64 0) (.int .u64 0) (.int .u64 0))
  clear h h0 c0 f0
  rcases (show kd < 6 ∨ ¬ kd < 6 ∧ 10 < kd ∨ ¬ kd < 6 ∧ ¬ 10 < kd ∧ who < 1 by omega) with hk | ⟨hk1, hk⟩ | ⟨hk1, hk2, hk⟩
  · have d1 : decide (kd < 6) = true := decide_eq_true hk; clear hb
    go_enter_defers Tryz.func8, Tryz.ntmps8
    go_upto_region 1 with fail
    rw [← hw0, ← hP, ← hR]
    clear hw0 hP hR
    go_wp2
    generalize ((((w0.setCell ⟨R, 0, none⟩ (.int .i64 1)).setCell ⟨R, 1, none⟩ (.int .u64 0)).setCell ⟨R, 2, none⟩ (.int .u64 0)).setCell ⟨R, 3, none⟩ (.int .u64 0)) = V4 at HF ⊢
    obtain ⟨q0, q1, q2, q3, -⟩ := get4 HF.out.1
    simp [bodyPostD, Leaves, results, Tryz.results8, go_sem, q0, q1, q2, q3]
    exact ⟨HF.out.2.1, HF.out.2.2.1⟩
  · have d1 : decide (kd < 6) = false := decide_eq_false hk1; have d2 : decide (10 < kd) = true := decide_eq_true hk; clear hb hk1
    go_enter_defers Tryz.func8, Tryz.ntmps8
    go_upto_region 1 with fail
    rw [← hw0, ← hP, ← hR]
    clear hw0 hP hR
    go_wp2
    generalize ((((w0.setCell ⟨R, 0, none⟩ (.int .i64 1)).setCell ⟨R, 1, none⟩ (.int .u64 0)).setCell ⟨R, 2, none⟩ (.int .u64 0)).setCell ⟨R, 3, none⟩ (.int .u64 0)) = V4 at HF ⊢
    obtain ⟨q0, q1, q2, q3, -⟩ := get4 HF.out.1
    simp [bodyPostD, Leaves, results, Tryz.results8, go_sem, q0, q1, q2, q3]
    exact ⟨HF.out.2.1, HF.out.2.2.1⟩
  · have d1 : decide (kd < 6) = false := decide_eq_false hk1; have d2 : decide (10 < kd) = false := decide_eq_false hk2; have d3 : decide (who < 1) = true := decide_eq_true hk; clear hb hk1 hk2
    go_enter_defers Tryz.func8, Tryz.ntmps8
    go_upto_region 1 with fail
    rw [← hw0, ← hP, ← hR]
    clear hw0 hP hR
    go_wp2
    generalize ((((w0.setCell ⟨R, 0, none⟩ (.int .i64 1)).setCell ⟨R, 1, none⟩ (.int .u64 0)).setCell ⟨R, 2, none⟩ (.int .u64 0)).setCell ⟨R, 3, none⟩ (.int .u64 0)) = V4 at HF ⊢
    obtain ⟨q0, q1, q2, q3, -⟩ := get4 HF.out.1
    simp [bodyPostD, Leaves, results, Tryz.results8, go_sem, q0, q1, q2, q3]
    exact ⟨HF.out.2.1, HF.out.2.2.1⟩
set_option maxRecDepth 20000 in
set_option maxHeartbeats 2000000 in
theorem do_none (kd : Int) (who kc kf ks sd ac ep nn : Int) (hA : y.A ≤ 1000000) (hk1 : 6 ≤ kd) (hk2 : kd ≤ 10) (hw : 1 ≤ who) (hi : idx y.A sd ac = none) (h : AIs base W y y.A y.A 0 v0 v1 v s) :
    Calls Tryz.prog 8 #[.pointer (some ⟨y.S, 0, none⟩), .agg #[.int .i64 kd, .int .i64 who, .int .i64 kc, .int .i64 kf, .int .u64 ks, .int .i64 sd, .int .i64 ac, .int .u64 ep, .int .u64 nn]] W fun e w' => e = .returned (rt 24 0 0 0) ∧ ∃ v', AIs base w' y y.A y.A 0 v0 v1 v' s ∧ AF y y.A y.A v v' W w' := by
  unfold rt
  have d1 : decide (kd < 6) = false := decide_eq_false (by omega)
  have d2 : decide (10 < kd) = false := decide_eq_false (by omega)
  have d3 : decide (who < 1) = false := decide_eq_false (by omega)
  clear hk1 hk2 hw
  have h0 := DoW.start h #[.int .i64 kd, .int .i64 who, .int .i64 kc, .int .i64 kf, .int .u64 ks, .int .i64 sd, .int .i64 ac, .int .u64 ep, .int .u64 nn]
  obtain ⟨w0, hw0⟩ : ∃ X, X = (W.alloc (.cells #[.int .i64 kd, .int .i64 who, .int .i64 kc, .int .i64 kf, .int .u64 ks, .int .i64 sd, .int .i64 ac, .int .u64 ep, .int .u64 nn] TOp)).alloc (.cells #[.int .i64 0, .int .u64 0, .int .u64 0, .int .u64 0] TRt) := ⟨_, rfl⟩
  obtain ⟨P, hP⟩ : ∃ P, P = W.heap.size := ⟨_, rfl⟩
  obtain ⟨R, hR⟩ : ∃ R, R = P + 1 := ⟨_, rfl⟩
  rw [← hw0, ← hP, ← hR] at h0
  have H0 := Lib.hid h0
  have p0 := cell_of_row w0 P 0 _ _ (0, 0) h0.op
  have p1 := cell_of_row w0 P 1 _ _ (0, 0) h0.op
  obtain ⟨r0, r1, r2, r3, rf⟩ := get4 h0.rt
  obtain ⟨c0, -, -, f0⟩ := h0.al.cellS
  clear h h0
  go_enter_defers Tryz.func8, Tryz.ntmps8
  go_upto_region 1 with fail
  rw [← hw0, ← hP, ← hR]
  clear hw0 hP hR
  go_wp2_with fail
  refine (lock_free muLib ⟨y.S, 0, none⟩ _ c0 f0).mono ?_
  rintro _ w1 ⟨rfl, hw⟩
  clear p0 p1 r0 r1 r2 r3 rf
  have h1 := H0.out.lock 1
  rw [← hw] at h1
  have H1 := Lib.hid h1
  have p0 := cell_of_row w1 P 0 _ _ (0, 0) h1.op
  have p1 := cell_of_row w1 P 1 _ _ (0, 0) h1.op
  have p2 := cell_of_row w1 P 2 _ _ (0, 0) h1.op
  have p3 := cell_of_row w1 P 3 _ _ (0, 0) h1.op
  have p4 := cell_of_row w1 P 4 _ _ (0, 0) h1.op
  have p5 := cell_of_row w1 P 5 _ _ (0, 0) h1.op
  have p6 := cell_of_row w1 P 6 _ _ (0, 0) h1.op
  have p7 := cell_of_row w1 P 7 _ _ (0, 0) h1.op
  have p8 := cell_of_row w1 P 8 _ _ (0, 0) h1.op
  obtain ⟨r0, r1, r2, r3, rf⟩ := get4 h1.rt
  clear hw c0 f0 h1 H0
  go_wp2_with fail
  refine (of_any sd ac H1.out.al hA).mono ?_
  rintro _ w2 ⟨rfl, rfl⟩
  rw [hi]
  unfold numV
  have HF := Lib.hid ((H1.out).fin (.int .i64 24) (.int .u64 0) (.int .u64 0) (.int .u64 0))
  go_wp2
  generalize ((((w2.setCell ⟨R, 0, none⟩ (.int .i64 24)).setCell ⟨R, 1, none⟩ (.int .u64 0)).setCell ⟨R, 2, none⟩ (.int .u64 0)).setCell ⟨R, 3, none⟩ (.int .u64 0)) = V4 at HF ⊢
  refine leaves_cons (f := 23) (args := #[.pointer (some ⟨y.S, 0, none⟩)]) (by simp) (by simp [go_sem]) ?_
  refine (unlock_deferred muLib ⟨y.S, 0, none⟩ .returning _ HF.out.2.1.cellS.1 HF.out.2.1.cellS.2.2.2).mono ?_
  rintro _ u' w9 ⟨rfl, rfl, hw9⟩
  have hr9 : w9.heap[R]? = some (.cells #[.int .i64 24, .int .u64 0, .int .u64 0, .int .u64 0] TRt (0, 0)) := by rw [hw9]; exact (Below.heap_setCell _ _ _ _ HF.out.2.2.2).trans HF.out.1
  have ha9 := HF.out.2.1.lock 0
  have hf9 := HF.out.2.2.1.trans (AF.of_setS 0 (.int .i32 0))
  rw [← hw9] at ha9 hf9
  obtain ⟨q0, q1, q2, q3, -⟩ := get4 hr9
  refine ⟨.agg #[.int .i64 24, .int .u64 0, .int .u64 0, .int .u64 0], ?_, rfl, v, ha9, hf9⟩
  simp [results, Tryz.results8, go_sem, q0, q1, q2, q3]
set_option maxRecDepth 20000 in
set_option maxHeartbeats 2000000 in
theorem do_res (who kc kf ks sd ac ep nn : Int) (i : Nat) (hA : y.A ≤ 1000000) (hw : 1 ≤ who) (hi : idx y.A sd ac = some i) (hm1 : 1 ≤ nn) (hm8 : nn ≤ 8) (h0 : 0 ≤ (s i).nx) (h9 : (s i).nx ≤ 18446744073709551615) (f : Int) (m : Nat) (nx : Int) (L : List Int) (hc : ((s i).L ≠ [] ∧ f = Gp.tkF nn (s i).L ∧ (m : Int) = Gp.tkM nn (s i).L ∧ nx = (s i).nx ∧ L = (s i).L.drop (Gp.tkM nn (s i).L).toNat) ∨ ((s i).L = [] ∧ f = (s i).nx ∧ (m : Int) = (if 18446744073709551615 - (s i).nx < nn then 18446744073709551615 - (s i).nx else nn) ∧ nx = (s i).nx + (m : Int) ∧ L = [])) (hf0 : 0 ≤ f) (hfm : f + (m : Int) ≤ 18446744073709551615) (hm0 : 0 < m) (hmm : (m : Int) ≤ 8) (hnew : ∀ k, k < m → Au.lk (f + (k : Int)) (s i).M = none) (h : AIs base W y y.A y.A 0 v0 v1 v s) :
    Calls Tryz.prog 8 #[.pointer (some ⟨y.S, 0, none⟩), .agg #[.int .i64 6, .int .i64 who, .int .i64 kc, .int .i64 kf, .int .u64 ks, .int .i64 sd, .int .i64 ac, .int .u64 ep, .int .u64 nn]] W fun e w' => e = .returned (rt 0 (s i).ep f (m : Int)) ∧ ∃ v', AIs base w' y y.A y.A 0 v0 v1 v' (upd s i (⟨(s i).ep, nx, L, (s i).M ++ nums f m who⟩)) ∧ AF y y.A y.A v v' W w' := by
  unfold rt
  have d3 : decide (who < 1) = false := decide_eq_false (by omega)
  have hv := idx_val hi
  have HC := Lib.hid (And.intro hm1 (And.intro hm8 (And.intro h0 (And.intro h9 (And.intro hc (And.intro hf0 (And.intro hfm (And.intro hm0 (And.intro hmm hnew)))))))))
  clear hm1 hm8 h0 h9 hc hf0 hfm hm0 hmm hnew
  clear hw
  have h0 := DoW.start h #[.int .i64 6, .int .i64 who, .int .i64 kc, .int .i64 kf, .int .u64 ks, .int .i64 sd, .int .i64 ac, .int .u64 ep, .int .u64 nn]
  obtain ⟨w0, hw0⟩ : ∃ X, X = (W.alloc (.cells #[.int .i64 6, .int .i64 who, .int .i64 kc, .int .i64 kf, .int .u64 ks, .int .i64 sd, .int .i64 ac, .int .u64 ep, .int .u64 nn] TOp)).alloc (.cells #[.int .i64 0, .int .u64 0, .int .u64 0, .int .u64 0] TRt) := ⟨_, rfl⟩
  obtain ⟨P, hP⟩ : ∃ P, P = W.heap.size := ⟨_, rfl⟩
  obtain ⟨R, hR⟩ : ∃ R, R = P + 1 := ⟨_, rfl⟩
  rw [← hw0, ← hP, ← hR] at h0
  have H0 := Lib.hid h0
  have p0 := cell_of_row w0 P 0 _ _ (0, 0) h0.op
  have p1 := cell_of_row w0 P 1 _ _ (0, 0) h0.op
  obtain ⟨r0, r1, r2, r3, rf⟩ := get4 h0.rt
  obtain ⟨c0, -, -, f0⟩ := h0.al.cellS
  clear h h0
  go_enter_defers Tryz.func8, Tryz.ntmps8
  go_upto_region 1 with fail
  rw [← hw0, ← hP, ← hR]
  clear hw0 hP hR
  go_wp2_with fail
  refine (lock_free muLib ⟨y.S, 0, none⟩ _ c0 f0).mono ?_
  rintro _ w1 ⟨rfl, hw⟩
  clear p0 p1 r0 r1 r2 r3 rf
  have h1 := H0.out.lock 1
  rw [← hw] at h1
  have H1 := Lib.hid h1
  have p0 := cell_of_row w1 P 0 _ _ (0, 0) h1.op
  have p1 := cell_of_row w1 P 1 _ _ (0, 0) h1.op
  have p2 := cell_of_row w1 P 2 _ _ (0, 0) h1.op
  have p3 := cell_of_row w1 P 3 _ _ (0, 0) h1.op
  have p4 := cell_of_row w1 P 4 _ _ (0, 0) h1.op
  have p5 := cell_of_row w1 P 5 _ _ (0, 0) h1.op
  have p6 := cell_of_row w1 P 6 _ _ (0, 0) h1.op
  have p7 := cell_of_row w1 P 7 _ _ (0, 0) h1.op
  have p8 := cell_of_row w1 P 8 _ _ (0, 0) h1.op
  obtain ⟨r0, r1, r2, r3, rf⟩ := get4 h1.rt
  clear hw c0 f0 h1 H0
  go_wp2_with fail
  refine (of_any sd ac H1.out.al hA).mono ?_
  rintro _ w2 ⟨rfl, rfl⟩
  rw [hi]
  unfold numV
  go_wp2_with fail
  refine (reserve_any (H1.out.al.it i hv) who nn HC.out.1 HC.out.2.1 HC.out.2.2.1 HC.out.2.2.2.1 f m nx L HC.out.2.2.2.2.1 HC.out.2.2.2.2.2.1 HC.out.2.2.2.2.2.2.1 HC.out.2.2.2.2.2.2.2.1 HC.out.2.2.2.2.2.2.2.2.1 HC.out.2.2.2.2.2.2.2.2.2).mono ?_
  rintro _ w3 ⟨rfl, v', hn, hf⟩
  have h3 := H1.out.turn hv hn hf
  obtain ⟨r0, r1, r2, r3, rf⟩ := get4 h3.rt
  have H3 := Lib.hid h3
  clear hn hf h3 H1 p0 p1 p2 p3 p4 p5 p6 p7 p8
  unfold rt
  have HF := Lib.hid ((H3.out).fin (.int .i64 0) (.int .u64 (s i).ep) (.int .u64 f) (.int .u64 (m : Int)))
  go_wp2
  generalize ((((w3.setCell ⟨R, 0, none⟩ (.int .i64 0)).setCell ⟨R, 1, none⟩ (.int .u64 (s i).ep)).setCell ⟨R, 2, none⟩ (.int .u64 f)).setCell ⟨R, 3, none⟩ (.int .u64 (m : Int))) = V4 at HF ⊢
  refine leaves_cons (f := 23) (args := #[.pointer (some ⟨y.S, 0, none⟩)]) (by simp) (by simp [go_sem]) ?_
  refine (unlock_deferred muLib ⟨y.S, 0, none⟩ .returning _ HF.out.2.1.cellS.1 HF.out.2.1.cellS.2.2.2).mono ?_
  rintro _ u' w9 ⟨rfl, rfl, hw9⟩
  have hr9 : w9.heap[R]? = some (.cells #[.int .i64 0, .int .u64 (s i).ep, .int .u64 f, .int .u64 (m : Int)] TRt (0, 0)) := by rw [hw9]; exact (Below.heap_setCell _ _ _ _ HF.out.2.2.2).trans HF.out.1
  have ha9 := HF.out.2.1.lock 0
  have hf9 := HF.out.2.2.1.trans (AF.of_setS 0 (.int .i32 0))
  rw [← hw9] at ha9 hf9
  obtain ⟨q0, q1, q2, q3, -⟩ := get4 hr9
  refine ⟨.agg #[.int .i64 0, .int .u64 (s i).ep, .int .u64 f, .int .u64 (m : Int)], ?_, rfl, _, ha9, hf9⟩
  simp [results, Tryz.results8, go_sem, q0, q1, q2, q3]
set_option maxRecDepth 20000 in
set_option maxHeartbeats 2000000 in
theorem do_end (who kc kf ks sd ac ep nn : Int) (i : Nat) (hA : y.A ≤ 1000000) (hw : 1 ≤ who) (hi : idx y.A sd ac = some i) (hm1 : 1 ≤ nn) (hm8 : nn ≤ 8) (hL : (s i).L = []) (hx : (s i).nx = 18446744073709551615) (h : AIs base W y y.A y.A 0 v0 v1 v s) :
    Calls Tryz.prog 8 #[.pointer (some ⟨y.S, 0, none⟩), .agg #[.int .i64 6, .int .i64 who, .int .i64 kc, .int .i64 kf, .int .u64 ks, .int .i64 sd, .int .i64 ac, .int .u64 ep, .int .u64 nn]] W fun e w' => e = .returned (rt 11 0 0 0) ∧ ∃ v', AIs base w' y y.A y.A 0 v0 v1 v' (upd s i (s i)) ∧ AF y y.A y.A v v' W w' := by
  unfold rt
  have d3 : decide (who < 1) = false := decide_eq_false (by omega)
  have hv := idx_val hi
  have HC := Lib.hid (And.intro hm1 (And.intro hm8 (And.intro hL hx)))
  clear hm1 hm8 hL hx
  clear hw
  have h0 := DoW.start h #[.int .i64 6, .int .i64 who, .int .i64 kc, .int .i64 kf, .int .u64 ks, .int .i64 sd, .int .i64 ac, .int .u64 ep, .int .u64 nn]
  obtain ⟨w0, hw0⟩ : ∃ X, X = (W.alloc (.cells #[.int .i64 6, .int .i64 who, .int .i64 kc, .int .i64 kf, .int .u64 ks, .int .i64 sd, .int .i64 ac, .int .u64 ep, .int .u64 nn] TOp)).alloc (.cells #[.int .i64 0, .int .u64 0, .int .u64 0, .int .u64 0] TRt) := ⟨_, rfl⟩
  obtain ⟨P, hP⟩ : ∃ P, P = W.heap.size := ⟨_, rfl⟩
  obtain ⟨R, hR⟩ : ∃ R, R = P + 1 := ⟨_, rfl⟩
  rw [← hw0, ← hP, ← hR] at h0
  have H0 := Lib.hid h0
  have p0 := cell_of_row w0 P 0 _ _ (0, 0) h0.op
  have p1 := cell_of_row w0 P 1 _ _ (0, 0) h0.op
  obtain ⟨r0, r1, r2, r3, rf⟩ := get4 h0.rt
  obtain ⟨c0, -, -, f0⟩ := h0.al.cellS
  clear h h0
  go_enter_defers Tryz.func8, Tryz.ntmps8
  go_upto_region 1 with fail
  rw [← hw0, ← hP, ← hR]
  clear hw0 hP hR
  go_wp2_with fail
  refine (lock_free muLib ⟨y.S, 0, none⟩ _ c0 f0).mono ?_
  rintro _ w1 ⟨rfl, hw⟩
  clear p0 p1 r0 r1 r2 r3 rf
  have h1 := H0.out.lock 1
  rw [← hw] at h1
  have H1 := Lib.hid h1
  have p0 := cell_of_row w1 P 0 _ _ (0, 0) h1.op
  have p1 := cell_of_row w1 P 1 _ _ (0, 0) h1.op
  have p2 := cell_of_row w1 P 2 _ _ (0, 0) h1.op
  have p3 := cell_of_row w1 P 3 _ _ (0, 0) h1.op
  have p4 := cell_of_row w1 P 4 _ _ (0, 0) h1.op
  have p5 := cell_of_row w1 P 5 _ _ (0, 0) h1.op
  have p6 := cell_of_row w1 P 6 _ _ (0, 0) h1.op
  have p7 := cell_of_row w1 P 7 _ _ (0, 0) h1.op
  have p8 := cell_of_row w1 P 8 _ _ (0, 0) h1.op
  obtain ⟨r0, r1, r2, r3, rf⟩ := get4 h1.rt
  clear hw c0 f0 h1 H0
  go_wp2_with fail
  refine (of_any sd ac H1.out.al hA).mono ?_
  rintro _ w2 ⟨rfl, rfl⟩
  rw [hi]
  unfold numV
  go_wp2_with fail
  refine (reserve_end (H1.out.al.it i hv) who nn HC.out.1 HC.out.2.1 HC.out.2.2.1 HC.out.2.2.2).mono ?_
  rintro _ w3 ⟨rfl, v', hn, hf⟩
  have h3 := H1.out.turn hv hn hf
  obtain ⟨r0, r1, r2, r3, rf⟩ := get4 h3.rt
  have H3 := Lib.hid h3
  clear hn hf h3 H1 p0 p1 p2 p3 p4 p5 p6 p7 p8
  unfold rt
  have HF := Lib.hid ((H3.out).fin (.int .i64 11) (.int .u64 0) (.int .u64 0) (.int .u64 0))
  go_wp2
  generalize ((((w3.setCell ⟨R, 0, none⟩ (.int .i64 11)).setCell ⟨R, 1, none⟩ (.int .u64 0)).setCell ⟨R, 2, none⟩ (.int .u64 0)).setCell ⟨R, 3, none⟩ (.int .u64 0)) = V4 at HF ⊢
  refine leaves_cons (f := 23) (args := #[.pointer (some ⟨y.S, 0, none⟩)]) (by simp) (by simp [go_sem]) ?_
  refine (unlock_deferred muLib ⟨y.S, 0, none⟩ .returning _ HF.out.2.1.cellS.1 HF.out.2.1.cellS.2.2.2).mono ?_
  rintro _ u' w9 ⟨rfl, rfl, hw9⟩
  have hr9 : w9.heap[R]? = some (.cells #[.int .i64 11, .int .u64 0, .int .u64 0, .int .u64 0] TRt (0, 0)) := by rw [hw9]; exact (Below.heap_setCell _ _ _ _ HF.out.2.2.2).trans HF.out.1
  have ha9 := HF.out.2.1.lock 0
  have hf9 := HF.out.2.2.1.trans (AF.of_setS 0 (.int .i32 0))
  rw [← hw9] at ha9 hf9
  obtain ⟨q0, q1, q2, q3, -⟩ := get4 hr9
  refine ⟨.agg #[.int .i64 11, .int .u64 0, .int .u64 0, .int .u64 0], ?_, rfl, _, ha9, hf9⟩
  simp [results, Tryz.results8, go_sem, q0, q1, q2, q3]
set_option maxRecDepth 20000 in
set_option maxHeartbeats 2000000 in
theorem do_few (who kc kf ks sd ac ep nn : Int) (i : Nat) (hA : y.A ≤ 1000000) (hw : 1 ≤ who) (hi : idx y.A sd ac = some i) (hm : nn < 1 ∨ 8 < nn) (h : AIs base W y y.A y.A 0 v0 v1 v s) :
    Calls Tryz.prog 8 #[.pointer (some ⟨y.S, 0, none⟩), .agg #[.int .i64 6, .int .i64 who, .int .i64 kc, .int .i64 kf, .int .u64 ks, .int .i64 sd, .int .i64 ac, .int .u64 ep, .int .u64 nn]] W fun e w' => e = .returned (rt 1 0 0 0) ∧ ∃ v', AIs base w' y y.A y.A 0 v0 v1 v' (upd s i (s i)) ∧ AF y y.A y.A v v' W w' := by
  unfold rt
  have d3 : decide (who < 1) = false := decide_eq_false (by omega)
  have hv := idx_val hi
  have HC := Lib.hid hm
  clear hm
  clear hw
  have h0 := DoW.start h #[.int .i64 6, .int .i64 who, .int .i64 kc, .int .i64 kf, .int .u64 ks, .int .i64 sd, .int .i64 ac, .int .u64 ep, .int .u64 nn]
  obtain ⟨w0, hw0⟩ : ∃ X, X = (W.alloc (.cells #[.int .i64 6, .int .i64 who, .int .i64 kc, .int .i64 kf, .int .u64 ks, .int .i64 sd, .int .i64 ac, .int .u64 ep, .int .u64 nn] TOp)).alloc (.cells #[.int .i64 0, .int .u64 0, .int .u64 0, .int .u64 0] TRt) := ⟨_, rfl⟩
  obtain ⟨P, hP⟩ : ∃ P, P = W.heap.size := ⟨_, rfl⟩
  obtain ⟨R, hR⟩ : ∃ R, R = P + 1 := ⟨_, rfl⟩
  rw [← hw0, ← hP, ← hR] at h0
  have H0 := Lib.hid h0
  have p0 := cell_of_row w0 P 0 _ _ (0, 0) h0.op
  have p1 := cell_of_row w0 P 1 _ _ (0, 0) h0.op
  obtain ⟨r0, r1, r2, r3, rf⟩ := get4 h0.rt
  obtain ⟨c0, -, -, f0⟩ := h0.al.cellS
  clear h h0
  go_enter_defers Tryz.func8, Tryz.ntmps8
  go_upto_region 1 with fail
  rw [← hw0, ← hP, ← hR]
  clear hw0 hP hR
  go_wp2_with fail
  refine (lock_free muLib ⟨y.S, 0, none⟩ _ c0 f0).mono ?_
  rintro _ w1 ⟨rfl, hw⟩
  clear p0 p1 r0 r1 r2 r3 rf
  have h1 := H0.out.lock 1
  rw [← hw] at h1
  have H1 := Lib.hid h1
  have p0 := cell_of_row w1 P 0 _ _ (0, 0) h1.op
  have p1 := cell_of_row w1 P 1 _ _ (0, 0) h1.op
  have p2 := cell_of_row w1 P 2 _ _ (0, 0) h1.op
  have p3 := cell_of_row w1 P 3 _ _ (0, 0) h1.op
  have p4 := cell_of_row w1 P 4 _ _ (0, 0) h1.op
  have p5 := cell_of_row w1 P 5 _ _ (0, 0) h1.op
  have p6 := cell_of_row w1 P 6 _ _ (0, 0) h1.op
  have p7 := cell_of_row w1 P 7 _ _ (0, 0) h1.op
  have p8 := cell_of_row w1 P 8 _ _ (0, 0) h1.op
  obtain ⟨r0, r1, r2, r3, rf⟩ := get4 h1.rt
  clear hw c0 f0 h1 H0
  go_wp2_with fail
  refine (of_any sd ac H1.out.al hA).mono ?_
  rintro _ w2 ⟨rfl, rfl⟩
  rw [hi]
  unfold numV
  go_wp2_with fail
  refine (reserve_bad (H1.out.al.it i hv) who nn HC.out).mono ?_
  rintro _ w3 ⟨rfl, hn, hf⟩
  have h3 := H1.out.turn hv hn hf
  obtain ⟨r0, r1, r2, r3, rf⟩ := get4 h3.rt
  have H3 := Lib.hid h3
  clear hn hf h3 H1 p0 p1 p2 p3 p4 p5 p6 p7 p8
  unfold rt
  have HF := Lib.hid ((H3.out).fin (.int .i64 1) (.int .u64 0) (.int .u64 0) (.int .u64 0))
  go_wp2
  generalize ((((w3.setCell ⟨R, 0, none⟩ (.int .i64 1)).setCell ⟨R, 1, none⟩ (.int .u64 0)).setCell ⟨R, 2, none⟩ (.int .u64 0)).setCell ⟨R, 3, none⟩ (.int .u64 0)) = V4 at HF ⊢
  refine leaves_cons (f := 23) (args := #[.pointer (some ⟨y.S, 0, none⟩)]) (by simp) (by simp [go_sem]) ?_
  refine (unlock_deferred muLib ⟨y.S, 0, none⟩ .returning _ HF.out.2.1.cellS.1 HF.out.2.1.cellS.2.2.2).mono ?_
  rintro _ u' w9 ⟨rfl, rfl, hw9⟩
  have hr9 : w9.heap[R]? = some (.cells #[.int .i64 1, .int .u64 0, .int .u64 0, .int .u64 0] TRt (0, 0)) := by rw [hw9]; exact (Below.heap_setCell _ _ _ _ HF.out.2.2.2).trans HF.out.1
  have ha9 := HF.out.2.1.lock 0
  have hf9 := HF.out.2.2.1.trans (AF.of_setS 0 (.int .i32 0))
  rw [← hw9] at ha9 hf9
  obtain ⟨q0, q1, q2, q3, -⟩ := get4 hr9
  refine ⟨.agg #[.int .i64 1, .int .u64 0, .int .u64 0, .int .u64 0], ?_, rfl, _, ha9, hf9⟩
  simp [results, Tryz.results8, go_sem, q0, q1, q2, q3]
set_option maxRecDepth 20000 in
set_option maxHeartbeats 2000000 in
theorem do_com (who kc kf ks sd ac ep nn : Int) (i : Nat) (hA : y.A ≤ 1000000) (hw : 1 ≤ who) (hi : idx y.A sd ac = some i) (hn : ((s i).M.map (·.1)).Nodup) (hn0 : 0 ≤ nn) (hn9 : nn ≤ 18446744073709551615) (hf : (s i).L.length < 900) (h : AIs base W y y.A y.A 0 v0 v1 v s) :
    Calls Tryz.prog 8 #[.pointer (some ⟨y.S, 0, none⟩), .agg #[.int .i64 7, .int .i64 who, .int .i64 kc, .int .i64 kf, .int .u64 ks, .int .i64 sd, .int .i64 ac, .int .u64 ep, .int .u64 nn]] W fun e w' => e = .returned (rt (lvC ⟨7, who, kc, kf, ks, sd, ac, ep, nn⟩ (s i)) 0 0 0) ∧ ∃ v', AIs base w' y y.A y.A 0 v0 v1 v' (upd s i (lvS ⟨7, who, kc, kf, ks, sd, ac, ep, nn⟩ (s i))) ∧ AF y y.A y.A v v' W w' := by
  unfold rt
  have d3 : decide (who < 1) = false := decide_eq_false (by omega)
  have hv := idx_val hi
  have HC := Lib.hid (And.intro hn (And.intro hn0 (And.intro hn9 hf)))
  clear hn hn0 hn9 hf
  clear hw
  have h0 := DoW.start h #[.int .i64 7, .int .i64 who, .int .i64 kc, .int .i64 kf, .int .u64 ks, .int .i64 sd, .int .i64 ac, .int .u64 ep, .int .u64 nn]
  obtain ⟨w0, hw0⟩ : ∃ X, X = (W.alloc (.cells #[.int .i64 7, .int .i64 who, .int .i64 kc, .int .i64 kf, .int .u64 ks, .int .i64 sd, .int .i64 ac, .int .u64 ep, .int .u64 nn] TOp)).alloc (.cells #[.int .i64 0, .int .u64 0, .int .u64 0, .int .u64 0] TRt) := ⟨_, rfl⟩
  obtain ⟨P, hP⟩ : ∃ P, P = W.heap.size := ⟨_, rfl⟩
  obtain ⟨R, hR⟩ : ∃ R, R = P + 1 := ⟨_, rfl⟩
  rw [← hw0, ← hP, ← hR] at h0
  have H0 := Lib.hid h0
  have p0 := cell_of_row w0 P 0 _ _ (0, 0) h0.op
  have p1 := cell_of_row w0 P 1 _ _ (0, 0) h0.op
  obtain ⟨r0, r1, r2, r3, rf⟩ := get4 h0.rt
  obtain ⟨c0, -, -, f0⟩ := h0.al.cellS
  clear h h0
  go_enter_defers Tryz.func8, Tryz.ntmps8
  go_upto_region 1 with fail
  rw [← hw0, ← hP, ← hR]
  clear hw0 hP hR
  go_wp2_with fail
  refine (lock_free muLib ⟨y.S, 0, none⟩ _ c0 f0).mono ?_
  rintro _ w1 ⟨rfl, hw⟩
  clear p0 p1 r0 r1 r2 r3 rf
  have h1 := H0.out.lock 1
  rw [← hw] at h1
  have H1 := Lib.hid h1
  have p0 := cell_of_row w1 P 0 _ _ (0, 0) h1.op
  have p1 := cell_of_row w1 P 1 _ _ (0, 0) h1.op
  have p2 := cell_of_row w1 P 2 _ _ (0, 0) h1.op
  have p3 := cell_of_row w1 P 3 _ _ (0, 0) h1.op
  have p4 := cell_of_row w1 P 4 _ _ (0, 0) h1.op
  have p5 := cell_of_row w1 P 5 _ _ (0, 0) h1.op
  have p6 := cell_of_row w1 P 6 _ _ (0, 0) h1.op
  have p7 := cell_of_row w1 P 7 _ _ (0, 0) h1.op
  have p8 := cell_of_row w1 P 8 _ _ (0, 0) h1.op
  obtain ⟨r0, r1, r2, r3, rf⟩ := get4 h1.rt
  clear hw c0 f0 h1 H0
  go_wp2_with fail
  refine (of_any sd ac H1.out.al hA).mono ?_
  rintro _ w2 ⟨rfl, rfl⟩
  rw [hi]
  unfold numV
  go_wp2_with fail
  refine (leave_any (H1.out.al.it i hv) ⟨7, who, kc, kf, ks, sd, ac, ep, nn⟩ HC.out.1 HC.out.2.1 HC.out.2.2.1 HC.out.2.2.2).mono ?_
  rintro _ w3 ⟨rfl, v', hn, hf⟩
  have h3 := H1.out.turn hv hn hf
  obtain ⟨r0, r1, r2, r3, rf⟩ := get4 h3.rt
  have H3 := Lib.hid h3
  clear hn hf h3 H1 p0 p1 p2 p3 p4 p5 p6 p7 p8
  have HF := Lib.hid ((H3.out).fin (.int .i64 (lvC ⟨7, who, kc, kf, ks, sd, ac, ep, nn⟩ (s i))) (.int .u64 0) (.int .u64 0) (.int .u64 0))
  go_wp2
  generalize ((((w3.setCell ⟨R, 0, none⟩ (.int .i64 (lvC ⟨7, who, kc, kf, ks, sd, ac, ep, nn⟩ (s i)))).setCell ⟨R, 1, none⟩ (.int .u64 0)).setCell ⟨R, 2, none⟩ (.int .u64 0)).setCell ⟨R, 3, none⟩ (.int .u64 0)) = V4 at HF ⊢
  refine leaves_cons (f := 23) (args := #[.pointer (some ⟨y.S, 0, none⟩)]) (by simp) (by simp [go_sem]) ?_
  refine (unlock_deferred muLib ⟨y.S, 0, none⟩ .returning _ HF.out.2.1.cellS.1 HF.out.2.1.cellS.2.2.2).mono ?_
  rintro _ u' w9 ⟨rfl, rfl, hw9⟩
  have hr9 : w9.heap[R]? = some (.cells #[.int .i64 (lvC ⟨7, who, kc, kf, ks, sd, ac, ep, nn⟩ (s i)), .int .u64 0, .int .u64 0, .int .u64 0] TRt (0, 0)) := by rw [hw9]; exact (Below.heap_setCell _ _ _ _ HF.out.2.2.2).trans HF.out.1
  have ha9 := HF.out.2.1.lock 0
  have hf9 := HF.out.2.2.1.trans (AF.of_setS 0 (.int .i32 0))
  rw [← hw9] at ha9 hf9
  obtain ⟨q0, q1, q2, q3, -⟩ := get4 hr9
  refine ⟨.agg #[.int .i64 (lvC ⟨7, who, kc, kf, ks, sd, ac, ep, nn⟩ (s i)), .int .u64 0, .int .u64 0, .int .u64 0], ?_, rfl, _, ha9, hf9⟩
  simp [results, Tryz.results8, go_sem, q0, q1, q2, q3]
set_option maxRecDepth 20000 in
set_option maxHeartbeats 2000000 in
theorem do_ret (who kc kf ks sd ac ep nn : Int) (i : Nat) (hA : y.A ≤ 1000000) (hw : 1 ≤ who) (hi : idx y.A sd ac = some i) (hn : ((s i).M.map (·.1)).Nodup) (hn0 : 0 ≤ nn) (hn9 : nn ≤ 18446744073709551615) (hf : (s i).L.length < 900) (h : AIs base W y y.A y.A 0 v0 v1 v s) :
    Calls Tryz.prog 8 #[.pointer (some ⟨y.S, 0, none⟩), .agg #[.int .i64 8, .int .i64 who, .int .i64 kc, .int .i64 kf, .int .u64 ks, .int .i64 sd, .int .i64 ac, .int .u64 ep, .int .u64 nn]] W fun e w' => e = .returned (rt (lvC ⟨8, who, kc, kf, ks, sd, ac, ep, nn⟩ (s i)) 0 0 0) ∧ ∃ v', AIs base w' y y.A y.A 0 v0 v1 v' (upd s i (lvS ⟨8, who, kc, kf, ks, sd, ac, ep, nn⟩ (s i))) ∧ AF y y.A y.A v v' W w' := by
  unfold rt
  have d3 : decide (who < 1) = false := decide_eq_false (by omega)
  have hv := idx_val hi
  have HC := Lib.hid (And.intro hn (And.intro hn0 (And.intro hn9 hf)))
  clear hn hn0 hn9 hf
  clear hw
  have h0 := DoW.start h #[.int .i64 8, .int .i64 who, .int .i64 kc, .int .i64 kf, .int .u64 ks, .int .i64 sd, .int .i64 ac, .int .u64 ep, .int .u64 nn]
  obtain ⟨w0, hw0⟩ : ∃ X, X = (W.alloc (.cells #[.int .i64 8, .int .i64 who, .int .i64 kc, .int .i64 kf, .int .u64 ks, .int .i64 sd, .int .i64 ac, .int .u64 ep, .int .u64 nn] TOp)).alloc (.cells #[.int .i64 0, .int .u64 0, .int .u64 0, .int .u64 0] TRt) := ⟨_, rfl⟩
  obtain ⟨P, hP⟩ : ∃ P, P = W.heap.size := ⟨_, rfl⟩
  obtain ⟨R, hR⟩ : ∃ R, R = P + 1 := ⟨_, rfl⟩
  rw [← hw0, ← hP, ← hR] at h0
  have H0 := Lib.hid h0
  have p0 := cell_of_row w0 P 0 _ _ (0, 0) h0.op
  have p1 := cell_of_row w0 P 1 _ _ (0, 0) h0.op
  obtain ⟨r0, r1, r2, r3, rf⟩ := get4 h0.rt
  obtain ⟨c0, -, -, f0⟩ := h0.al.cellS
  clear h h0
  go_enter_defers Tryz.func8, Tryz.ntmps8
  go_upto_region 1 with fail
  rw [← hw0, ← hP, ← hR]
  clear hw0 hP hR
  go_wp2_with fail
  refine (lock_free muLib ⟨y.S, 0, none⟩ _ c0 f0).mono ?_
  rintro _ w1 ⟨rfl, hw⟩
  clear p0 p1 r0 r1 r2 r3 rf
  have h1 := H0.out.lock 1
  rw [← hw] at h1
  have H1 := Lib.hid h1
  have p0 := cell_of_row w1 P 0 _ _ (0, 0) h1.op
  have p1 := cell_of_row w1 P 1 _ _ (0, 0) h1.op
  have p2 := cell_of_row w1 P 2 _ _ (0, 0) h1.op
  have p3 := cell_of_row w1 P 3 _ _ (0, 0) h1.op
  have p4 := cell_of_row w1 P 4 _ _ (0, 0) h1.op
  have p5 := cell_of_row w1 P 5 _ _ (0, 0) h1.op
  have p6 := cell_of_row w1 P 6 _ _ (0, 0) h1.op
  have p7 := cell_of_row w1 P 7 _ _ (0, 0) h1.op
  have p8 := cell_of_row w1 P 8 _ _ (0, 0) h1.op
  obtain ⟨r0, r1, r2, r3, rf⟩ := get4 h1.rt
  clear hw c0 f0 h1 H0
  go_wp2_with fail
  refine (of_any sd ac H1.out.al hA).mono ?_
  rintro _ w2 ⟨rfl, rfl⟩
  rw [hi]
  unfold numV
  go_wp2_with fail
  refine (leave_any (H1.out.al.it i hv) ⟨8, who, kc, kf, ks, sd, ac, ep, nn⟩ HC.out.1 HC.out.2.1 HC.out.2.2.1 HC.out.2.2.2).mono ?_
  rintro _ w3 ⟨rfl, v', hn, hf⟩
  have h3 := H1.out.turn hv hn hf
  obtain ⟨r0, r1, r2, r3, rf⟩ := get4 h3.rt
  have H3 := Lib.hid h3
  clear hn hf h3 H1 p0 p1 p2 p3 p4 p5 p6 p7 p8
  have HF := Lib.hid ((H3.out).fin (.int .i64 (lvC ⟨8, who, kc, kf, ks, sd, ac, ep, nn⟩ (s i))) (.int .u64 0) (.int .u64 0) (.int .u64 0))
  go_wp2
  generalize ((((w3.setCell ⟨R, 0, none⟩ (.int .i64 (lvC ⟨8, who, kc, kf, ks, sd, ac, ep, nn⟩ (s i)))).setCell ⟨R, 1, none⟩ (.int .u64 0)).setCell ⟨R, 2, none⟩ (.int .u64 0)).setCell ⟨R, 3, none⟩ (.int .u64 0)) = V4 at HF ⊢
  refine leaves_cons (f := 23) (args := #[.pointer (some ⟨y.S, 0, none⟩)]) (by simp) (by simp [go_sem]) ?_
  refine (unlock_deferred muLib ⟨y.S, 0, none⟩ .returning _ HF.out.2.1.cellS.1 HF.out.2.1.cellS.2.2.2).mono ?_
  rintro _ u' w9 ⟨rfl, rfl, hw9⟩
  have hr9 : w9.heap[R]? = some (.cells #[.int .i64 (lvC ⟨8, who, kc, kf, ks, sd, ac, ep, nn⟩ (s i)), .int .u64 0, .int .u64 0, .int .u64 0] TRt (0, 0)) := by rw [hw9]; exact (Below.heap_setCell _ _ _ _ HF.out.2.2.2).trans HF.out.1
  have ha9 := HF.out.2.1.lock 0
  have hf9 := HF.out.2.2.1.trans (AF.of_setS 0 (.int .i32 0))
  rw [← hw9] at ha9 hf9
  obtain ⟨q0, q1, q2, q3, -⟩ := get4 hr9
  refine ⟨.agg #[.int .i64 (lvC ⟨8, who, kc, kf, ks, sd, ac, ep, nn⟩ (s i)), .int .u64 0, .int .u64 0, .int .u64 0], ?_, rfl, _, ha9, hf9⟩
  simp [results, Tryz.results8, go_sem, q0, q1, q2, q3]
set_option maxRecDepth 20000 in
set_option maxHeartbeats 2000000 in
theorem do_syn (who kc kf ks sd ac ep nn : Int) (i : Nat) (hA : y.A ≤ 1000000) (hw : 1 ≤ who) (hi : idx y.A sd ac = some i) (he : (s i).ep ≠ 18446744073709551615) (h0 : 0 ≤ (s i).ep) (h9 : (s i).ep ≤ 18446744073709551615) (h : AIs base W y y.A y.A 0 v0 v1 v s) :
    Calls Tryz.prog 8 #[.pointer (some ⟨y.S, 0, none⟩), .agg #[.int .i64 9, .int .i64 who, .int .i64 kc, .int .i64 kf, .int .u64 ks, .int .i64 sd, .int .i64 ac, .int .u64 ep, .int .u64 nn]] W fun e w' => e = .returned (rt 0 ((s i).ep + 1) 0 0) ∧ ∃ v', AIs base w' y y.A y.A 0 v0 v1 v' (upd s i (⟨(s i).ep + 1, nn, [], []⟩)) ∧ AF y y.A y.A v v' W w' := by
  unfold rt
  have d3 : decide (who < 1) = false := decide_eq_false (by omega)
  have hv := idx_val hi
  have HC := Lib.hid (And.intro he (And.intro h0 h9))
  clear he h0 h9
  clear hw
  have h0 := DoW.start h #[.int .i64 9, .int .i64 who, .int .i64 kc, .int .i64 kf, .int .u64 ks, .int .i64 sd, .int .i64 ac, .int .u64 ep, .int .u64 nn]
  obtain ⟨w0, hw0⟩ : ∃ X, X = (W.alloc (.cells #[.int .i64 9, .int .i64 who, .int .i64 kc, .int .i64 kf, .int .u64 ks, .int .i64 sd, .int .i64 ac, .int .u64 ep, .int .u64 nn] TOp)).alloc (.cells #[.int .i64 0, .int .u64 0, .int .u64 0, .int .u64 0] TRt) := ⟨_, rfl⟩
  obtain ⟨P, hP⟩ : ∃ P, P = W.heap.size := ⟨_, rfl⟩
  obtain ⟨R, hR⟩ : ∃ R, R = P + 1 := ⟨_, rfl⟩
  rw [← hw0, ← hP, ← hR] at h0
  have H0 := Lib.hid h0
  have p0 := cell_of_row w0 P 0 _ _ (0, 0) h0.op
  have p1 := cell_of_row w0 P 1 _ _ (0, 0) h0.op
  obtain ⟨r0, r1, r2, r3, rf⟩ := get4 h0.rt
  obtain ⟨c0, -, -, f0⟩ := h0.al.cellS
  clear h h0
  go_enter_defers Tryz.func8, Tryz.ntmps8
  go_upto_region 1 with fail
  rw [← hw0, ← hP, ← hR]
  clear hw0 hP hR
  go_wp2_with fail
  refine (lock_free muLib ⟨y.S, 0, none⟩ _ c0 f0).mono ?_
  rintro _ w1 ⟨rfl, hw⟩
  clear p0 p1 r0 r1 r2 r3 rf
  have h1 := H0.out.lock 1
  rw [← hw] at h1
  have H1 := Lib.hid h1
  have p0 := cell_of_row w1 P 0 _ _ (0, 0) h1.op
  have p1 := cell_of_row w1 P 1 _ _ (0, 0) h1.op
  have p2 := cell_of_row w1 P 2 _ _ (0, 0) h1.op
  have p3 := cell_of_row w1 P 3 _ _ (0, 0) h1.op
  have p4 := cell_of_row w1 P 4 _ _ (0, 0) h1.op
  have p5 := cell_of_row w1 P 5 _ _ (0, 0) h1.op
  have p6 := cell_of_row w1 P 6 _ _ (0, 0) h1.op
  have p7 := cell_of_row w1 P 7 _ _ (0, 0) h1.op
  have p8 := cell_of_row w1 P 8 _ _ (0, 0) h1.op
  obtain ⟨r0, r1, r2, r3, rf⟩ := get4 h1.rt
  clear hw c0 f0 h1 H0
  go_wp2_with fail
  refine (of_any sd ac H1.out.al hA).mono ?_
  rintro _ w2 ⟨rfl, rfl⟩
  rw [hi]
  unfold numV
  go_wp2_with fail
  refine (resync_any (H1.out.al.it i hv) HC.out.1 HC.out.2.1 HC.out.2.2 nn).mono ?_
  rintro _ w3 ⟨rfl, v', hn, hf⟩
  have h3 := H1.out.turn hv hn hf
  obtain ⟨r0, r1, r2, r3, rf⟩ := get4 h3.rt
  have H3 := Lib.hid h3
  clear hn hf h3 H1 p0 p1 p2 p3 p4 p5 p6 p7 p8
  unfold rt
  have HF := Lib.hid ((H3.out).fin (.int .i64 0) (.int .u64 ((s i).ep + 1)) (.int .u64 0) (.int .u64 0))
  go_wp2
  generalize ((((w3.setCell ⟨R, 0, none⟩ (.int .i64 0)).setCell ⟨R, 1, none⟩ (.int .u64 ((s i).ep + 1))).setCell ⟨R, 2, none⟩ (.int .u64 0)).setCell ⟨R, 3, none⟩ (.int .u64 0)) = V4 at HF ⊢
  refine leaves_cons (f := 23) (args := #[.pointer (some ⟨y.S, 0, none⟩)]) (by simp) (by simp [go_sem]) ?_
  refine (unlock_deferred muLib ⟨y.S, 0, none⟩ .returning _ HF.out.2.1.cellS.1 HF.out.2.1.cellS.2.2.2).mono ?_
  rintro _ u' w9 ⟨rfl, rfl, hw9⟩
  have hr9 : w9.heap[R]? = some (.cells #[.int .i64 0, .int .u64 ((s i).ep + 1), .int .u64 0, .int .u64 0] TRt (0, 0)) := by rw [hw9]; exact (Below.heap_setCell _ _ _ _ HF.out.2.2.2).trans HF.out.1
  have ha9 := HF.out.2.1.lock 0
  have hf9 := HF.out.2.2.1.trans (AF.of_setS 0 (.int .i32 0))
  rw [← hw9] at ha9 hf9
  obtain ⟨q0, q1, q2, q3, -⟩ := get4 hr9
  refine ⟨.agg #[.int .i64 0, .int .u64 ((s i).ep + 1), .int .u64 0, .int .u64 0], ?_, rfl, _, ha9, hf9⟩
  simp [results, Tryz.results8, go_sem, q0, q1, q2, q3]
set_option maxRecDepth 20000 in
set_option maxHeartbeats 2000000 in
theorem do_top (who kc kf ks sd ac ep nn : Int) (i : Nat) (hA : y.A ≤ 1000000) (hw : 1 ≤ who) (hi : idx y.A sd ac = some i) (he : (s i).ep = 18446744073709551615) (h : AIs base W y y.A y.A 0 v0 v1 v s) :
    Calls Tryz.prog 8 #[.pointer (some ⟨y.S, 0, none⟩), .agg #[.int .i64 9, .int .i64 who, .int .i64 kc, .int .i64 kf, .int .u64 ks, .int .i64 sd, .int .i64 ac, .int .u64 ep, .int .u64 nn]] W fun e w' => e = .returned (rt 11 0 0 0) ∧ ∃ v', AIs base w' y y.A y.A 0 v0 v1 v' (upd s i (s i)) ∧ AF y y.A y.A v v' W w' := by
  unfold rt
  have d3 : decide (who < 1) = false := decide_eq_false (by omega)
  have hv := idx_val hi
  have HC := Lib.hid he
  clear he
  clear hw
  have h0 := DoW.start h #[.int .i64 9, .int .i64 who, .int .i64 kc, .int .i64 kf, .int .u64 ks, .int .i64 sd, .int .i64 ac, .int .u64 ep, .int .u64 nn]
  obtain ⟨w0, hw0⟩ : ∃ X, X = (W.alloc (.cells #[.int .i64 9, .int .i64 who, .int .i64 kc, .int .i64 kf, .int .u64 ks, .int .i64 sd, .int .i64 ac, .int .u64 ep, .int .u64 nn] TOp)).alloc (.cells #[.int .i64 0, .int .u64 0, .int .u64 0, .int .u64 0] TRt) := ⟨_, rfl⟩
  obtain ⟨P, hP⟩ : ∃ P, P = W.heap.size := ⟨_, rfl⟩
  obtain ⟨R, hR⟩ : ∃ R, R = P + 1 := ⟨_, rfl⟩
  rw [← hw0, ← hP, ← hR] at h0
  have H0 := Lib.hid h0
  have p0 := cell_of_row w0 P 0 _ _ (0, 0) h0.op
  have p1 := cell_of_row w0 P 1 _ _ (0, 0) h0.op
  obtain ⟨r0, r1, r2, r3, rf⟩ := get4 h0.rt
  obtain ⟨c0, -, -, f0⟩ := h0.al.cellS
  clear h h0
  go_enter_defers Tryz.func8, Tryz.ntmps8
  go_upto_region 1 with fail
  rw [← hw0, ← hP, ← hR]
  clear hw0 hP hR
  go_wp2_with fail
  refine (lock_free muLib ⟨y.S, 0, none⟩ _ c0 f0).mono ?_
  rintro _ w1 ⟨rfl, hw⟩
  clear p0 p1 r0 r1 r2 r3 rf
  have h1 := H0.out.lock 1
  rw [← hw] at h1
  have H1 := Lib.hid h1
  have p0 := cell_of_row w1 P 0 _ _ (0, 0) h1.op
  have p1 := cell_of_row w1 P 1 _ _ (0, 0) h1.op
  have p2 := cell_of_row w1 P 2 _ _ (0, 0) h1.op
  have p3 := cell_of_row w1 P 3 _ _ (0, 0) h1.op
  have p4 := cell_of_row w1 P 4 _ _ (0, 0) h1.op
  have p5 := cell_of_row w1 P 5 _ _ (0, 0) h1.op
  have p6 := cell_of_row w1 P 6 _ _ (0, 0) h1.op
  have p7 := cell_of_row w1 P 7 _ _ (0, 0) h1.op
  have p8 := cell_of_row w1 P 8 _ _ (0, 0) h1.op
  obtain ⟨r0, r1, r2, r3, rf⟩ := get4 h1.rt
  clear hw c0 f0 h1 H0
  go_wp2_with fail
  refine (of_any sd ac H1.out.al hA).mono ?_
  rintro _ w2 ⟨rfl, rfl⟩
  rw [hi]
  unfold numV
  go_wp2_with fail
  refine (resync_top (H1.out.al.it i hv) HC.out nn).mono ?_
  rintro _ w3 ⟨rfl, hn, hf⟩
  have h3 := H1.out.turn hv hn hf
  obtain ⟨r0, r1, r2, r3, rf⟩ := get4 h3.rt
  have H3 := Lib.hid h3
  clear hn hf h3 H1 p0 p1 p2 p3 p4 p5 p6 p7 p8
  unfold rt
  have HF := Lib.hid ((H3.out).fin (.int .i64 11) (.int .u64 0) (.int .u64 0) (.int .u64 0))
  go_wp2
  generalize ((((w3.setCell ⟨R, 0, none⟩ (.int .i64 11)).setCell ⟨R, 1, none⟩ (.int .u64 0)).setCell ⟨R, 2, none⟩ (.int .u64 0)).setCell ⟨R, 3, none⟩ (.int .u64 0)) = V4 at HF ⊢
  refine leaves_cons (f := 23) (args := #[.pointer (some ⟨y.S, 0, none⟩)]) (by simp) (by simp [go_sem]) ?_
  refine (unlock_deferred muLib ⟨y.S, 0, none⟩ .returning _ HF.out.2.1.cellS.1 HF.out.2.1.cellS.2.2.2).mono ?_
  rintro _ u' w9 ⟨rfl, rfl, hw9⟩
  have hr9 : w9.heap[R]? = some (.cells #[.int .i64 11, .int .u64 0, .int .u64 0, .int .u64 0] TRt (0, 0)) := by rw [hw9]; exact (Below.heap_setCell _ _ _ _ HF.out.2.2.2).trans HF.out.1
  have ha9 := HF.out.2.1.lock 0
  have hf9 := HF.out.2.2.1.trans (AF.of_setS 0 (.int .i32 0))
  rw [← hw9] at ha9 hf9
  obtain ⟨q0, q1, q2, q3, -⟩ := get4 hr9
  refine ⟨.agg #[.int .i64 11, .int .u64 0, .int .u64 0, .int .u64 0], ?_, rfl, _, ha9, hf9⟩
  simp [results, Tryz.results8, go_sem, q0, q1, q2, q3]
set_option maxRecDepth 20000 in
set_option maxHeartbeats 2000000 in
theorem do_drop (who kc kf ks sd ac ep nn : Int) (i : Nat) (hA : y.A ≤ 1000000) (hw : 1 ≤ who) (hi : idx y.A sd ac = some i) (m : Nat) (hS : SortU m) (hm : (s i).M.length ≤ m) (hm9 : m ≤ 1000000) (hnd : ((s i).M.map (·.1)).Nodup) (hbd : ∀ x ∈ (s i).M, 0 ≤ x.1 ∧ x.1 ≤ 18446744073709551615) (hf : (s i).L.length + (s i).M.length ≤ 900) (h : AIs base W y y.A y.A 0 v0 v1 v s) :
    Calls Tryz.prog 8 #[.pointer (some ⟨y.S, 0, none⟩), .agg #[.int .i64 10, .int .i64 who, .int .i64 kc, .int .i64 kf, .int .u64 ks, .int .i64 sd, .int .i64 ac, .int .u64 ep, .int .u64 nn]] W fun e w' => e = .returned (rt 0 0 ((hbs who (s i).M).length : Int) 0) ∧ ∃ v', AIs base w' y y.A y.A 0 v0 v1 v' (upd s i (drS who (s i))) ∧ AF y y.A y.A v v' W w' := by
  unfold rt
  have d3 : decide (who < 1) = false := decide_eq_false (by omega)
  have hv := idx_val hi
  have HC := Lib.hid (And.intro hS (And.intro hm (And.intro hm9 (And.intro hnd (And.intro hbd hf)))))
  clear hS hm hm9 hnd hbd hf
  clear hw
  have h0 := DoW.start h #[.int .i64 10, .int .i64 who, .int .i64 kc, .int .i64 kf, .int .u64 ks, .int .i64 sd, .int .i64 ac, .int .u64 ep, .int .u64 nn]
  obtain ⟨w0, hw0⟩ : ∃ X, X = (W.alloc (.cells #[.int .i64 10, .int .i64 who, .int .i64 kc, .int .i64 kf, .int .u64 ks, .int .i64 sd, .int .i64 ac, .int .u64 ep, .int .u64 nn] TOp)).alloc (.cells #[.int .i64 0, .int .u64 0, .int .u64 0, .int .u64 0] TRt) := ⟨_, rfl⟩
  obtain ⟨P, hP⟩ : ∃ P, P = W.heap.size := ⟨_, rfl⟩
  obtain ⟨R, hR⟩ : ∃ R, R = P + 1 := ⟨_, rfl⟩
  rw [← hw0, ← hP, ← hR] at h0
  have H0 := Lib.hid h0
  have p0 := cell_of_row w0 P 0 _ _ (0, 0) h0.op
  have p1 := cell_of_row w0 P 1 _ _ (0, 0) h0.op
  obtain ⟨r0, r1, r2, r3, rf⟩ := get4 h0.rt
  obtain ⟨c0, -, -, f0⟩ := h0.al.cellS
  clear h h0
  go_enter_defers Tryz.func8, Tryz.ntmps8
  go_upto_region 1 with fail
  rw [← hw0, ← hP, ← hR]
  clear hw0 hP hR
  go_wp2_with fail
  refine (lock_free muLib ⟨y.S, 0, none⟩ _ c0 f0).mono ?_
  rintro _ w1 ⟨rfl, hw⟩
  clear p0 p1 r0 r1 r2 r3 rf
  have h1 := H0.out.lock 1
  rw [← hw] at h1
  have H1 := Lib.hid h1
  have p0 := cell_of_row w1 P 0 _ _ (0, 0) h1.op
  have p1 := cell_of_row w1 P 1 _ _ (0, 0) h1.op
  have p2 := cell_of_row w1 P 2 _ _ (0, 0) h1.op
  have p3 := cell_of_row w1 P 3 _ _ (0, 0) h1.op
  have p4 := cell_of_row w1 P 4 _ _ (0, 0) h1.op
  have p5 := cell_of_row w1 P 5 _ _ (0, 0) h1.op
  have p6 := cell_of_row w1 P 6 _ _ (0, 0) h1.op
  have p7 := cell_of_row w1 P 7 _ _ (0, 0) h1.op
  have p8 := cell_of_row w1 P 8 _ _ (0, 0) h1.op
  obtain ⟨r0, r1, r2, r3, rf⟩ := get4 h1.rt
  clear hw c0 f0 h1 H0
  go_wp2_with fail
  refine (of_any sd ac H1.out.al hA).mono ?_
  rintro _ w2 ⟨rfl, rfl⟩
  rw [hi]
  unfold numV
  go_wp2_with fail
  refine (drop_any (H1.out.al.it i hv) who m HC.out.1 HC.out.2.1 HC.out.2.2.1 HC.out.2.2.2.1 HC.out.2.2.2.2.1 HC.out.2.2.2.2.2).mono ?_
  rintro _ w3 ⟨rfl, v', hn, hf⟩
  have h3 := H1.out.turn hv hn hf
  obtain ⟨r0, r1, r2, r3, rf⟩ := get4 h3.rt
  have H3 := Lib.hid h3
  clear hn hf h3 H1 p0 p1 p2 p3 p4 p5 p6 p7 p8
  have HF := Lib.hid ((H3.out).fin (.int .i64 0) (.int .u64 0) (.int .u64 ((hbs who (s i).M).length : Int)) (.int .u64 0))
  go_wp2
  generalize ((((w3.setCell ⟨R, 0, none⟩ (.int .i64 0)).setCell ⟨R, 1, none⟩ (.int .u64 0)).setCell ⟨R, 2, none⟩ (.int .u64 ((hbs who (s i).M).length : Int))).setCell ⟨R, 3, none⟩ (.int .u64 0)) = V4 at HF ⊢
  refine leaves_cons (f := 23) (args := #[.pointer (some ⟨y.S, 0, none⟩)]) (by simp) (by simp [go_sem]) ?_
  refine (unlock_deferred muLib ⟨y.S, 0, none⟩ .returning _ HF.out.2.1.cellS.1 HF.out.2.1.cellS.2.2.2).mono ?_
  rintro _ u' w9 ⟨rfl, rfl, hw9⟩
  have hr9 : w9.heap[R]? = some (.cells #[.int .i64 0, .int .u64 0, .int .u64 ((hbs who (s i).M).length : Int), .int .u64 0] TRt (0, 0)) := by rw [hw9]; exact (Below.heap_setCell _ _ _ _ HF.out.2.2.2).trans HF.out.1
  have ha9 := HF.out.2.1.lock 0
  have hf9 := HF.out.2.2.1.trans (AF.of_setS 0 (.int .i32 0))
  rw [← hw9] at ha9 hf9
  obtain ⟨q0, q1, q2, q3, -⟩ := get4 hr9
  refine ⟨.agg #[.int .i64 0, .int .u64 0, .int .u64 ((hbs who (s i).M).length : Int), .int .u64 0], ?_, rfl, _, ha9, hf9⟩
  simp [results, Tryz.results8, go_sem, q0, q1, q2, q3]
end
end Go.Proofs.YtpkkomifenlkaaaGreat.Au
