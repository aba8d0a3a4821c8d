/- law24's awake. -/
import Derived.Test.YtpkkomifenlkaaaGreatAlLaw
import Derived.Test.YtpkkomifenlkaaaGreatAlNew
import Derived.Test.YtpkkomifenlkaaaGreatConfPlainRow
import Derived.Deep.WholeRow
namespace Go.Proofs.YtpkkomifenlkaaaGreat.Au
open Go Go.RowKit Go.MuLone Conf
set_option linter.unusedVariables false

abbrev TPA : Nat := 27
/-- a config of one channel, one account -/
def c1 (A : Option Addr) (cap : Nat) (f : Int) : Cfg := ⟨A, 1, cap, 1, 2, 8, 8, 4, 3, 2, 4, 6, 0, f⟩
theorem c1_code (A : Option Addr) (cap : Nat) (f : Int) : code (c1 A cap f) 11 0 = 0 := by rfl
section
variable {base : Nat} {y : Alo} {v0 v1 : Value} {v u : Nat → Value} {s : Nat → Nu} {W V X : World} {k : Nat}
theorem rtv_eq (r : Int × Int × Int × Int) : ∃ a b c d, r = (a, b, c, d) ∧ rtv r = .agg #[.int .i64 a, .int .u64 b, .int .u64 c, .int .u64 d] := by
  obtain ⟨a, b, c, d⟩ := r
  exact ⟨a, b, c, d, rfl, rfl⟩
set_option maxRecDepth 20000 in
theorem res_any (B : Nat) (n : Int) (h : AIs base V y y.A y.A 0 v0 v1 v s) (hA : y.A ≤ 1000000) (hok : ∀ i, Val y.A y.A y.A i → NOk (s i) k) (hk : k ≤ 892) (hn : 0 ≤ n ∧ n ≤ 18446744073709551615) (hB : V.heap[B]? = some (.cells #[.pointer (some ⟨y.S, 0, none⟩)] TPA (0, 0))) :
    Calls Tryz.prog 35 #[.int .u64 n, .pointer (some ⟨B, 0, none⟩)] V fun e w' => e = .returned (rtv (doR y.A ⟨6, 1, 0, 0, 0, 0, 1, 0, n⟩ s)) ∧ ∃ v', AIs base w' y y.A y.A 0 v0 v1 v' (doS y.A ⟨6, 1, 0, 0, 0, 0, 1, 0, n⟩ s) ∧ AF y y.A y.A v v' V w' := by
  have b0 : Below V.heap.size V (V.alloc (.cells #[.int .i64 0, .int .u64 0, .int .u64 0, .int .u64 0] TRt)) := (Below.refl _ _).alloc (Nat.le_refl _) _
  have hr := heap_alloc_new V (.cells #[.int .i64 0, .int .u64 0, .int .u64 0, .int .u64 0] TRt)
  have h0 := h.below b0
  have hf := h.fre_new (Nat.le_refl V.heap.size)
  obtain ⟨R, hR⟩ : ∃ R, R = V.heap.size := ⟨_, rfl⟩
  obtain ⟨w0, hw0⟩ : ∃ X, X = V.alloc (.cells #[.int .i64 0, .int .u64 0, .int .u64 0, .int .u64 0] TRt) := ⟨_, rfl⟩
  rw [← hw0] at b0 hr h0
  rw [← hR] at hr hf
  have q0 := cell_of_row w0 B 0 _ _ (0, 0) ((b0.block _ (ltO hB)).trans hB)
  have HD := Lib.hid (do_any ⟨6, 1, 0, 0, 0, 0, 1, 0, n⟩ h0 hA hok hk (fun e => by cases e) hn)
  unfold Oq.val Oq.cells at HD
  dsimp only at HD
  have HX := Lib.hid (And.intro hr (And.intro hf (And.intro b0 hR)))
  obtain ⟨a, b, c, d, e1, e2⟩ := rtv_eq (doR y.A ⟨6, 1, 0, 0, 0, 0, 1, 0, n⟩ s)
  rw [e2] at HD ⊢
  generalize doS y.A ⟨6, 1, 0, 0, 0, 0, 1, 0, n⟩ s = s' at HD ⊢
  clear b0 hr h0 hf h e1 e2 hB hok hn
  go_enter Tryz.func35, Tryz.ntmps35
  go_upto_region 1 with fail
  rw [← hw0, ← hR]
  clear hw0 hR
  go_wp2_with fail
  refine HD.out.mono ?_
  rintro _ w1 ⟨rfl, v', h1, f1⟩
  have hr1 := (f1.block R (ltO HX.out.1) HX.out.2.1.1).trans HX.out.1
  have hf1 := f1.free R (ltO HX.out.1) HX.out.2.1.1
  obtain ⟨r0, r1, r2, r3, rf⟩ := get4 hr1
  have HF := Lib.hid (And.intro (set4 (.int .i64 a) (.int .u64 b) (.int .u64 c) (.int .u64 d) hr1) (And.intro (h1.set4 ⟨hf1, HX.out.2.1.2⟩ (.int .i64 a) (.int .u64 b) (.int .u64 c) (.int .u64 d)) (((AF.of_below HX.out.2.2.1).trans f1).set4 (R := R) (by have := HX.out.2.2.2; omega) (.int .i64 a) (.int .u64 b) (.int .u64 c) (.int .u64 d))))
  clear h1 f1 hr1 hf1 HD HX
  go_wp2
  generalize ((((w1.setCell ⟨R, 0, none⟩ (.int .i64 a)).setCell ⟨R, 1, none⟩ (.int .u64 b)).setCell ⟨R, 2, none⟩ (.int .u64 c)).setCell ⟨R, 3, none⟩ (.int .u64 d)) = V4 at HF ⊢
  obtain ⟨q0, q1, q2, q3, -⟩ := get4 HF.out.1
  simp [bodyPost, results, Tryz.results35, go_sem, q0, q1, q2, q3]
  exact ⟨v', HF.out.2⟩
end
theorem s00_ok (f : Int) (h : 0 ≤ f ∧ f ≤ 18446744073709551615) (i : Nat) : NOk (s00 f i) 0 := NOk.new f h
abbrev oR (n : Int) : Oq := ⟨6, 1, 0, 0, 0, 0, 1, 0, n⟩
abbrev oB (n : Int) : Oq := ⟨8, 1, 0, 0, 0, 0, 1, 0, n⟩
theorem ex1 : doR 1 (oR 2) (s00 5) = (0, 0, 5, 2) := by decide +kernel
theorem ex2 : doR 1 (oR 1) (doS 1 (oR 2) (s00 5)) = (0, 0, 7, 1) := by decide +kernel
theorem ex3 : doR 1 (oB 5) (doS 1 (oR 1) (doS 1 (oR 2) (s00 5))) = (0, 0, 0, 0) := by decide +kernel
theorem ex4 : doR 1 (oR 3) (doS 1 (oB 5) (doS 1 (oR 1) (doS 1 (oR 2) (s00 5)))) = (0, 0, 5, 1) := by decide +kernel
/-- the example's world: the allocator, its pointer's box B -/
structure Aw (W V : World) (y : Alo) (B : Nat) (v : Nat → Value) (s : Nat → Nu) : Prop where
  ex : ∃ base v0 v1, W.heap.size ≤ base ∧ AIs base V y y.A y.A 0 v0 v1 v s
  A : y.A ≤ 1000000
  bx : V.heap[B]? = some (.cells #[.pointer (some ⟨y.S, 0, none⟩)] TPA (0, 0))
  fr : Fre y y.A y.A v B
  bel : Below W.heap.size W V
section
variable {W V X : World} {y : Alo} {B : Nat} {v : Nat → Value} {s : Nat → Nu} {k : Nat}
theorem Aw.below (h : Aw W V y B v s) (b : Below V.heap.size V X) : Aw W X y B v s := by
  obtain ⟨base, v0, v1, hb, ha⟩ := h.ex
  exact ⟨⟨base, v0, v1, hb, ha.below b⟩, h.A, kp b h.bx, h.fr, h.bel.trans (b.mono h.bel.size)⟩
theorem Aw.new (h : Aw W V y B v s) {j : Nat} (hj : V.heap.size ≤ j) : Fre y y.A y.A v j := by
  obtain ⟨base, v0, v1, hb, ha⟩ := h.ex
  exact (ha.fre_new hj).1
theorem Aw.res (h : Aw W V y B v s) (n : Int) (hok : ∀ i, NOk (s i) k) (hk : k ≤ 892) (hn : 0 ≤ n ∧ n ≤ 18446744073709551615) {a b c d : Int} (hr : doR y.A (oR n) s = (a, b, c, d)) :
    Calls Tryz.prog 35 #[.int .u64 n, .pointer (some ⟨B, 0, none⟩)] V fun e w' => e = .returned (.agg #[.int .i64 a, .int .u64 b, .int .u64 c, .int .u64 d]) ∧ ∃ v', Aw W w' y B v' (doS y.A (oR n) s) ∧ AF y y.A y.A v v' V w' := by
  obtain ⟨base, v0, v1, hb, ha⟩ := h.ex
  refine (res_any B n ha h.A (fun i _ => hok i) hk hn h.bx).mono ?_
  rintro e w' ⟨rfl, v', h1, h2⟩
  have h3 := h2.below ha
  exact ⟨by rw [hr]; rfl, v', ⟨⟨base, v0, v1, hb, h1⟩, h.A, (h2.block B (ltO h.bx) h.fr).trans h.bx, h2.free B (ltO h.bx) h.fr, h.bel.trans (h3.mono hb)⟩, h2⟩
theorem Aw.doo (h : Aw W V y B v s) (o : Oq) (hok : ∀ i, NOk (s i) k) (hk : k ≤ 892) (hS : o.kd = 10 → SortU k) (hn : 0 ≤ o.nn ∧ o.nn ≤ 18446744073709551615) {a b c d : Int} (hr : doR y.A o s = (a, b, c, d)) :
    Calls Tryz.prog 8 #[.pointer (some ⟨y.S, 0, none⟩), o.val] V fun e w' => e = .returned (.agg #[.int .i64 a, .int .u64 b, .int .u64 c, .int .u64 d]) ∧ ∃ v', Aw W w' y B v' (doS y.A o s) ∧ AF y y.A y.A v v' V w' := by
  obtain ⟨base, v0, v1, hb, ha⟩ := h.ex
  refine (do_any o ha h.A (fun i _ => hok i) hk hS hn).mono ?_
  rintro e w' ⟨rfl, v', h1, h2⟩
  have h3 := h2.below ha
  exact ⟨by rw [hr]; rfl, v', ⟨⟨base, v0, v1, hb, h1⟩, h.A, (h2.block B (ltO h.bx) h.fr).trans h.bx, h2.free B (ltO h.bx) h.fr, h.bel.trans (h3.mono hb)⟩, h2⟩
end
theorem all_ok {A : Nat} {o : Oq} {s : Nat → Nu} {k : Nat} (h : ∀ i, NOk (s i) k) (hk : k ≤ 1000) (hn : 0 ≤ o.nn ∧ o.nn ≤ 18446744073709551615) : ∀ i, NOk (doS A o s i) (k + 8) := by
  intro i
  unfold doS
  split
  · exact (h i).more (by omega)
  · cases hj : idx A o.sd o.ac with
    | none => exact (h i).more (by omega)
    | some j =>
      show NOk (upd s j (nuS o (s j)) i) _
      by_cases e : i = j
      · subst e
        rw [upd_at]
        exact nuS_ok (h i) hk hn
      · rw [upd_off e]
        exact (h i).more (by omega)
set_option maxRecDepth 20000 in
set_option maxHeartbeats 2000000 in
theorem awake_any (W : World) : Calls Tryz.prog 13 #[] W fun e w' => e = .returned (.bool true) ∧ Below W.heap.size W w' := by
  go_enter Tryz.func13, Tryz.ntmps13
  go_wp2_with fail
  refine (plain_mid 1 (by decide) 1 W).mono ?_
  rintro _ w1 ⟨A, cap, rfl, -, b1⟩
  rw [show (plain A 1 cap 1).cells = #[.slice A 1 cap, .int .i64 1, .int .i64 2, .int .i64 8, .int .i64 8, .int .i64 4, .int .i64 3, .int .i64 2, .int .i64 4, .int .i64 6, .int .i64 0, .int .u64 0] from rfl]
  have hb2 : Below W.heap.size W (w1.alloc (.cells #[.slice A 1 cap, .int .i64 1, .int .i64 2, .int .i64 8, .int .i64 8, .int .i64 4, .int .i64 3, .int .i64 2, .int .i64 4, .int .i64 6, .int .i64 0, .int .u64 5] TCf)) := b1.alloc b1.size _
  have hx := heap_alloc_new w1 (.cells #[.slice A 1 cap, .int .i64 1, .int .i64 2, .int .i64 8, .int .i64 8, .int .i64 4, .int .i64 3, .int .i64 2, .int .i64 4, .int .i64 6, .int .i64 0, .int .u64 5] TCf)
  obtain ⟨w2, hw2⟩ : ∃ X, X = w1.alloc (.cells #[.slice A 1 cap, .int .i64 1, .int .i64 2, .int .i64 8, .int .i64 8, .int .i64 4, .int .i64 3, .int .i64 2, .int .i64 4, .int .i64 6, .int .i64 0, .int .u64 5] TCf) := ⟨_, rfl⟩
  obtain ⟨C, hC⟩ : ∃ C, C = w1.heap.size := ⟨_, rfl⟩
  rw [← hw2] at hb2 hx
  rw [← hC] at hx
  have q := fun i => cell_of_row w2 C i _ _ (0, 0) hx
  have q0 := q 0; have q1 := q 1; have q2 := q 2; have q3 := q 3; have q4 := q 4; have q5 := q 5; have q6 := q 6; have q7 := q 7; have q8 := q 8; have q9 := q 9; have q10 := q 10; have q11 := q 11
  have HB2 := Lib.hid hb2
  have HN := Lib.hid (anew_any (c1 A cap 5) (c1_code A cap 5) 1 rfl (by decide) w2)
  unfold Cfg.cells c1 at HN
  dsimp only at HN
  clear q hb2 hx b1
  go_upto_region 3 with fail
  rw [← hw2, ← hC]
  clear hw2 hC
  go_wp2_with fail
  refine HN.out.mono ?_
  rintro _ w3 ⟨S, b, z0, z1, rfl, hn⟩
  have hb3 : Below w3.heap.size w3 (w3.alloc (.cells #[.pointer (some ⟨S, 0, none⟩)] TPA)) := (Below.refl _ _).alloc (Nat.le_refl _) _
  have hB3 := heap_alloc_new w3 (.cells #[.pointer (some ⟨S, 0, none⟩)] TPA)
  have H4 : Hid (Aw W (w3.alloc (.cells #[.pointer (some ⟨S, 0, none⟩)] TPA)) ⟨S, 1, b⟩ w3.heap.size v00 (s00 5)) := Lib.hid
    ⟨⟨w2.heap.size + 1, z0, z1, by have := HB2.out.size; omega, hn.al.below hb3⟩, (show (1 : Nat) ≤ 1000000 by decide), hB3, (hn.al.fre_new (Nat.le_refl _)).1, (HB2.out.trans (hn.bel.mono HB2.out.size)).alloc (Nat.le_trans HB2.out.size hn.bel.size) _⟩
  obtain ⟨B, hB⟩ : ∃ B, B = w3.heap.size := ⟨_, rfl⟩
  obtain ⟨w4, hw4⟩ : ∃ X, X = w3.alloc (.cells #[.pointer (some ⟨S, 0, none⟩)] TPA) := ⟨_, rfl⟩
  rw [← hB, ← hw4] at H4
  clear q0 q1 q2 q3 q4 q5 q6 q7 q8 q9 q10 q11 HN hn hb3 hB3 HB2
  go_upto_region 5 with fail
  rw [← hw4, ← hB]
  clear hw4 hB
  go_wp2_with fail
  refine (H4.out.res 2 (fun i => s00_ok 5 (by decide) i) (by decide) (by decide) ex1).mono ?_
  rintro _ w5 ⟨rfl, v5, h5, -⟩
  have H5 := Lib.hid h5
  clear h5 H4
  go_wp2_with fail
  refine (H5.out.res 1 (all_ok (fun i => s00_ok 5 (by decide) i) (by decide) (by decide)) (by decide) (by decide) ex2).mono ?_
  rintro _ w6 ⟨rfl, v6, h6, -⟩
  have H6 := Lib.hid h6
  clear h6 H5
  go_upto_region 6 with fail
  have b7 : Below w6.heap.size w6 ((w6.alloc (.cells #[.int .i64 0, .int .u64 0, .int .u64 5, .int .u64 2] TRt)).alloc (.cells #[.int .i64 0, .int .u64 0, .int .u64 7, .int .u64 1] TRt)) := ((Below.refl _ _).alloc (Nat.le_refl _) _).alloc (by simp) _
  have x5 : ((w6.alloc (.cells #[.int .i64 0, .int .u64 0, .int .u64 5, .int .u64 2] TRt)).alloc (.cells #[.int .i64 0, .int .u64 0, .int .u64 7, .int .u64 1] TRt)).heap[w6.heap.size]? = some (.cells #[.int .i64 0, .int .u64 0, .int .u64 5, .int .u64 2] TRt (0, 0)) := (Below.heap_alloc _ _ _ (by simp)).trans (heap_alloc_new w6 _)
  have x6 : ((w6.alloc (.cells #[.int .i64 0, .int .u64 0, .int .u64 5, .int .u64 2] TRt)).alloc (.cells #[.int .i64 0, .int .u64 0, .int .u64 7, .int .u64 1] TRt)).heap[w6.heap.size + 1]? = some (.cells #[.int .i64 0, .int .u64 0, .int .u64 7, .int .u64 1] TRt (0, 0)) := by
    have := heap_alloc_new (w6.alloc (.cells #[.int .i64 0, .int .u64 0, .int .u64 5, .int .u64 2] TRt)) (.cells #[.int .i64 0, .int .u64 0, .int .u64 7, .int .u64 1] TRt)
    simpa using this
  have H7 := H6.out.below b7
  have fP := H6.out.new (Nat.le_refl w6.heap.size)
  have fQ := H6.out.new (show w6.heap.size ≤ w6.heap.size + 1 by omega)
  obtain ⟨w7, hw7⟩ : ∃ X, X = (w6.alloc (.cells #[.int .i64 0, .int .u64 0, .int .u64 5, .int .u64 2] TRt)).alloc (.cells #[.int .i64 0, .int .u64 0, .int .u64 7, .int .u64 1] TRt) := ⟨_, rfl⟩
  obtain ⟨P, hP⟩ : ∃ P, P = w6.heap.size := ⟨_, rfl⟩
  obtain ⟨Q, hQ⟩ : ∃ Q, Q = P + 1 := ⟨_, rfl⟩
  rw [← hw7, ← hP] at x5 x6
  rw [← hw7] at H7
  rw [← hP] at fP fQ
  rw [← hQ] at x6 fQ
  rw [← hw7, ← hP, ← hQ]
  have qB := cell_of_row w7 B 0 _ _ (0, 0) H7.bx
  have HX := Lib.hid (And.intro H7 (And.intro (And.intro x5 fP) (And.intro x6 fQ)))
  have HD := Lib.hid (H7.doo (oB 5) (all_ok (all_ok (fun i => s00_ok 5 (by decide) i) (by decide) (by decide)) (by decide) (by decide)) (by decide) (fun e => by cases e) (by decide) ex3)
  unfold Oq.val Oq.cells oB at HD
  dsimp only at HD
  clear b7 x5 x6 H7 fP fQ hw7 hP hQ H6
  go_wp2_with fail
  refine HD.out.mono ?_
  rintro _ w8 ⟨rfl, v8, h8, f8⟩
  have y5 := (f8.block P (ltO HX.out.2.1.1) HX.out.2.1.2).trans HX.out.2.1.1
  have y6 := (f8.block Q (ltO HX.out.2.2.1) HX.out.2.2.2).trans HX.out.2.2.1
  have b9 : Below w8.heap.size w8 (w8.alloc (.cells #[.int .i64 0, .int .u64 0, .int .u64 0, .int .u64 0] TRt)) := (Below.refl _ _).alloc (Nat.le_refl _) _
  have z7 := heap_alloc_new w8 (.cells #[.int .i64 0, .int .u64 0, .int .u64 0, .int .u64 0] TRt)
  have z5 := kp b9 y5
  have z6 := kp b9 y6
  have h9 := h8.below b9
  obtain ⟨w9, hw9⟩ : ∃ X, X = w8.alloc (.cells #[.int .i64 0, .int .u64 0, .int .u64 0, .int .u64 0] TRt) := ⟨_, rfl⟩
  obtain ⟨T, hT⟩ : ∃ T, T = w8.heap.size := ⟨_, rfl⟩
  rw [← hw9] at z5 z6 z7 h9
  rw [← hT] at z7
  obtain ⟨p0, p1, p2, p3, -⟩ := get4 z5
  obtain ⟨r0, r1, r2, r3, -⟩ := get4 z6
  obtain ⟨t0, t1, t2, t3, -⟩ := get4 z7
  have H9 := Lib.hid h9
  clear y5 y6 b9 z5 z6 z7 h9 h8 f8 HD HX qB
  go_upto_region 7 with fail
  rw [← hw9, ← hT]
  clear hw9 hT
  go_wp2_with fail
  refine (H9.out.res 3 (all_ok (all_ok (all_ok (fun i => s00_ok 5 (by decide) i) (by decide) (by decide)) (by decide) (by decide)) (by decide) (by decide)) (by decide) (by decide) ex4).mono ?_
  rintro _ w10 ⟨rfl, v10, h10, -⟩
  have H10 := Lib.hid h10.bel
  clear h10 H9 p0 p1 p2 p3 r0 r1 r2 r3 t0 t1 t2 t3
  go_wp2
  go_ret
  exact ⟨rfl, H10.out⟩
end Go.Proofs.YtpkkomifenlkaaaGreat.Au
