/- AllocNobody. -/
import Derived.Test.YtpkkomifenlkaaaGreatAlAwake
import Derived.Test.YtpkkomifenlkaaaGreatAllocNil
import Derived.Test.YtpkkomifenlkaaaGreatSortNil
import Derived.Test.YtpkkomifenlkaaaGreatOqOpen
namespace Go.Proofs.YtpkkomifenlkaaaGreat.Au
open Go Go.RowKit Go.MuLone Conf Go.ChangeShapes Go.WideShapes Go.Deep
set_option linter.unusedVariables false

abbrev opC (kd who kc kf ks sd ac ep nn : Int) : Array Value := #[.int .i64 kd, .int .i64 who, .int .i64 kc, .int .i64 kf, .int .u64 ks, .int .i64 sd, .int .i64 ac, .int .u64 ep, .int .u64 nn]
set_option maxRecDepth 20000 in
theorem do_nil (kd who kc kf ks sd ac ep nn : Int) (W : World) : Calls Tryz.prog 8 #[.pointer none, .agg (opC kd who kc kf ks sd ac ep nn)] W fun e w' => e = .returned (.agg #[.int .i64 1, .int .u64 0, .int .u64 0, .int .u64 0]) ∧ Below W.heap.size W w' := by
  have b0 : Below W.heap.size W ((W.alloc (.cells (opC kd who kc kf ks sd ac ep nn) TOp)).alloc (.cells #[.int .i64 0, .int .u64 0, .int .u64 0, .int .u64 0] TRt)) := ((Below.refl _ _).alloc (Nat.le_refl _) _).alloc (by simp) _
  have hr : ((W.alloc (.cells (opC kd who kc kf ks sd ac ep nn) TOp)).alloc (.cells #[.int .i64 0, .int .u64 0, .int .u64 0, .int .u64 0] TRt)).heap[W.heap.size + 1]? = some (.cells #[.int .i64 0, .int .u64 0, .int .u64 0, .int .u64 0] TRt (0, 0)) := by
    have := heap_alloc_new (W.alloc (.cells (opC kd who kc kf ks sd ac ep nn) TOp)) (.cells #[.int .i64 0, .int .u64 0, .int .u64 0, .int .u64 0] TRt)
    simpa using this
  obtain ⟨w0, hw0⟩ : ∃ X, X = (W.alloc (.cells (opC kd who kc kf ks sd ac ep nn) TOp)).alloc (.cells #[.int .i64 0, .int .u64 0, .int .u64 0, .int .u64 0] TRt) := ⟨_, rfl⟩
  obtain ⟨R, hR⟩ : ∃ R, R = W.heap.size + 1 := ⟨_, rfl⟩
  rw [← hw0] at b0 hr
  rw [← hR] at hr
  obtain ⟨r0, r1, r2, r3, rf⟩ := get4 hr
  have s1 := b0.setCell (p := ⟨R, 0, none⟩) (by show W.heap.size ≤ R; omega) (.int .i64 1)
  have s2 := s1.setCell (p := ⟨R, 1, none⟩) (by show W.heap.size ≤ R; omega) (.int .u64 0)
  have s3 := s2.setCell (p := ⟨R, 2, none⟩) (by show W.heap.size ≤ R; omega) (.int .u64 0)
  have s4 := s3.setCell (p := ⟨R, 3, none⟩) (by show W.heap.size ≤ R; omega) (.int .u64 0)
  have HF := Lib.hid (And.intro (set4 (.int .i64 1) (.int .u64 0) (.int .u64 0) (.int .u64 0) hr) s4)
  clear b0 hr s1 s2 s3 s4
  go_enter_defers Tryz.func8, Tryz.ntmps8
  go_upto_region 1 with fail
  rw [← hw0, ← hR]
  clear hw0 hR
  go_wp2
  generalize ((((w0.setCell ⟨R, 0, none⟩ (.int .i64 1)).setCell ⟨R, 1, none⟩ (.int .u64 0)).setCell ⟨R, 2, none⟩ (.int .u64 0)).setCell ⟨R, 3, none⟩ (.int .u64 0)) = V4 at HF ⊢
  obtain ⟨q0, q1, q2, q3, -⟩ := get4 HF.out.1
  simp [bodyPostD, Leaves, results, Tryz.results8, go_sem, q0, q1, q2, q3]
  exact HF.out.2
/-- where there are numbers in an allocator of one account -/
theorem idx1 (sd ac : Int) : (idx 1 sd ac).isSome = ((sd == 0 || sd == 1) && ac == 1) := by
  unfold idx
  by_cases h : 0 ≤ sd ∧ sd ≤ 1 ∧ 1 ≤ ac ∧ ac ≤ ((1 : Nat) : Int)
  · rw [if_pos h]
    have : (sd = 0 ∨ sd = 1) ∧ ac = 1 := by omega
    simp [this]
  · rw [if_neg h]
    have : ¬((sd = 0 ∨ sd = 1) ∧ ac = 1) := by omega
    simp only [Option.isSome_none]
    symm
    rw [Bool.eq_false_iff]
    intro e
    simp at e
    exact this e
set_option maxRecDepth 20000 in
set_option maxHeartbeats 4000000 in
theorem nobody (kd who kc kf ks sd ac ep nn : Int) (W : World) : Calls Tryz.prog 3 #[.agg (opC kd who kc kf ks sd ac ep nn)] W fun e w' => e = .returned (.bool true) ∧ Below W.heap.size W w' := by
  have hx := heap_alloc_new W (.cells (opC kd who kc kf ks sd ac ep nn) TOp)
  have b0 : Below W.heap.size W (W.alloc (.cells (opC kd who kc kf ks sd ac ep nn) TOp)) := (Below.refl _ _).alloc (Nat.le_refl _) _
  obtain ⟨w0, hw0⟩ : ∃ X, X = W.alloc (.cells (opC kd who kc kf ks sd ac ep nn) TOp) := ⟨_, rfl⟩
  obtain ⟨P, hP⟩ : ∃ P, P = W.heap.size := ⟨_, rfl⟩
  rw [← hw0, ← hP] at hx
  have cel : ∀ (V : World), V.heap[P]? = some (.cells (opC kd who kc kf ks sd ac ep nn) TOp (0, 0)) → V.cell? ⟨P, 0, none⟩ = some (.int .i64 kd) ∧ V.cell? ⟨P, 1, none⟩ = some (.int .i64 who) ∧ V.cell? ⟨P, 2, none⟩ = some (.int .i64 kc) ∧ V.cell? ⟨P, 3, none⟩ = some (.int .i64 kf) ∧ V.cell? ⟨P, 4, none⟩ = some (.int .u64 ks) ∧ V.cell? ⟨P, 5, none⟩ = some (.int .i64 sd) ∧ V.cell? ⟨P, 6, none⟩ = some (.int .i64 ac) ∧ V.cell? ⟨P, 7, none⟩ = some (.int .u64 ep) ∧ V.cell? ⟨P, 8, none⟩ = some (.int .u64 nn) := fun V h =>
    ⟨cell_of_row V P 0 _ _ (0, 0) h, cell_of_row V P 1 _ _ (0, 0) h, cell_of_row V P 2 _ _ (0, 0) h, cell_of_row V P 3 _ _ (0, 0) h, cell_of_row V P 4 _ _ (0, 0) h, cell_of_row V P 5 _ _ (0, 0) h, cell_of_row V P 6 _ _ (0, 0) h, cell_of_row V P 7 _ _ (0, 0) h, cell_of_row V P 8 _ _ (0, 0) h⟩
  have HC := Lib.hid cel
  rw [← hw0] at b0
  have H0 := Lib.hid (And.intro hx b0)
  obtain ⟨-, -, -, -, -, p5, p6, -, -⟩ := cel w0 hx
  clear cel hx b0
  go_enter Tryz.func3, Tryz.ntmps3
  go_upto_region 2 with fail
  rw [← hw0, ← hP]
  clear hw0 hP
  go_wp2_with fail
  refine (Al.epoch_nil _ _ _).mono ?_
  rintro _ w1 ⟨rfl, b1⟩
  have H1 := Lib.hid (And.intro (kp b1 H0.out.1) (H0.out.2.trans (b1.mono H0.out.2.size)))
  clear b1 H0 p5 p6
  obtain ⟨-, -, -, -, -, p5, p6, -, -⟩ := HC.out w1 H1.out.1
  go_wp2_with fail
  refine (Al.next_nil _ _ _).mono ?_
  rintro _ w2 ⟨rfl, b2⟩
  have H2 := Lib.hid (And.intro (kp b2 H1.out.1) (H1.out.2.trans (b2.mono H1.out.2.size)))
  clear b2 H1 p5 p6
  obtain ⟨p0, p1, p2, p3, p4, p5, p6, p7, p8⟩ := HC.out w2 H2.out.1
  go_wp2_with fail
  refine (do_nil kd who kc kf ks sd ac ep nn _).mono ?_
  rintro _ w3 ⟨rfl, b3⟩
  have H3 := Lib.hid (And.intro (kp b3 H2.out.1) (H2.out.2.trans (b3.mono H2.out.2.size)))
  clear b3 H2 p0 p1 p2 p3 p4 p5 p6 p7 p8
  obtain ⟨-, -, -, -, -, p5, p6, -, -⟩ := HC.out w3 H3.out.1
  go_wp2_with fail
  refine (Al.free_nil _ _ _).mono ?_
  rintro _ w4 ⟨rfl, b4⟩
  have H4 := Lib.hid (And.intro (kp b4 H3.out.1) (H3.out.2.trans (b4.mono H3.out.2.size)))
  clear b4 H3 p5 p6
  obtain ⟨-, p1, -, -, -, p5, p6, -, -⟩ := HC.out w4 H4.out.1
  go_wp2_with fail
  refine (Al.held_nil _ _ _ _).mono ?_
  rintro _ w5 ⟨rfl, b5⟩
  have H5 := Lib.hid (And.intro (kp b5 H4.out.1) (H4.out.2.trans (b5.mono H4.out.2.size)))
  clear b5 H4 p1 p5 p6
  go_wp2_with fail
  refine (plain_mid 1 (by decide) 1 w5).mono ?_
  rintro _ w6 ⟨A, cap, rfl, -, b6⟩
  have H6 := Lib.hid (And.intro (kp b6 H5.out.1) (H5.out.2.trans (b6.mono H5.out.2.size)))
  clear b6 H5
  have HN := Lib.hid (anew_any (c1 A cap 0) (c1_code A cap 0) 1 rfl (by decide) w6)
  go_wp2_with fail
  refine HN.out.mono ?_
  rintro _ w7 ⟨S, b, z0, z1, rfl, hn⟩
  have hP7 := (hn.bel.block P (ltO H6.out.1)).trans H6.out.1
  have H7 := Lib.hid (And.intro hn.al hP7)
  have hb7 := H6.out.2.trans (hn.bel.mono H6.out.2.size)
  have HB7 := Lib.hid hb7
  have hWw : W.heap.size ≤ w6.heap.size + 1 := by have := H6.out.2.size; omega
  have HW := Lib.hid hWw
  clear hb7 hWw
  have hfr : P < w6.heap.size + 1 := by have := ltO H6.out.1; omega
  clear hn HN H6
  obtain ⟨-, -, -, -, -, p5, p6, -, -⟩ := HC.out w7 hP7
  clear hP7
  go_wp2_with fail
  refine (alNext sd ac H7.out.1 (show (1 : Nat) ≤ 1000000 by decide)).mono ?_
  rintro _ w8 ⟨rfl, h8, f8⟩
  have hP8 := ((f8.below H7.out.1).block P hfr).trans H7.out.2
  have H8 := Lib.hid (And.intro h8 hP8)
  have HB8 := Lib.hid (HB7.out.trans ((f8.below H7.out.1).mono HW.out))
  clear h8 f8 H7 p5 p6
  obtain ⟨-, -, -, -, -, p5, p6, -, -⟩ := HC.out w8 hP8
  clear hP8
  have hans : ansNext (s00 0) (idx 1 sd ac) = .tuple #[.int .u64 0, .bool ((sd == 0 || sd == 1) && ac == 1)] := by
    rw [← idx1]
    cases idx 1 sd ac <;> rfl
  obtain ⟨rr, hrr⟩ : ∃ r, r = ((sd == 0 || sd == 1) && ac == 1) := ⟨_, rfl⟩
  rw [← hrr] at hans
  rw [show ansNext (s00 (c1 A cap 0).f11) (idx (Alo.mk S 1 b).A sd ac) = _ from hans]
  have HRr := Lib.hid hrr
  clear hans hrr
  go_upto_region 8 with fail
  go_cut [12] (fun v wx => v = .bool rr ∧ wx = w8)
  case first =>
    cases h0 : (sd == 0) <;> cases h1 : (sd == 1) <;> cases h2 : (ac == 1)
    all_goals
      have hr2 := HRr.out
      rw [h0, h1, h2] at hr2
      simp only [Bool.or_false, Bool.or_true, Bool.or_self, Bool.and_true, Bool.and_false, Bool.and_self] at hr2
      subst hr2
      go_wp2
      go_meet
      exact ⟨rfl, rfl⟩
  case rest =>
    obtain ⟨rfl, rfl⟩ := hcut
    clear p5 p6
    go_wp2_with fail
    refine (awake_any _).mono ?_
    rintro _ w9 ⟨rfl, b9⟩
    have H9 := Lib.hid (And.intro (H8.out.1.below b9) (kp b9 H8.out.2))
    have HB9 := Lib.hid (HB8.out.trans (b9.mono HB8.out.size))
    clear b9 H8
    obtain ⟨-, p1, -, -, -, p5, p6, -, -⟩ := HC.out w9 H9.out.2
    have HH := Lib.hid (alHeld sd ac who H9.out.1 (show (1 : Nat) ≤ 1000000 by decide) 0 sortU_nil (fun i _ => Nat.le_refl 0) (by decide))
    have hl : heldL (s00 (c1 A cap 0).f11) who (idx (Alo.mk S 1 b).A sd ac) = [] := by
      cases idx (Alo.mk S 1 b).A sd ac with
      | none => rfl
      | some i =>
        show hbs who [] = []
        simp [hbs, hb]
    rw [hl] at HH
    clear hl
    go_wp2_with fail
    refine HH.out.mono ?_
    rintro _ w10 ⟨v2, rfl, hro, -, f10⟩
    have HB10 := Lib.hid (HB9.out.trans ((f10.below H9.out.1).mono HW.out))
    clear f10
    obtain ⟨A2, cc, rfl⟩ := own_form hro
    clear hro HH H9 p1 p5 p6
    go_wp2
    go_ret
    exact ⟨rfl, HB10.out⟩
section
variable {H : Type} {enc : TypeId × Value → H} {base : Nat} {spare : Nat → Bool} {held : Bool}
set_option maxRecDepth 100000 in
theorem walk {w : World} {v : Value} {r : Reach} {b0 : Nat} {d : DataW H} {p : List MemPlace} (ok : Value.okWide Tryz.prog w r b0 26 v) (h : DataW.Trod enc Tryz.prog w base spare held 26 v d p) :
    Calls Tryz.prog 3 #[v] w fun e w' => e = .returned (.bool true) ∧ Below w.heap.size w w' := by
  obtain ⟨⟨kd, who, kc, kf, ks, sd, ac, ep, nn⟩, -, rfl⟩ := open_oq_val ok h
  exact nobody kd who kc kf ks sd ac ep nn w
end
end Go.Proofs.YtpkkomifenlkaaaGreat.Au
