/- The page's steps: which are right, of any. -/
import Derived.Test.YtnjcenbmdcogpaaGreatDoorStep15R
import Derived.Test.YtnjcenbmdcogpaaGreatDoorStpWord
import Derived.Test.YtnjcenbmdcogpaaGreatDoorPgStWord
namespace Go.Proofs.YtnjcenbmdcogpaaGreatDoor.Sp
open Go Go.Lib Go.RowKit
set_option linter.unusedVariables false

def pr5 (c f : Int) (d : ByteArray) : Bool := decide (0 ≤ c ∧ c < 4 ∧ (f = 0 ∨ f = 1) ∧ d.size ≤ 64)

set_option maxHeartbeats 1000000 in
theorem rpr_any (c f s t : Int) (d : ByteArray) (w : World) :
    Calls Tryz.prog 38 #[.agg #[.int .i64 c, .int .i64 f, .int .u64 s, .int .u64 t, .string d]] w fun e w' => e = .returned (.bool (pr5 c f d)) ∧ Below w.heap.size w w' := by
  have hB : ∀ o, Below w.heap.size w (w.alloc o) := fun o => (Below.refl _ _).alloc (Nat.le_refl _) _
  by_cases h : 0 ≤ c ∧ c < 4 ∧ (f = 0 ∨ f = 1) ∧ d.size ≤ 64
  · have hp := Lib.hid (show pr5 c f d = true from decide_eq_true h)
    obtain ⟨h0, h1, h2, h3⟩ := h
    have h1' : c ≤ 3 := by omega
    have h3' : (d.size : Int) ≤ 64 := by omega
    have h4 : 0 ≤ f := by omega
    have h5 : f ≤ 1 := by omega
    clear h3 h2
    go_enter Tryz.func38, Tryz.ntmps38
    go_wp2
    go_ret
    exact ⟨by rw [hp.out]; rfl, hB _⟩
  · have hp := Lib.hid (show pr5 c f d = false from decide_eq_false h)
    by_cases h0 : 0 ≤ c
    · by_cases h1 : c ≤ 3
      · by_cases h4 : 0 ≤ f
        · by_cases h5 : f ≤ 1
          · have h3 : ¬ (d.size : Int) ≤ 64 := by omega
            have h3' : (64 : Int) < (d.size : Int) := by omega
            clear h
            go_enter Tryz.func38, Tryz.ntmps38
            go_wp2
            go_ret
            exact ⟨by rw [hp.out]; rfl, hB _⟩
          · clear h
            go_enter Tryz.func38, Tryz.ntmps38
            go_wp2
            go_ret
            exact ⟨by rw [hp.out]; rfl, hB _⟩
        · clear h
          go_enter Tryz.func38, Tryz.ntmps38
          go_wp2
          go_ret
          exact ⟨by rw [hp.out]; rfl, hB _⟩
      · clear h
        go_enter Tryz.func38, Tryz.ntmps38
        go_wp2
        go_ret
        exact ⟨by rw [hp.out]; rfl, hB _⟩
    · clear h
      go_enter Tryz.func38, Tryz.ntmps38
      go_wp2
      go_ret
      exact ⟨by rw [hp.out]; rfl, hB _⟩
theorem has_o (k : Int) (h : k < 0 ∨ 8 < k) (W : World) : Calls Tryz.prog 35 #[.int .i64 k] W fun e w' => e = .returned (.string ⟨#[63]⟩) ∧ Below W.heap.size W w' := by
  by_cases h0 : k < 0
  · clear h
    go_enter Tryz.func35, Tryz.ntmps35
    go_wp2
    go_ret
    exact ⟨rfl, (Below.refl _ _).alloc (Nat.le_refl _) _⟩
  · have h8 : 8 < k := by omega
    clear h
    go_enter Tryz.func35, Tryz.ntmps35
    go_wp2
    go_ret
    exact ⟨rfl, (Below.refl _ _).alloc (Nat.le_refl _) _⟩
theorem eq_no' (x : St) (w : World) : (binOp .eql 24 (.agg #[.int .i64 x.c, .int .i64 x.f, .int .u64 x.s, .int .u64 x.t, .string x.d]) (.agg #[.int .i64 0, .int .i64 0, .int .u64 0, .int .u64 0, .string ⟨#[]⟩])).run Tryz.prog w = .ok (.bool (decide (noP x))) w := by
  have hd : (x.d.toList == (⟨#[]⟩ : ByteArray).toList) = decide (x.d = ⟨#[]⟩) := by
    by_cases h : x.d = ⟨#[]⟩
    · rw [h]; simp
    · rw [tl_ne h]; simp [h]
  have e : decide (noP x) = (x.c == 0 && (x.f == 0 && (x.s == 0 && (x.t == 0 && x.d.toList == (⟨#[]⟩ : ByteArray).toList)))) := by
    rw [hd, Bool.eq_iff_iff, decide_eq_true_iff]
    simp [noP]
  have hd2 : (x.d.toList = []) ↔ (x.d = ⟨#[]⟩) := by
    have := hd
    simp at this
    constructor
    · intro h; simpa [h] using this
    · intro h; rw [h, ByteArray.toList_eq]
  clear hd
  rw [e]
  go_simp
  repeat' split
  all_goals simp_all

theorem rrP_1 (sd n c f s t : Int) (d : ByteArray) : rightP ⟨1, sd, n, c, f, s, t, d⟩ ↔ (0 ≤ sd ∧ sd ≤ 0 ∧ 0 ≤ n ∧ n ≤ 2147483647 ∧ noP (⟨1, sd, n, c, f, s, t, d⟩ : St)) := by
  unfold rightP
  constructor
  · rintro (h | h | h | h | h | h | h | h)
    all_goals dsimp only at h
    all_goals first | (exfalso; have := h.1; omega) | skip
    all_goals (refine ⟨by omega, by omega, by omega, by omega, ?_⟩; first | exact h.2.2.2 | exact h.2.2.2.2)
  · rintro ⟨h1, h2, h3, h4, h5⟩
    dsimp only
    exact .inl ⟨rfl, by omega, h3, h4, h5⟩
set_option maxRecDepth 20000 in
set_option maxHeartbeats 4000000 in
theorem rright_1 (sd n c f s t : Int) (d : ByteArray) (w : World) : Calls Tryz.prog 11 #[.agg #[.int .i64 1, .int .i64 sd, .int .i64 n, .int .i64 c, .int .i64 f, .int .u64 s, .int .u64 t, .string d]] w fun e w' => e = .returned (.bool (decide (rightP (⟨1, sd, n, c, f, s, t, d⟩ : St)))) ∧ Below w.heap.size w w' := by
  have hr := rrP_1 sd n c f s t d
  have hbx : (w.alloc (.cells #[.int .i64 1, .int .i64 sd, .int .i64 n, .int .i64 c, .int .i64 f, .int .u64 s, .int .u64 t, .string d] 26)).heap[w.heap.size]? = some (.cells #[.int .i64 1, .int .i64 sd, .int .i64 n, .int .i64 c, .int .i64 f, .int .u64 s, .int .u64 t, .string d] 26 (0, 0)) := heap_alloc_new w _
  obtain ⟨w0, hw0⟩ : ∃ X, X = w.alloc (.cells #[.int .i64 1, .int .i64 sd, .int .i64 n, .int .i64 c, .int .i64 f, .int .u64 s, .int .u64 t, .string d] 26) := ⟨_, rfl⟩
  have hb0 : Below w.heap.size w w0 := by rw [hw0]; exact (Below.refl _ _).alloc (Nat.le_refl _) _
  rw [← hw0] at hbx
  have HB := Lib.hid (And.intro hb0 hbx)
  have q := fun i => cell_of_row w0 w.heap.size i _ _ (0, 0) hbx
  have q0 := q 0
  clear q hb0 hbx
  by_cases a1 : n < 0
  · have d1 : decide (n < 0) = true := decide_eq_true a1
    have HR := Lib.hid (show decide (rightP (⟨1, sd, n, c, f, s, t, d⟩ : St)) = false from decide_eq_false fun h => by have := hr.1 h; omega)
    clear hr
    go_enter Tryz.func11, Tryz.ntmps11
    go_upto_region 1 with fail
    rw [← hw0]
    clear hw0
    go_wp2_with fail
    refine (St15.has_1 _).mono ?_
    rintro _ w1 ⟨rfl, b1⟩
    have hbx := (b1.block _ ((Array.getElem?_eq_some_iff.1 HB.out.2).1)).trans HB.out.2
    have hb1 := HB.out.1.trans (b1.mono HB.out.1.size)
    have q := fun i => cell_of_row w1 w.heap.size i _ _ (0, 0) hbx
    clear q0
    have q0 := q 0; have q1 := q 1; have q2 := q 2; have q3 := q 3; have q4 := q 4; have q5 := q 5; have q6 := q 6; have q7 := q 7
    have HB1 := Lib.hid hb1
    clear q hbx b1 HB hb1
    go_upto_region 2 with fail
    go_quiet ((go_at_call 36; exact Calls.quiet_of_same (St15.most_1' _)))
    go_wp2
    go_ret
    exact ⟨by rw [HR.out]; rfl, St15.drewN_b HB1.out _⟩
  have d1 : decide (n < 0) = false := decide_eq_false a1
  by_cases a2 : 2147483647 < n
  · have d2 : decide (2147483647 < n) = true := decide_eq_true a2
    have HR := Lib.hid (show decide (rightP (⟨1, sd, n, c, f, s, t, d⟩ : St)) = false from decide_eq_false fun h => by have := hr.1 h; omega)
    clear hr
    go_enter Tryz.func11, Tryz.ntmps11
    go_upto_region 1 with fail
    rw [← hw0]
    clear hw0
    go_wp2_with fail
    refine (St15.has_1 _).mono ?_
    rintro _ w1 ⟨rfl, b1⟩
    have hbx := (b1.block _ ((Array.getElem?_eq_some_iff.1 HB.out.2).1)).trans HB.out.2
    have hb1 := HB.out.1.trans (b1.mono HB.out.1.size)
    have q := fun i => cell_of_row w1 w.heap.size i _ _ (0, 0) hbx
    clear q0
    have q0 := q 0; have q1 := q 1; have q2 := q 2; have q3 := q 3; have q4 := q 4; have q5 := q 5; have q6 := q 6; have q7 := q 7
    have HB1 := Lib.hid hb1
    clear q hbx b1 HB hb1
    go_upto_region 2 with fail
    go_quiet ((go_at_call 36; exact Calls.quiet_of_same (St15.most_1' _)))
    go_wp2
    go_ret
    exact ⟨by rw [HR.out]; rfl, St15.drewN_b HB1.out _⟩
  have d2 : decide (2147483647 < n) = false := decide_eq_false a2
  by_cases a4 : sd < 0
  · have d4 : decide (sd < 0) = true := decide_eq_true a4
    have HR := Lib.hid (show decide (rightP (⟨1, sd, n, c, f, s, t, d⟩ : St)) = false from decide_eq_false fun h => by have := hr.1 h; omega)
    clear hr
    go_enter Tryz.func11, Tryz.ntmps11
    go_upto_region 1 with fail
    rw [← hw0]
    clear hw0
    go_wp2_with fail
    refine (St15.has_1 _).mono ?_
    rintro _ w1 ⟨rfl, b1⟩
    have hbx := (b1.block _ ((Array.getElem?_eq_some_iff.1 HB.out.2).1)).trans HB.out.2
    have hb1 := HB.out.1.trans (b1.mono HB.out.1.size)
    have q := fun i => cell_of_row w1 w.heap.size i _ _ (0, 0) hbx
    clear q0
    have q0 := q 0; have q1 := q 1; have q2 := q 2; have q3 := q 3; have q4 := q 4; have q5 := q 5; have q6 := q 6; have q7 := q 7
    have HB1 := Lib.hid hb1
    clear q hbx b1 HB hb1
    go_upto_region 2 with fail
    go_quiet ((go_at_call 36; exact Calls.quiet_of_same (St15.most_1' _)))
    go_wp2
    go_ret
    exact ⟨by rw [HR.out]; rfl, St15.drewN_b HB1.out _⟩
  have d4 : decide (sd < 0) = false := decide_eq_false a4
  by_cases a5 : 1 < sd
  · have d5 : decide (1 < sd) = true := decide_eq_true a5
    have HR := Lib.hid (show decide (rightP (⟨1, sd, n, c, f, s, t, d⟩ : St)) = false from decide_eq_false fun h => by have := hr.1 h; omega)
    clear hr
    go_enter Tryz.func11, Tryz.ntmps11
    go_upto_region 1 with fail
    rw [← hw0]
    clear hw0
    go_wp2_with fail
    refine (St15.has_1 _).mono ?_
    rintro _ w1 ⟨rfl, b1⟩
    have hbx := (b1.block _ ((Array.getElem?_eq_some_iff.1 HB.out.2).1)).trans HB.out.2
    have hb1 := HB.out.1.trans (b1.mono HB.out.1.size)
    have q := fun i => cell_of_row w1 w.heap.size i _ _ (0, 0) hbx
    clear q0
    have q0 := q 0; have q1 := q 1; have q2 := q 2; have q3 := q 3; have q4 := q 4; have q5 := q 5; have q6 := q 6; have q7 := q 7
    have HB1 := Lib.hid hb1
    clear q hbx b1 HB hb1
    go_upto_region 2 with fail
    go_quiet ((go_at_call 36; exact Calls.quiet_of_same (St15.most_1' _)))
    go_wp2
    go_ret
    exact ⟨by rw [HR.out]; rfl, St15.drewN_b HB1.out _⟩
  have d5 : decide (1 < sd) = false := decide_eq_false a5
  by_cases a6 : sd = 0
  case neg =>
    have d6 : (sd != 0) = true := by simpa using a6
    have d7 : (sd == 0) = false := by simpa using a6
    have HR := Lib.hid (show decide (rightP (⟨1, sd, n, c, f, s, t, d⟩ : St)) = false from decide_eq_false fun h => by have := hr.1 h; omega)
    clear hr
    go_enter Tryz.func11, Tryz.ntmps11
    go_upto_region 1 with fail
    rw [← hw0]
    clear hw0
    go_wp2_with fail
    refine (St15.has_1 _).mono ?_
    rintro _ w1 ⟨rfl, b1⟩
    have hbx := (b1.block _ ((Array.getElem?_eq_some_iff.1 HB.out.2).1)).trans HB.out.2
    have hb1 := HB.out.1.trans (b1.mono HB.out.1.size)
    have q := fun i => cell_of_row w1 w.heap.size i _ _ (0, 0) hbx
    clear q0
    have q0 := q 0; have q1 := q 1; have q2 := q 2; have q3 := q 3; have q4 := q 4; have q5 := q 5; have q6 := q 6; have q7 := q 7
    have HB1 := Lib.hid hb1
    clear q hbx b1 HB hb1
    go_upto_region 2 with fail
    go_quiet ((go_at_call 36; exact Calls.quiet_of_same (St15.most_1' _)))
    go_wp2_with fail
    refine (St15.in_n_115 _).mono ?_
    rintro _ _ ⟨rfl, rfl⟩
    go_wp2
    go_ret
    exact ⟨by rw [HR.out]; rfl, St15.drewN_b HB1.out _⟩
  have d6 : (sd != 0) = false := by simp [a6]
  have d7 : (sd == 0) = true := by simp [a6]
  have HR := Lib.hid (show decide (rightP (⟨1, sd, n, c, f, s, t, d⟩ : St)) = decide (noP (⟨1, sd, n, c, f, s, t, d⟩ : St)) from decide_eq_decide.2 ⟨fun h => (hr.1 h).2.2.2.2, fun h => hr.2 ⟨by omega, by omega, by omega, by omega, h⟩⟩)
  have heq := fun W => eq_no' (⟨1, sd, n, c, f, s, t, d⟩ : St) W
  clear hr a6
  go_enter Tryz.func11, Tryz.ntmps11
  go_upto_region 1 with fail
  rw [← hw0]
  clear hw0
  go_wp2_with fail
  refine (St15.has_1 _).mono ?_
  rintro _ w1 ⟨rfl, b1⟩
  have hbx := (b1.block _ ((Array.getElem?_eq_some_iff.1 HB.out.2).1)).trans HB.out.2
  have hb1 := HB.out.1.trans (b1.mono HB.out.1.size)
  have q := fun i => cell_of_row w1 w.heap.size i _ _ (0, 0) hbx
  clear q0
  have q0 := q 0; have q1 := q 1; have q2 := q 2; have q3 := q 3; have q4 := q 4; have q5 := q 5; have q6 := q 6; have q7 := q 7
  have HB1 := Lib.hid hb1
  clear q hbx b1 HB hb1
  go_upto_region 2 with fail
  go_quiet ((go_at_call 36; exact Calls.quiet_of_same (St15.most_1' _)))
  go_wp2_with fail
  refine (St15.in_n_115 _).mono ?_
  rintro _ _ ⟨rfl, rfl⟩
  go_wp2_with fail
  refine (St15.in_n_112 _).mono ?_
  rintro _ _ ⟨rfl, rfl⟩
  go_wp2_with fail
  go_ret
  exact ⟨by rw [HR.out]; rfl, St15.drewN_b HB1.out _⟩

theorem rrP_2 (sd n c f s t : Int) (d : ByteArray) : rightP ⟨2, sd, n, c, f, s, t, d⟩ ↔ (0 ≤ sd ∧ sd ≤ 1 ∧ 0 ≤ n ∧ n ≤ 0 ∧ noP (⟨2, sd, n, c, f, s, t, d⟩ : St)) := by
  unfold rightP
  constructor
  · rintro (h | h | h | h | h | h | h | h)
    all_goals dsimp only at h
    all_goals first | (exfalso; have := h.1; omega) | skip
    all_goals (refine ⟨by omega, by omega, by omega, by omega, ?_⟩; first | exact h.2.2.2 | exact h.2.2.2.2)
  · rintro ⟨h1, h2, h3, h4, h5⟩
    dsimp only
    exact .inr (.inl ⟨rfl, by omega, by omega, h5⟩)
set_option maxRecDepth 20000 in
set_option maxHeartbeats 4000000 in
theorem rright_2 (sd n c f s t : Int) (d : ByteArray) (w : World) : Calls Tryz.prog 11 #[.agg #[.int .i64 2, .int .i64 sd, .int .i64 n, .int .i64 c, .int .i64 f, .int .u64 s, .int .u64 t, .string d]] w fun e w' => e = .returned (.bool (decide (rightP (⟨2, sd, n, c, f, s, t, d⟩ : St)))) ∧ Below w.heap.size w w' := by
  have hr := rrP_2 sd n c f s t d
  have hbx : (w.alloc (.cells #[.int .i64 2, .int .i64 sd, .int .i64 n, .int .i64 c, .int .i64 f, .int .u64 s, .int .u64 t, .string d] 26)).heap[w.heap.size]? = some (.cells #[.int .i64 2, .int .i64 sd, .int .i64 n, .int .i64 c, .int .i64 f, .int .u64 s, .int .u64 t, .string d] 26 (0, 0)) := heap_alloc_new w _
  obtain ⟨w0, hw0⟩ : ∃ X, X = w.alloc (.cells #[.int .i64 2, .int .i64 sd, .int .i64 n, .int .i64 c, .int .i64 f, .int .u64 s, .int .u64 t, .string d] 26) := ⟨_, rfl⟩
  have hb0 : Below w.heap.size w w0 := by rw [hw0]; exact (Below.refl _ _).alloc (Nat.le_refl _) _
  rw [← hw0] at hbx
  have HB := Lib.hid (And.intro hb0 hbx)
  have q := fun i => cell_of_row w0 w.heap.size i _ _ (0, 0) hbx
  have q0 := q 0
  clear q hb0 hbx
  by_cases a1 : n < 0
  · have d1 : decide (n < 0) = true := decide_eq_true a1
    have HR := Lib.hid (show decide (rightP (⟨2, sd, n, c, f, s, t, d⟩ : St)) = false from decide_eq_false fun h => by have := hr.1 h; omega)
    clear hr
    go_enter Tryz.func11, Tryz.ntmps11
    go_upto_region 1 with fail
    rw [← hw0]
    clear hw0
    go_wp2_with fail
    refine (St15.has_2 _).mono ?_
    rintro _ w1 ⟨rfl, b1⟩
    have hbx := (b1.block _ ((Array.getElem?_eq_some_iff.1 HB.out.2).1)).trans HB.out.2
    have hb1 := HB.out.1.trans (b1.mono HB.out.1.size)
    have q := fun i => cell_of_row w1 w.heap.size i _ _ (0, 0) hbx
    clear q0
    have q0 := q 0; have q1 := q 1; have q2 := q 2; have q3 := q 3; have q4 := q 4; have q5 := q 5; have q6 := q 6; have q7 := q 7
    have HB1 := Lib.hid hb1
    clear q hbx b1 HB hb1
    go_upto_region 2 with fail
    go_quiet ((go_at_call 36; exact Calls.quiet_of_same (St15.most_2' _)))
    go_wp2
    go_ret
    exact ⟨by rw [HR.out]; rfl, St15.drewN_b HB1.out _⟩
  have d1 : decide (n < 0) = false := decide_eq_false a1
  by_cases a2 : 0 < n
  · have d2 : decide (0 < n) = true := decide_eq_true a2
    have HR := Lib.hid (show decide (rightP (⟨2, sd, n, c, f, s, t, d⟩ : St)) = false from decide_eq_false fun h => by have := hr.1 h; omega)
    clear hr
    go_enter Tryz.func11, Tryz.ntmps11
    go_upto_region 1 with fail
    rw [← hw0]
    clear hw0
    go_wp2_with fail
    refine (St15.has_2 _).mono ?_
    rintro _ w1 ⟨rfl, b1⟩
    have hbx := (b1.block _ ((Array.getElem?_eq_some_iff.1 HB.out.2).1)).trans HB.out.2
    have hb1 := HB.out.1.trans (b1.mono HB.out.1.size)
    have q := fun i => cell_of_row w1 w.heap.size i _ _ (0, 0) hbx
    clear q0
    have q0 := q 0; have q1 := q 1; have q2 := q 2; have q3 := q 3; have q4 := q 4; have q5 := q 5; have q6 := q 6; have q7 := q 7
    have HB1 := Lib.hid hb1
    clear q hbx b1 HB hb1
    go_upto_region 2 with fail
    go_quiet ((go_at_call 36; exact Calls.quiet_of_same (St15.most_2' _)))
    go_wp2
    go_ret
    exact ⟨by rw [HR.out]; rfl, St15.drewN_b HB1.out _⟩
  have d2 : decide (0 < n) = false := decide_eq_false a2
  by_cases a4 : sd < 0
  · have d4 : decide (sd < 0) = true := decide_eq_true a4
    have HR := Lib.hid (show decide (rightP (⟨2, sd, n, c, f, s, t, d⟩ : St)) = false from decide_eq_false fun h => by have := hr.1 h; omega)
    clear hr
    go_enter Tryz.func11, Tryz.ntmps11
    go_upto_region 1 with fail
    rw [← hw0]
    clear hw0
    go_wp2_with fail
    refine (St15.has_2 _).mono ?_
    rintro _ w1 ⟨rfl, b1⟩
    have hbx := (b1.block _ ((Array.getElem?_eq_some_iff.1 HB.out.2).1)).trans HB.out.2
    have hb1 := HB.out.1.trans (b1.mono HB.out.1.size)
    have q := fun i => cell_of_row w1 w.heap.size i _ _ (0, 0) hbx
    clear q0
    have q0 := q 0; have q1 := q 1; have q2 := q 2; have q3 := q 3; have q4 := q 4; have q5 := q 5; have q6 := q 6; have q7 := q 7
    have HB1 := Lib.hid hb1
    clear q hbx b1 HB hb1
    go_upto_region 2 with fail
    go_quiet ((go_at_call 36; exact Calls.quiet_of_same (St15.most_2' _)))
    go_wp2
    go_ret
    exact ⟨by rw [HR.out]; rfl, St15.drewN_b HB1.out _⟩
  have d4 : decide (sd < 0) = false := decide_eq_false a4
  by_cases a5 : 1 < sd
  · have d5 : decide (1 < sd) = true := decide_eq_true a5
    have HR := Lib.hid (show decide (rightP (⟨2, sd, n, c, f, s, t, d⟩ : St)) = false from decide_eq_false fun h => by have := hr.1 h; omega)
    clear hr
    go_enter Tryz.func11, Tryz.ntmps11
    go_upto_region 1 with fail
    rw [← hw0]
    clear hw0
    go_wp2_with fail
    refine (St15.has_2 _).mono ?_
    rintro _ w1 ⟨rfl, b1⟩
    have hbx := (b1.block _ ((Array.getElem?_eq_some_iff.1 HB.out.2).1)).trans HB.out.2
    have hb1 := HB.out.1.trans (b1.mono HB.out.1.size)
    have q := fun i => cell_of_row w1 w.heap.size i _ _ (0, 0) hbx
    clear q0
    have q0 := q 0; have q1 := q 1; have q2 := q 2; have q3 := q 3; have q4 := q 4; have q5 := q 5; have q6 := q 6; have q7 := q 7
    have HB1 := Lib.hid hb1
    clear q hbx b1 HB hb1
    go_upto_region 2 with fail
    go_quiet ((go_at_call 36; exact Calls.quiet_of_same (St15.most_2' _)))
    go_wp2
    go_ret
    exact ⟨by rw [HR.out]; rfl, St15.drewN_b HB1.out _⟩
  have d5 : decide (1 < sd) = false := decide_eq_false a5
  have HR := Lib.hid (show decide (rightP (⟨2, sd, n, c, f, s, t, d⟩ : St)) = decide (noP (⟨2, sd, n, c, f, s, t, d⟩ : St)) from decide_eq_decide.2 ⟨fun h => (hr.1 h).2.2.2.2, fun h => hr.2 ⟨by omega, by omega, by omega, by omega, h⟩⟩)
  have heq := fun W => eq_no' (⟨2, sd, n, c, f, s, t, d⟩ : St) W
  clear hr
  go_enter Tryz.func11, Tryz.ntmps11
  go_upto_region 1 with fail
  rw [← hw0]
  clear hw0
  go_wp2_with fail
  refine (St15.has_2 _).mono ?_
  rintro _ w1 ⟨rfl, b1⟩
  have hbx := (b1.block _ ((Array.getElem?_eq_some_iff.1 HB.out.2).1)).trans HB.out.2
  have hb1 := HB.out.1.trans (b1.mono HB.out.1.size)
  have q := fun i => cell_of_row w1 w.heap.size i _ _ (0, 0) hbx
  clear q0
  have q0 := q 0; have q1 := q 1; have q2 := q 2; have q3 := q 3; have q4 := q 4; have q5 := q 5; have q6 := q 6; have q7 := q 7
  have HB1 := Lib.hid hb1
  clear q hbx b1 HB hb1
  go_upto_region 2 with fail
  go_quiet ((go_at_call 36; exact Calls.quiet_of_same (St15.most_2' _)))
  go_wp2_with fail
  refine (St15.in_s_115 _).mono ?_
  rintro _ _ ⟨rfl, rfl⟩
  go_wp2_with fail
  refine (St15.in_s_112 _).mono ?_
  rintro _ _ ⟨rfl, rfl⟩
  go_wp2_with fail
  go_ret
  exact ⟨by rw [HR.out]; rfl, St15.drewN_b HB1.out _⟩

theorem rrP_3 (sd n c f s t : Int) (d : ByteArray) : rightP ⟨3, sd, n, c, f, s, t, d⟩ ↔ (0 ≤ sd ∧ sd ≤ 0 ∧ 0 ≤ n ∧ n ≤ 0 ∧ pkP (⟨3, sd, n, c, f, s, t, d⟩ : St)) := by
  unfold rightP
  constructor
  · rintro (h | h | h | h | h | h | h | h)
    all_goals dsimp only at h
    all_goals first | (exfalso; have := h.1; omega) | skip
    all_goals (refine ⟨by omega, by omega, by omega, by omega, ?_⟩; first | exact h.2.2.2 | exact h.2.2.2.2)
  · rintro ⟨h1, h2, h3, h4, h5⟩
    dsimp only
    exact .inr (.inr (.inl ⟨rfl, by omega, by omega, h5⟩))
set_option maxRecDepth 20000 in
set_option maxHeartbeats 4000000 in
theorem rright_3 (sd n c f s t : Int) (d : ByteArray) (w : World) : Calls Tryz.prog 11 #[.agg #[.int .i64 3, .int .i64 sd, .int .i64 n, .int .i64 c, .int .i64 f, .int .u64 s, .int .u64 t, .string d]] w fun e w' => e = .returned (.bool (decide (rightP (⟨3, sd, n, c, f, s, t, d⟩ : St)))) ∧ Below w.heap.size w w' := by
  have hr := rrP_3 sd n c f s t d
  have hbx : (w.alloc (.cells #[.int .i64 3, .int .i64 sd, .int .i64 n, .int .i64 c, .int .i64 f, .int .u64 s, .int .u64 t, .string d] 26)).heap[w.heap.size]? = some (.cells #[.int .i64 3, .int .i64 sd, .int .i64 n, .int .i64 c, .int .i64 f, .int .u64 s, .int .u64 t, .string d] 26 (0, 0)) := heap_alloc_new w _
  obtain ⟨w0, hw0⟩ : ∃ X, X = w.alloc (.cells #[.int .i64 3, .int .i64 sd, .int .i64 n, .int .i64 c, .int .i64 f, .int .u64 s, .int .u64 t, .string d] 26) := ⟨_, rfl⟩
  have hb0 : Below w.heap.size w w0 := by rw [hw0]; exact (Below.refl _ _).alloc (Nat.le_refl _) _
  rw [← hw0] at hbx
  have HB := Lib.hid (And.intro hb0 hbx)
  have q := fun i => cell_of_row w0 w.heap.size i _ _ (0, 0) hbx
  have q0 := q 0
  clear q hb0 hbx
  by_cases a1 : n < 0
  · have d1 : decide (n < 0) = true := decide_eq_true a1
    have HR := Lib.hid (show decide (rightP (⟨3, sd, n, c, f, s, t, d⟩ : St)) = false from decide_eq_false fun h => by have := hr.1 h; omega)
    clear hr
    go_enter Tryz.func11, Tryz.ntmps11
    go_upto_region 1 with fail
    rw [← hw0]
    clear hw0
    go_wp2_with fail
    refine (St15.has_3 _).mono ?_
    rintro _ w1 ⟨rfl, b1⟩
    have hbx := (b1.block _ ((Array.getElem?_eq_some_iff.1 HB.out.2).1)).trans HB.out.2
    have hb1 := HB.out.1.trans (b1.mono HB.out.1.size)
    have q := fun i => cell_of_row w1 w.heap.size i _ _ (0, 0) hbx
    clear q0
    have q0 := q 0; have q1 := q 1; have q2 := q 2; have q3 := q 3; have q4 := q 4; have q5 := q 5; have q6 := q 6; have q7 := q 7
    have HB1 := Lib.hid hb1
    clear q hbx b1 HB hb1
    go_upto_region 2 with fail
    go_quiet ((go_at_call 36; exact Calls.quiet_of_same (St15.most_3' _)))
    go_wp2
    go_ret
    exact ⟨by rw [HR.out]; rfl, St15.drewN_b HB1.out _⟩
  have d1 : decide (n < 0) = false := decide_eq_false a1
  by_cases a2 : 0 < n
  · have d2 : decide (0 < n) = true := decide_eq_true a2
    have HR := Lib.hid (show decide (rightP (⟨3, sd, n, c, f, s, t, d⟩ : St)) = false from decide_eq_false fun h => by have := hr.1 h; omega)
    clear hr
    go_enter Tryz.func11, Tryz.ntmps11
    go_upto_region 1 with fail
    rw [← hw0]
    clear hw0
    go_wp2_with fail
    refine (St15.has_3 _).mono ?_
    rintro _ w1 ⟨rfl, b1⟩
    have hbx := (b1.block _ ((Array.getElem?_eq_some_iff.1 HB.out.2).1)).trans HB.out.2
    have hb1 := HB.out.1.trans (b1.mono HB.out.1.size)
    have q := fun i => cell_of_row w1 w.heap.size i _ _ (0, 0) hbx
    clear q0
    have q0 := q 0; have q1 := q 1; have q2 := q 2; have q3 := q 3; have q4 := q 4; have q5 := q 5; have q6 := q 6; have q7 := q 7
    have HB1 := Lib.hid hb1
    clear q hbx b1 HB hb1
    go_upto_region 2 with fail
    go_quiet ((go_at_call 36; exact Calls.quiet_of_same (St15.most_3' _)))
    go_wp2
    go_ret
    exact ⟨by rw [HR.out]; rfl, St15.drewN_b HB1.out _⟩
  have d2 : decide (0 < n) = false := decide_eq_false a2
  by_cases a4 : sd < 0
  · have d4 : decide (sd < 0) = true := decide_eq_true a4
    have HR := Lib.hid (show decide (rightP (⟨3, sd, n, c, f, s, t, d⟩ : St)) = false from decide_eq_false fun h => by have := hr.1 h; omega)
    clear hr
    go_enter Tryz.func11, Tryz.ntmps11
    go_upto_region 1 with fail
    rw [← hw0]
    clear hw0
    go_wp2_with fail
    refine (St15.has_3 _).mono ?_
    rintro _ w1 ⟨rfl, b1⟩
    have hbx := (b1.block _ ((Array.getElem?_eq_some_iff.1 HB.out.2).1)).trans HB.out.2
    have hb1 := HB.out.1.trans (b1.mono HB.out.1.size)
    have q := fun i => cell_of_row w1 w.heap.size i _ _ (0, 0) hbx
    clear q0
    have q0 := q 0; have q1 := q 1; have q2 := q 2; have q3 := q 3; have q4 := q 4; have q5 := q 5; have q6 := q 6; have q7 := q 7
    have HB1 := Lib.hid hb1
    clear q hbx b1 HB hb1
    go_upto_region 2 with fail
    go_quiet ((go_at_call 36; exact Calls.quiet_of_same (St15.most_3' _)))
    go_wp2
    go_ret
    exact ⟨by rw [HR.out]; rfl, St15.drewN_b HB1.out _⟩
  have d4 : decide (sd < 0) = false := decide_eq_false a4
  by_cases a5 : 1 < sd
  · have d5 : decide (1 < sd) = true := decide_eq_true a5
    have HR := Lib.hid (show decide (rightP (⟨3, sd, n, c, f, s, t, d⟩ : St)) = false from decide_eq_false fun h => by have := hr.1 h; omega)
    clear hr
    go_enter Tryz.func11, Tryz.ntmps11
    go_upto_region 1 with fail
    rw [← hw0]
    clear hw0
    go_wp2_with fail
    refine (St15.has_3 _).mono ?_
    rintro _ w1 ⟨rfl, b1⟩
    have hbx := (b1.block _ ((Array.getElem?_eq_some_iff.1 HB.out.2).1)).trans HB.out.2
    have hb1 := HB.out.1.trans (b1.mono HB.out.1.size)
    have q := fun i => cell_of_row w1 w.heap.size i _ _ (0, 0) hbx
    clear q0
    have q0 := q 0; have q1 := q 1; have q2 := q 2; have q3 := q 3; have q4 := q 4; have q5 := q 5; have q6 := q 6; have q7 := q 7
    have HB1 := Lib.hid hb1
    clear q hbx b1 HB hb1
    go_upto_region 2 with fail
    go_quiet ((go_at_call 36; exact Calls.quiet_of_same (St15.most_3' _)))
    go_wp2
    go_ret
    exact ⟨by rw [HR.out]; rfl, St15.drewN_b HB1.out _⟩
  have d5 : decide (1 < sd) = false := decide_eq_false a5
  by_cases a6 : sd = 0
  case neg =>
    have d6 : (sd != 0) = true := by simpa using a6
    have d7 : (sd == 0) = false := by simpa using a6
    have HR := Lib.hid (show decide (rightP (⟨3, sd, n, c, f, s, t, d⟩ : St)) = false from decide_eq_false fun h => by have := hr.1 h; omega)
    clear hr
    go_enter Tryz.func11, Tryz.ntmps11
    go_upto_region 1 with fail
    rw [← hw0]
    clear hw0
    go_wp2_with fail
    refine (St15.has_3 _).mono ?_
    rintro _ w1 ⟨rfl, b1⟩
    have hbx := (b1.block _ ((Array.getElem?_eq_some_iff.1 HB.out.2).1)).trans HB.out.2
    have hb1 := HB.out.1.trans (b1.mono HB.out.1.size)
    have q := fun i => cell_of_row w1 w.heap.size i _ _ (0, 0) hbx
    clear q0
    have q0 := q 0; have q1 := q 1; have q2 := q 2; have q3 := q 3; have q4 := q 4; have q5 := q 5; have q6 := q 6; have q7 := q 7
    have HB1 := Lib.hid hb1
    clear q hbx b1 HB hb1
    go_upto_region 2 with fail
    go_quiet ((go_at_call 36; exact Calls.quiet_of_same (St15.most_3' _)))
    go_wp2_with fail
    refine (St15.in_p_115 _).mono ?_
    rintro _ _ ⟨rfl, rfl⟩
    go_wp2
    go_ret
    exact ⟨by rw [HR.out]; rfl, St15.drewN_b HB1.out _⟩
  have d6 : (sd != 0) = false := by simp [a6]
  have d7 : (sd == 0) = true := by simp [a6]
  by_cases hp : pr5 c f d = true
  · by_cases hs : s = 0
    · have HR := Lib.hid (show decide (rightP (⟨3, sd, n, c, f, s, t, d⟩ : St)) = true from decide_eq_true (hr.2 ⟨by omega, by omega, by omega, by omega, by
        unfold pr5 at hp
        have := of_decide_eq_true hp
        exact ⟨this.1, this.2.1, this.2.2.1, this.2.2.2, hs⟩⟩))
      have HP := Lib.hid hp
      clear hr hp a6
      subst hs
      go_enter Tryz.func11, Tryz.ntmps11
      go_upto_region 1 with fail
      rw [← hw0]
      clear hw0
      go_wp2_with fail
      refine (St15.has_3 _).mono ?_
      rintro _ w1 ⟨rfl, b1⟩
      have hbx := (b1.block _ ((Array.getElem?_eq_some_iff.1 HB.out.2).1)).trans HB.out.2
      have hb1 := HB.out.1.trans (b1.mono HB.out.1.size)
      have q := fun i => cell_of_row w1 w.heap.size i _ _ (0, 0) hbx
      clear q0
      have q0 := q 0; have q1 := q 1; have q2 := q 2; have q3 := q 3; have q4 := q 4; have q5 := q 5; have q6 := q 6; have q7 := q 7
      have HB1 := Lib.hid hb1
      clear q hbx b1 HB hb1
      go_upto_region 2 with fail
      go_quiet ((go_at_call 36; exact Calls.quiet_of_same (St15.most_3' _)))
      go_wp2_with fail
      refine (St15.in_p_115 _).mono ?_
      rintro _ _ ⟨rfl, rfl⟩
      go_wp2_with fail
      refine (St15.in_p_112 _).mono ?_
      rintro _ _ ⟨rfl, rfl⟩
      go_wp2_with fail
      refine (rpr_any c f 0 t d _).mono ?_
      rintro _ w2 ⟨rfl, b2⟩
      have p5 := (b2.cell (p := ⟨w.heap.size, 5, none⟩) (World.block_lt_of_cell? w1 _ q5)).trans q5
      have HB2 := Lib.hid ((St15.drewN_b HB1.out nq).trans (b2.mono (St15.drewN_b HB1.out nq).size))
      rw [HP.out]
      go_wp2
      go_ret
      exact ⟨by rw [HR.out]; rfl, HB2.out⟩
    · have HR := Lib.hid (show decide (rightP (⟨3, sd, n, c, f, s, t, d⟩ : St)) = false from decide_eq_false fun h => hs (hr.1 h).2.2.2.2.2.2.2.2)
      have HP := Lib.hid hp
      have hs2 : (s == 0) = false := by simpa using hs
      clear hr hp hs a6
      go_enter Tryz.func11, Tryz.ntmps11
      go_upto_region 1 with fail
      rw [← hw0]
      clear hw0
      go_wp2_with fail
      refine (St15.has_3 _).mono ?_
      rintro _ w1 ⟨rfl, b1⟩
      have hbx := (b1.block _ ((Array.getElem?_eq_some_iff.1 HB.out.2).1)).trans HB.out.2
      have hb1 := HB.out.1.trans (b1.mono HB.out.1.size)
      have q := fun i => cell_of_row w1 w.heap.size i _ _ (0, 0) hbx
      clear q0
      have q0 := q 0; have q1 := q 1; have q2 := q 2; have q3 := q 3; have q4 := q 4; have q5 := q 5; have q6 := q 6; have q7 := q 7
      have HB1 := Lib.hid hb1
      clear q hbx b1 HB hb1
      go_upto_region 2 with fail
      go_quiet ((go_at_call 36; exact Calls.quiet_of_same (St15.most_3' _)))
      go_wp2_with fail
      refine (St15.in_p_115 _).mono ?_
      rintro _ _ ⟨rfl, rfl⟩
      go_wp2_with fail
      refine (St15.in_p_112 _).mono ?_
      rintro _ _ ⟨rfl, rfl⟩
      go_wp2_with fail
      refine (rpr_any c f s t d _).mono ?_
      rintro _ w2 ⟨rfl, b2⟩
      have p5 := (b2.cell (p := ⟨w.heap.size, 5, none⟩) (World.block_lt_of_cell? w1 _ q5)).trans q5
      have HB2 := Lib.hid ((St15.drewN_b HB1.out nq).trans (b2.mono (St15.drewN_b HB1.out nq).size))
      rw [HP.out]
      go_wp2
      go_ret
      exact ⟨by rw [HR.out]; rfl, HB2.out⟩
  · have hp : pr5 c f d = false := by simpa using hp
    have HR := Lib.hid (show decide (rightP (⟨3, sd, n, c, f, s, t, d⟩ : St)) = false from decide_eq_false fun h => by
      have h2 := (hr.1 h).2.2.2.2
      rw [show pr5 c f d = true from decide_eq_true ⟨h2.1, h2.2.1, h2.2.2.1, h2.2.2.2.1⟩] at hp
      cases hp)
    have HP := Lib.hid hp
    clear hr hp a6
    go_enter Tryz.func11, Tryz.ntmps11
    go_upto_region 1 with fail
    rw [← hw0]
    clear hw0
    go_wp2_with fail
    refine (St15.has_3 _).mono ?_
    rintro _ w1 ⟨rfl, b1⟩
    have hbx := (b1.block _ ((Array.getElem?_eq_some_iff.1 HB.out.2).1)).trans HB.out.2
    have hb1 := HB.out.1.trans (b1.mono HB.out.1.size)
    have q := fun i => cell_of_row w1 w.heap.size i _ _ (0, 0) hbx
    clear q0
    have q0 := q 0; have q1 := q 1; have q2 := q 2; have q3 := q 3; have q4 := q 4; have q5 := q 5; have q6 := q 6; have q7 := q 7
    have HB1 := Lib.hid hb1
    clear q hbx b1 HB hb1
    go_upto_region 2 with fail
    go_quiet ((go_at_call 36; exact Calls.quiet_of_same (St15.most_3' _)))
    go_wp2_with fail
    refine (St15.in_p_115 _).mono ?_
    rintro _ _ ⟨rfl, rfl⟩
    go_wp2_with fail
    refine (St15.in_p_112 _).mono ?_
    rintro _ _ ⟨rfl, rfl⟩
    go_wp2_with fail
    refine (rpr_any c f s t d _).mono ?_
    rintro _ w2 ⟨rfl, b2⟩
    have p5 := (b2.cell (p := ⟨w.heap.size, 5, none⟩) (World.block_lt_of_cell? w1 _ q5)).trans q5
    have HB2 := Lib.hid ((St15.drewN_b HB1.out nq).trans (b2.mono (St15.drewN_b HB1.out nq).size))
    rw [HP.out]
    go_wp2
    go_ret
    exact ⟨by rw [HR.out]; rfl, HB2.out⟩

theorem rrP_4 (sd n c f s t : Int) (d : ByteArray) : rightP ⟨4, sd, n, c, f, s, t, d⟩ ↔ (0 ≤ sd ∧ sd ≤ 1 ∧ 0 ≤ n ∧ n ≤ 0 ∧ noP (⟨4, sd, n, c, f, s, t, d⟩ : St)) := by
  unfold rightP
  constructor
  · rintro (h | h | h | h | h | h | h | h)
    all_goals dsimp only at h
    all_goals first | (exfalso; have := h.1; omega) | skip
    all_goals (refine ⟨by omega, by omega, by omega, by omega, ?_⟩; first | exact h.2.2.2 | exact h.2.2.2.2)
  · rintro ⟨h1, h2, h3, h4, h5⟩
    dsimp only
    exact .inr (.inr (.inr (.inl ⟨rfl, by omega, by omega, h5⟩)))
set_option maxRecDepth 20000 in
set_option maxHeartbeats 4000000 in
theorem rright_4 (sd n c f s t : Int) (d : ByteArray) (w : World) : Calls Tryz.prog 11 #[.agg #[.int .i64 4, .int .i64 sd, .int .i64 n, .int .i64 c, .int .i64 f, .int .u64 s, .int .u64 t, .string d]] w fun e w' => e = .returned (.bool (decide (rightP (⟨4, sd, n, c, f, s, t, d⟩ : St)))) ∧ Below w.heap.size w w' := by
  have hr := rrP_4 sd n c f s t d
  have hbx : (w.alloc (.cells #[.int .i64 4, .int .i64 sd, .int .i64 n, .int .i64 c, .int .i64 f, .int .u64 s, .int .u64 t, .string d] 26)).heap[w.heap.size]? = some (.cells #[.int .i64 4, .int .i64 sd, .int .i64 n, .int .i64 c, .int .i64 f, .int .u64 s, .int .u64 t, .string d] 26 (0, 0)) := heap_alloc_new w _
  obtain ⟨w0, hw0⟩ : ∃ X, X = w.alloc (.cells #[.int .i64 4, .int .i64 sd, .int .i64 n, .int .i64 c, .int .i64 f, .int .u64 s, .int .u64 t, .string d] 26) := ⟨_, rfl⟩
  have hb0 : Below w.heap.size w w0 := by rw [hw0]; exact (Below.refl _ _).alloc (Nat.le_refl _) _
  rw [← hw0] at hbx
  have HB := Lib.hid (And.intro hb0 hbx)
  have q := fun i => cell_of_row w0 w.heap.size i _ _ (0, 0) hbx
  have q0 := q 0
  clear q hb0 hbx
  by_cases a1 : n < 0
  · have d1 : decide (n < 0) = true := decide_eq_true a1
    have HR := Lib.hid (show decide (rightP (⟨4, sd, n, c, f, s, t, d⟩ : St)) = false from decide_eq_false fun h => by have := hr.1 h; omega)
    clear hr
    go_enter Tryz.func11, Tryz.ntmps11
    go_upto_region 1 with fail
    rw [← hw0]
    clear hw0
    go_wp2_with fail
    refine (St15.has_4 _).mono ?_
    rintro _ w1 ⟨rfl, b1⟩
    have hbx := (b1.block _ ((Array.getElem?_eq_some_iff.1 HB.out.2).1)).trans HB.out.2
    have hb1 := HB.out.1.trans (b1.mono HB.out.1.size)
    have q := fun i => cell_of_row w1 w.heap.size i _ _ (0, 0) hbx
    clear q0
    have q0 := q 0; have q1 := q 1; have q2 := q 2; have q3 := q 3; have q4 := q 4; have q5 := q 5; have q6 := q 6; have q7 := q 7
    have HB1 := Lib.hid hb1
    clear q hbx b1 HB hb1
    go_upto_region 2 with fail
    go_quiet ((go_at_call 36; exact Calls.quiet_of_same (St15.most_4' _)))
    go_wp2
    go_ret
    exact ⟨by rw [HR.out]; rfl, St15.drewN_b HB1.out _⟩
  have d1 : decide (n < 0) = false := decide_eq_false a1
  by_cases a2 : 0 < n
  · have d2 : decide (0 < n) = true := decide_eq_true a2
    have HR := Lib.hid (show decide (rightP (⟨4, sd, n, c, f, s, t, d⟩ : St)) = false from decide_eq_false fun h => by have := hr.1 h; omega)
    clear hr
    go_enter Tryz.func11, Tryz.ntmps11
    go_upto_region 1 with fail
    rw [← hw0]
    clear hw0
    go_wp2_with fail
    refine (St15.has_4 _).mono ?_
    rintro _ w1 ⟨rfl, b1⟩
    have hbx := (b1.block _ ((Array.getElem?_eq_some_iff.1 HB.out.2).1)).trans HB.out.2
    have hb1 := HB.out.1.trans (b1.mono HB.out.1.size)
    have q := fun i => cell_of_row w1 w.heap.size i _ _ (0, 0) hbx
    clear q0
    have q0 := q 0; have q1 := q 1; have q2 := q 2; have q3 := q 3; have q4 := q 4; have q5 := q 5; have q6 := q 6; have q7 := q 7
    have HB1 := Lib.hid hb1
    clear q hbx b1 HB hb1
    go_upto_region 2 with fail
    go_quiet ((go_at_call 36; exact Calls.quiet_of_same (St15.most_4' _)))
    go_wp2
    go_ret
    exact ⟨by rw [HR.out]; rfl, St15.drewN_b HB1.out _⟩
  have d2 : decide (0 < n) = false := decide_eq_false a2
  by_cases a4 : sd < 0
  · have d4 : decide (sd < 0) = true := decide_eq_true a4
    have HR := Lib.hid (show decide (rightP (⟨4, sd, n, c, f, s, t, d⟩ : St)) = false from decide_eq_false fun h => by have := hr.1 h; omega)
    clear hr
    go_enter Tryz.func11, Tryz.ntmps11
    go_upto_region 1 with fail
    rw [← hw0]
    clear hw0
    go_wp2_with fail
    refine (St15.has_4 _).mono ?_
    rintro _ w1 ⟨rfl, b1⟩
    have hbx := (b1.block _ ((Array.getElem?_eq_some_iff.1 HB.out.2).1)).trans HB.out.2
    have hb1 := HB.out.1.trans (b1.mono HB.out.1.size)
    have q := fun i => cell_of_row w1 w.heap.size i _ _ (0, 0) hbx
    clear q0
    have q0 := q 0; have q1 := q 1; have q2 := q 2; have q3 := q 3; have q4 := q 4; have q5 := q 5; have q6 := q 6; have q7 := q 7
    have HB1 := Lib.hid hb1
    clear q hbx b1 HB hb1
    go_upto_region 2 with fail
    go_quiet ((go_at_call 36; exact Calls.quiet_of_same (St15.most_4' _)))
    go_wp2
    go_ret
    exact ⟨by rw [HR.out]; rfl, St15.drewN_b HB1.out _⟩
  have d4 : decide (sd < 0) = false := decide_eq_false a4
  by_cases a5 : 1 < sd
  · have d5 : decide (1 < sd) = true := decide_eq_true a5
    have HR := Lib.hid (show decide (rightP (⟨4, sd, n, c, f, s, t, d⟩ : St)) = false from decide_eq_false fun h => by have := hr.1 h; omega)
    clear hr
    go_enter Tryz.func11, Tryz.ntmps11
    go_upto_region 1 with fail
    rw [← hw0]
    clear hw0
    go_wp2_with fail
    refine (St15.has_4 _).mono ?_
    rintro _ w1 ⟨rfl, b1⟩
    have hbx := (b1.block _ ((Array.getElem?_eq_some_iff.1 HB.out.2).1)).trans HB.out.2
    have hb1 := HB.out.1.trans (b1.mono HB.out.1.size)
    have q := fun i => cell_of_row w1 w.heap.size i _ _ (0, 0) hbx
    clear q0
    have q0 := q 0; have q1 := q 1; have q2 := q 2; have q3 := q 3; have q4 := q 4; have q5 := q 5; have q6 := q 6; have q7 := q 7
    have HB1 := Lib.hid hb1
    clear q hbx b1 HB hb1
    go_upto_region 2 with fail
    go_quiet ((go_at_call 36; exact Calls.quiet_of_same (St15.most_4' _)))
    go_wp2
    go_ret
    exact ⟨by rw [HR.out]; rfl, St15.drewN_b HB1.out _⟩
  have d5 : decide (1 < sd) = false := decide_eq_false a5
  have HR := Lib.hid (show decide (rightP (⟨4, sd, n, c, f, s, t, d⟩ : St)) = decide (noP (⟨4, sd, n, c, f, s, t, d⟩ : St)) from decide_eq_decide.2 ⟨fun h => (hr.1 h).2.2.2.2, fun h => hr.2 ⟨by omega, by omega, by omega, by omega, h⟩⟩)
  have heq := fun W => eq_no' (⟨4, sd, n, c, f, s, t, d⟩ : St) W
  clear hr
  go_enter Tryz.func11, Tryz.ntmps11
  go_upto_region 1 with fail
  rw [← hw0]
  clear hw0
  go_wp2_with fail
  refine (St15.has_4 _).mono ?_
  rintro _ w1 ⟨rfl, b1⟩
  have hbx := (b1.block _ ((Array.getElem?_eq_some_iff.1 HB.out.2).1)).trans HB.out.2
  have hb1 := HB.out.1.trans (b1.mono HB.out.1.size)
  have q := fun i => cell_of_row w1 w.heap.size i _ _ (0, 0) hbx
  clear q0
  have q0 := q 0; have q1 := q 1; have q2 := q 2; have q3 := q 3; have q4 := q 4; have q5 := q 5; have q6 := q 6; have q7 := q 7
  have HB1 := Lib.hid hb1
  clear q hbx b1 HB hb1
  go_upto_region 2 with fail
  go_quiet ((go_at_call 36; exact Calls.quiet_of_same (St15.most_4' _)))
  go_wp2_with fail
  refine (St15.in_s_115 _).mono ?_
  rintro _ _ ⟨rfl, rfl⟩
  go_wp2_with fail
  refine (St15.in_s_112 _).mono ?_
  rintro _ _ ⟨rfl, rfl⟩
  go_wp2_with fail
  go_ret
  exact ⟨by rw [HR.out]; rfl, St15.drewN_b HB1.out _⟩

theorem rrP_5 (sd n c f s t : Int) (d : ByteArray) : rightP ⟨5, sd, n, c, f, s, t, d⟩ ↔ (0 ≤ sd ∧ sd ≤ 0 ∧ 0 ≤ n ∧ n ≤ 7 ∧ noP (⟨5, sd, n, c, f, s, t, d⟩ : St)) := by
  unfold rightP
  constructor
  · rintro (h | h | h | h | h | h | h | h)
    all_goals dsimp only at h
    all_goals first | (exfalso; have := h.1; omega) | skip
    all_goals (refine ⟨by omega, by omega, by omega, by omega, ?_⟩; first | exact h.2.2.2 | exact h.2.2.2.2)
  · rintro ⟨h1, h2, h3, h4, h5⟩
    dsimp only
    exact .inr (.inr (.inr (.inr (.inl ⟨rfl, by omega, h3, h4, h5⟩))))
set_option maxRecDepth 20000 in
set_option maxHeartbeats 4000000 in
theorem rright_5 (sd n c f s t : Int) (d : ByteArray) (w : World) : Calls Tryz.prog 11 #[.agg #[.int .i64 5, .int .i64 sd, .int .i64 n, .int .i64 c, .int .i64 f, .int .u64 s, .int .u64 t, .string d]] w fun e w' => e = .returned (.bool (decide (rightP (⟨5, sd, n, c, f, s, t, d⟩ : St)))) ∧ Below w.heap.size w w' := by
  have hr := rrP_5 sd n c f s t d
  have hbx : (w.alloc (.cells #[.int .i64 5, .int .i64 sd, .int .i64 n, .int .i64 c, .int .i64 f, .int .u64 s, .int .u64 t, .string d] 26)).heap[w.heap.size]? = some (.cells #[.int .i64 5, .int .i64 sd, .int .i64 n, .int .i64 c, .int .i64 f, .int .u64 s, .int .u64 t, .string d] 26 (0, 0)) := heap_alloc_new w _
  obtain ⟨w0, hw0⟩ : ∃ X, X = w.alloc (.cells #[.int .i64 5, .int .i64 sd, .int .i64 n, .int .i64 c, .int .i64 f, .int .u64 s, .int .u64 t, .string d] 26) := ⟨_, rfl⟩
  have hb0 : Below w.heap.size w w0 := by rw [hw0]; exact (Below.refl _ _).alloc (Nat.le_refl _) _
  rw [← hw0] at hbx
  have HB := Lib.hid (And.intro hb0 hbx)
  have q := fun i => cell_of_row w0 w.heap.size i _ _ (0, 0) hbx
  have q0 := q 0
  clear q hb0 hbx
  by_cases a1 : n < 0
  · have d1 : decide (n < 0) = true := decide_eq_true a1
    have HR := Lib.hid (show decide (rightP (⟨5, sd, n, c, f, s, t, d⟩ : St)) = false from decide_eq_false fun h => by have := hr.1 h; omega)
    clear hr
    go_enter Tryz.func11, Tryz.ntmps11
    go_upto_region 1 with fail
    rw [← hw0]
    clear hw0
    go_wp2_with fail
    refine (St15.has_5 _).mono ?_
    rintro _ w1 ⟨rfl, b1⟩
    have hbx := (b1.block _ ((Array.getElem?_eq_some_iff.1 HB.out.2).1)).trans HB.out.2
    have hb1 := HB.out.1.trans (b1.mono HB.out.1.size)
    have q := fun i => cell_of_row w1 w.heap.size i _ _ (0, 0) hbx
    clear q0
    have q0 := q 0; have q1 := q 1; have q2 := q 2; have q3 := q 3; have q4 := q 4; have q5 := q 5; have q6 := q 6; have q7 := q 7
    have HB1 := Lib.hid hb1
    clear q hbx b1 HB hb1
    go_upto_region 2 with fail
    go_quiet ((go_at_call 36; exact Calls.quiet_of_same (St15.most_5' _)))
    go_wp2
    go_ret
    exact ⟨by rw [HR.out]; rfl, St15.drewN_b HB1.out _⟩
  have d1 : decide (n < 0) = false := decide_eq_false a1
  by_cases a2 : 7 < n
  · have d2 : decide (7 < n) = true := decide_eq_true a2
    have HR := Lib.hid (show decide (rightP (⟨5, sd, n, c, f, s, t, d⟩ : St)) = false from decide_eq_false fun h => by have := hr.1 h; omega)
    clear hr
    go_enter Tryz.func11, Tryz.ntmps11
    go_upto_region 1 with fail
    rw [← hw0]
    clear hw0
    go_wp2_with fail
    refine (St15.has_5 _).mono ?_
    rintro _ w1 ⟨rfl, b1⟩
    have hbx := (b1.block _ ((Array.getElem?_eq_some_iff.1 HB.out.2).1)).trans HB.out.2
    have hb1 := HB.out.1.trans (b1.mono HB.out.1.size)
    have q := fun i => cell_of_row w1 w.heap.size i _ _ (0, 0) hbx
    clear q0
    have q0 := q 0; have q1 := q 1; have q2 := q 2; have q3 := q 3; have q4 := q 4; have q5 := q 5; have q6 := q 6; have q7 := q 7
    have HB1 := Lib.hid hb1
    clear q hbx b1 HB hb1
    go_upto_region 2 with fail
    go_quiet ((go_at_call 36; exact Calls.quiet_of_same (St15.most_5' _)))
    go_wp2
    go_ret
    exact ⟨by rw [HR.out]; rfl, St15.drewN_b HB1.out _⟩
  have d2 : decide (7 < n) = false := decide_eq_false a2
  by_cases a4 : sd < 0
  · have d4 : decide (sd < 0) = true := decide_eq_true a4
    have HR := Lib.hid (show decide (rightP (⟨5, sd, n, c, f, s, t, d⟩ : St)) = false from decide_eq_false fun h => by have := hr.1 h; omega)
    clear hr
    go_enter Tryz.func11, Tryz.ntmps11
    go_upto_region 1 with fail
    rw [← hw0]
    clear hw0
    go_wp2_with fail
    refine (St15.has_5 _).mono ?_
    rintro _ w1 ⟨rfl, b1⟩
    have hbx := (b1.block _ ((Array.getElem?_eq_some_iff.1 HB.out.2).1)).trans HB.out.2
    have hb1 := HB.out.1.trans (b1.mono HB.out.1.size)
    have q := fun i => cell_of_row w1 w.heap.size i _ _ (0, 0) hbx
    clear q0
    have q0 := q 0; have q1 := q 1; have q2 := q 2; have q3 := q 3; have q4 := q 4; have q5 := q 5; have q6 := q 6; have q7 := q 7
    have HB1 := Lib.hid hb1
    clear q hbx b1 HB hb1
    go_upto_region 2 with fail
    go_quiet ((go_at_call 36; exact Calls.quiet_of_same (St15.most_5' _)))
    go_wp2
    go_ret
    exact ⟨by rw [HR.out]; rfl, St15.drewN_b HB1.out _⟩
  have d4 : decide (sd < 0) = false := decide_eq_false a4
  by_cases a5 : 1 < sd
  · have d5 : decide (1 < sd) = true := decide_eq_true a5
    have HR := Lib.hid (show decide (rightP (⟨5, sd, n, c, f, s, t, d⟩ : St)) = false from decide_eq_false fun h => by have := hr.1 h; omega)
    clear hr
    go_enter Tryz.func11, Tryz.ntmps11
    go_upto_region 1 with fail
    rw [← hw0]
    clear hw0
    go_wp2_with fail
    refine (St15.has_5 _).mono ?_
    rintro _ w1 ⟨rfl, b1⟩
    have hbx := (b1.block _ ((Array.getElem?_eq_some_iff.1 HB.out.2).1)).trans HB.out.2
    have hb1 := HB.out.1.trans (b1.mono HB.out.1.size)
    have q := fun i => cell_of_row w1 w.heap.size i _ _ (0, 0) hbx
    clear q0
    have q0 := q 0; have q1 := q 1; have q2 := q 2; have q3 := q 3; have q4 := q 4; have q5 := q 5; have q6 := q 6; have q7 := q 7
    have HB1 := Lib.hid hb1
    clear q hbx b1 HB hb1
    go_upto_region 2 with fail
    go_quiet ((go_at_call 36; exact Calls.quiet_of_same (St15.most_5' _)))
    go_wp2
    go_ret
    exact ⟨by rw [HR.out]; rfl, St15.drewN_b HB1.out _⟩
  have d5 : decide (1 < sd) = false := decide_eq_false a5
  by_cases a6 : sd = 0
  case neg =>
    have d6 : (sd != 0) = true := by simpa using a6
    have d7 : (sd == 0) = false := by simpa using a6
    have HR := Lib.hid (show decide (rightP (⟨5, sd, n, c, f, s, t, d⟩ : St)) = false from decide_eq_false fun h => by have := hr.1 h; omega)
    clear hr
    go_enter Tryz.func11, Tryz.ntmps11
    go_upto_region 1 with fail
    rw [← hw0]
    clear hw0
    go_wp2_with fail
    refine (St15.has_5 _).mono ?_
    rintro _ w1 ⟨rfl, b1⟩
    have hbx := (b1.block _ ((Array.getElem?_eq_some_iff.1 HB.out.2).1)).trans HB.out.2
    have hb1 := HB.out.1.trans (b1.mono HB.out.1.size)
    have q := fun i => cell_of_row w1 w.heap.size i _ _ (0, 0) hbx
    clear q0
    have q0 := q 0; have q1 := q 1; have q2 := q 2; have q3 := q 3; have q4 := q 4; have q5 := q 5; have q6 := q 6; have q7 := q 7
    have HB1 := Lib.hid hb1
    clear q hbx b1 HB hb1
    go_upto_region 2 with fail
    go_quiet ((go_at_call 36; exact Calls.quiet_of_same (St15.most_5' _)))
    go_wp2_with fail
    refine (St15.in_n_115 _).mono ?_
    rintro _ _ ⟨rfl, rfl⟩
    go_wp2
    go_ret
    exact ⟨by rw [HR.out]; rfl, St15.drewN_b HB1.out _⟩
  have d6 : (sd != 0) = false := by simp [a6]
  have d7 : (sd == 0) = true := by simp [a6]
  have HR := Lib.hid (show decide (rightP (⟨5, sd, n, c, f, s, t, d⟩ : St)) = decide (noP (⟨5, sd, n, c, f, s, t, d⟩ : St)) from decide_eq_decide.2 ⟨fun h => (hr.1 h).2.2.2.2, fun h => hr.2 ⟨by omega, by omega, by omega, by omega, h⟩⟩)
  have heq := fun W => eq_no' (⟨5, sd, n, c, f, s, t, d⟩ : St) W
  clear hr a6
  go_enter Tryz.func11, Tryz.ntmps11
  go_upto_region 1 with fail
  rw [← hw0]
  clear hw0
  go_wp2_with fail
  refine (St15.has_5 _).mono ?_
  rintro _ w1 ⟨rfl, b1⟩
  have hbx := (b1.block _ ((Array.getElem?_eq_some_iff.1 HB.out.2).1)).trans HB.out.2
  have hb1 := HB.out.1.trans (b1.mono HB.out.1.size)
  have q := fun i => cell_of_row w1 w.heap.size i _ _ (0, 0) hbx
  clear q0
  have q0 := q 0; have q1 := q 1; have q2 := q 2; have q3 := q 3; have q4 := q 4; have q5 := q 5; have q6 := q 6; have q7 := q 7
  have HB1 := Lib.hid hb1
  clear q hbx b1 HB hb1
  go_upto_region 2 with fail
  go_quiet ((go_at_call 36; exact Calls.quiet_of_same (St15.most_5' _)))
  go_wp2_with fail
  refine (St15.in_n_115 _).mono ?_
  rintro _ _ ⟨rfl, rfl⟩
  go_wp2_with fail
  refine (St15.in_n_112 _).mono ?_
  rintro _ _ ⟨rfl, rfl⟩
  go_wp2_with fail
  go_ret
  exact ⟨by rw [HR.out]; rfl, St15.drewN_b HB1.out _⟩

theorem rrP_6 (sd n c f s t : Int) (d : ByteArray) : rightP ⟨6, sd, n, c, f, s, t, d⟩ ↔ (0 ≤ sd ∧ sd ≤ 1 ∧ 1 ≤ n ∧ n ≤ 4 ∧ noP (⟨6, sd, n, c, f, s, t, d⟩ : St)) := by
  unfold rightP
  constructor
  · rintro (h | h | h | h | h | h | h | h)
    all_goals dsimp only at h
    all_goals first | (exfalso; have := h.1; omega) | skip
    all_goals (refine ⟨by omega, by omega, by omega, by omega, ?_⟩; first | exact h.2.2.2 | exact h.2.2.2.2)
  · rintro ⟨h1, h2, h3, h4, h5⟩
    dsimp only
    exact .inr (.inr (.inr (.inr (.inr (.inl ⟨rfl, by omega, h3, h4, h5⟩)))))
set_option maxRecDepth 20000 in
set_option maxHeartbeats 4000000 in
theorem rright_6 (sd n c f s t : Int) (d : ByteArray) (w : World) : Calls Tryz.prog 11 #[.agg #[.int .i64 6, .int .i64 sd, .int .i64 n, .int .i64 c, .int .i64 f, .int .u64 s, .int .u64 t, .string d]] w fun e w' => e = .returned (.bool (decide (rightP (⟨6, sd, n, c, f, s, t, d⟩ : St)))) ∧ Below w.heap.size w w' := by
  have hr := rrP_6 sd n c f s t d
  have hbx : (w.alloc (.cells #[.int .i64 6, .int .i64 sd, .int .i64 n, .int .i64 c, .int .i64 f, .int .u64 s, .int .u64 t, .string d] 26)).heap[w.heap.size]? = some (.cells #[.int .i64 6, .int .i64 sd, .int .i64 n, .int .i64 c, .int .i64 f, .int .u64 s, .int .u64 t, .string d] 26 (0, 0)) := heap_alloc_new w _
  obtain ⟨w0, hw0⟩ : ∃ X, X = w.alloc (.cells #[.int .i64 6, .int .i64 sd, .int .i64 n, .int .i64 c, .int .i64 f, .int .u64 s, .int .u64 t, .string d] 26) := ⟨_, rfl⟩
  have hb0 : Below w.heap.size w w0 := by rw [hw0]; exact (Below.refl _ _).alloc (Nat.le_refl _) _
  rw [← hw0] at hbx
  have HB := Lib.hid (And.intro hb0 hbx)
  have q := fun i => cell_of_row w0 w.heap.size i _ _ (0, 0) hbx
  have q0 := q 0
  clear q hb0 hbx
  by_cases a1 : n < 0
  · have d1 : decide (n < 0) = true := decide_eq_true a1
    have HR := Lib.hid (show decide (rightP (⟨6, sd, n, c, f, s, t, d⟩ : St)) = false from decide_eq_false fun h => by have := hr.1 h; omega)
    clear hr
    go_enter Tryz.func11, Tryz.ntmps11
    go_upto_region 1 with fail
    rw [← hw0]
    clear hw0
    go_wp2_with fail
    refine (St15.has_6 _).mono ?_
    rintro _ w1 ⟨rfl, b1⟩
    have hbx := (b1.block _ ((Array.getElem?_eq_some_iff.1 HB.out.2).1)).trans HB.out.2
    have hb1 := HB.out.1.trans (b1.mono HB.out.1.size)
    have q := fun i => cell_of_row w1 w.heap.size i _ _ (0, 0) hbx
    clear q0
    have q0 := q 0; have q1 := q 1; have q2 := q 2; have q3 := q 3; have q4 := q 4; have q5 := q 5; have q6 := q 6; have q7 := q 7
    have HB1 := Lib.hid hb1
    clear q hbx b1 HB hb1
    go_upto_region 2 with fail
    go_quiet ((go_at_call 36; exact Calls.quiet_of_same (St15.most_6' _)))
    go_wp2
    go_ret
    exact ⟨by rw [HR.out]; rfl, St15.drewN_b HB1.out _⟩
  have d1 : decide (n < 0) = false := decide_eq_false a1
  by_cases a2 : 4 < n
  · have d2 : decide (4 < n) = true := decide_eq_true a2
    have HR := Lib.hid (show decide (rightP (⟨6, sd, n, c, f, s, t, d⟩ : St)) = false from decide_eq_false fun h => by have := hr.1 h; omega)
    clear hr
    go_enter Tryz.func11, Tryz.ntmps11
    go_upto_region 1 with fail
    rw [← hw0]
    clear hw0
    go_wp2_with fail
    refine (St15.has_6 _).mono ?_
    rintro _ w1 ⟨rfl, b1⟩
    have hbx := (b1.block _ ((Array.getElem?_eq_some_iff.1 HB.out.2).1)).trans HB.out.2
    have hb1 := HB.out.1.trans (b1.mono HB.out.1.size)
    have q := fun i => cell_of_row w1 w.heap.size i _ _ (0, 0) hbx
    clear q0
    have q0 := q 0; have q1 := q 1; have q2 := q 2; have q3 := q 3; have q4 := q 4; have q5 := q 5; have q6 := q 6; have q7 := q 7
    have HB1 := Lib.hid hb1
    clear q hbx b1 HB hb1
    go_upto_region 2 with fail
    go_quiet ((go_at_call 36; exact Calls.quiet_of_same (St15.most_6' _)))
    go_wp2
    go_ret
    exact ⟨by rw [HR.out]; rfl, St15.drewN_b HB1.out _⟩
  have d2 : decide (4 < n) = false := decide_eq_false a2
  by_cases a3 : n = 0
  · have d3 : (n == 0) = true := by simp [a3]
    have HR := Lib.hid (show decide (rightP (⟨6, sd, n, c, f, s, t, d⟩ : St)) = false from decide_eq_false fun h => by have := hr.1 h; omega)
    clear hr
    clear a3
    go_enter Tryz.func11, Tryz.ntmps11
    go_upto_region 1 with fail
    rw [← hw0]
    clear hw0
    go_wp2_with fail
    refine (St15.has_6 _).mono ?_
    rintro _ w1 ⟨rfl, b1⟩
    have hbx := (b1.block _ ((Array.getElem?_eq_some_iff.1 HB.out.2).1)).trans HB.out.2
    have hb1 := HB.out.1.trans (b1.mono HB.out.1.size)
    have q := fun i => cell_of_row w1 w.heap.size i _ _ (0, 0) hbx
    clear q0
    have q0 := q 0; have q1 := q 1; have q2 := q 2; have q3 := q 3; have q4 := q 4; have q5 := q 5; have q6 := q 6; have q7 := q 7
    have HB1 := Lib.hid hb1
    clear q hbx b1 HB hb1
    go_upto_region 2 with fail
    go_quiet ((go_at_call 36; exact Calls.quiet_of_same (St15.most_6' _)))
    go_wp2
    go_ret
    exact ⟨by rw [HR.out]; rfl, St15.drewN_b HB1.out _⟩
  have d3 : (n == 0) = false := by simpa using a3
  by_cases a4 : sd < 0
  · have d4 : decide (sd < 0) = true := decide_eq_true a4
    have HR := Lib.hid (show decide (rightP (⟨6, sd, n, c, f, s, t, d⟩ : St)) = false from decide_eq_false fun h => by have := hr.1 h; omega)
    clear hr
    go_enter Tryz.func11, Tryz.ntmps11
    go_upto_region 1 with fail
    rw [← hw0]
    clear hw0
    go_wp2_with fail
    refine (St15.has_6 _).mono ?_
    rintro _ w1 ⟨rfl, b1⟩
    have hbx := (b1.block _ ((Array.getElem?_eq_some_iff.1 HB.out.2).1)).trans HB.out.2
    have hb1 := HB.out.1.trans (b1.mono HB.out.1.size)
    have q := fun i => cell_of_row w1 w.heap.size i _ _ (0, 0) hbx
    clear q0
    have q0 := q 0; have q1 := q 1; have q2 := q 2; have q3 := q 3; have q4 := q 4; have q5 := q 5; have q6 := q 6; have q7 := q 7
    have HB1 := Lib.hid hb1
    clear q hbx b1 HB hb1
    go_upto_region 2 with fail
    go_quiet ((go_at_call 36; exact Calls.quiet_of_same (St15.most_6' _)))
    go_wp2
    go_ret
    exact ⟨by rw [HR.out]; rfl, St15.drewN_b HB1.out _⟩
  have d4 : decide (sd < 0) = false := decide_eq_false a4
  by_cases a5 : 1 < sd
  · have d5 : decide (1 < sd) = true := decide_eq_true a5
    have HR := Lib.hid (show decide (rightP (⟨6, sd, n, c, f, s, t, d⟩ : St)) = false from decide_eq_false fun h => by have := hr.1 h; omega)
    clear hr
    go_enter Tryz.func11, Tryz.ntmps11
    go_upto_region 1 with fail
    rw [← hw0]
    clear hw0
    go_wp2_with fail
    refine (St15.has_6 _).mono ?_
    rintro _ w1 ⟨rfl, b1⟩
    have hbx := (b1.block _ ((Array.getElem?_eq_some_iff.1 HB.out.2).1)).trans HB.out.2
    have hb1 := HB.out.1.trans (b1.mono HB.out.1.size)
    have q := fun i => cell_of_row w1 w.heap.size i _ _ (0, 0) hbx
    clear q0
    have q0 := q 0; have q1 := q 1; have q2 := q 2; have q3 := q 3; have q4 := q 4; have q5 := q 5; have q6 := q 6; have q7 := q 7
    have HB1 := Lib.hid hb1
    clear q hbx b1 HB hb1
    go_upto_region 2 with fail
    go_quiet ((go_at_call 36; exact Calls.quiet_of_same (St15.most_6' _)))
    go_wp2
    go_ret
    exact ⟨by rw [HR.out]; rfl, St15.drewN_b HB1.out _⟩
  have d5 : decide (1 < sd) = false := decide_eq_false a5
  have HR := Lib.hid (show decide (rightP (⟨6, sd, n, c, f, s, t, d⟩ : St)) = decide (noP (⟨6, sd, n, c, f, s, t, d⟩ : St)) from decide_eq_decide.2 ⟨fun h => (hr.1 h).2.2.2.2, fun h => hr.2 ⟨by omega, by omega, by omega, by omega, h⟩⟩)
  have heq := fun W => eq_no' (⟨6, sd, n, c, f, s, t, d⟩ : St) W
  clear hr
  go_enter Tryz.func11, Tryz.ntmps11
  go_upto_region 1 with fail
  rw [← hw0]
  clear hw0
  go_wp2_with fail
  refine (St15.has_6 _).mono ?_
  rintro _ w1 ⟨rfl, b1⟩
  have hbx := (b1.block _ ((Array.getElem?_eq_some_iff.1 HB.out.2).1)).trans HB.out.2
  have hb1 := HB.out.1.trans (b1.mono HB.out.1.size)
  have q := fun i => cell_of_row w1 w.heap.size i _ _ (0, 0) hbx
  clear q0
  have q0 := q 0; have q1 := q 1; have q2 := q 2; have q3 := q 3; have q4 := q 4; have q5 := q 5; have q6 := q 6; have q7 := q 7
  have HB1 := Lib.hid hb1
  clear q hbx b1 HB hb1
  go_upto_region 2 with fail
  go_quiet ((go_at_call 36; exact Calls.quiet_of_same (St15.most_6' _)))
  go_wp2_with fail
  refine (St15.in_sn_115 _).mono ?_
  rintro _ _ ⟨rfl, rfl⟩
  go_wp2_with fail
  refine (St15.in_sn_112 _).mono ?_
  rintro _ _ ⟨rfl, rfl⟩
  go_wp2_with fail
  go_ret
  exact ⟨by rw [HR.out]; rfl, St15.drewN_b HB1.out _⟩

theorem rrP_7 (sd n c f s t : Int) (d : ByteArray) : rightP ⟨7, sd, n, c, f, s, t, d⟩ ↔ (0 ≤ sd ∧ sd ≤ 0 ∧ 0 ≤ n ∧ n ≤ 0 ∧ noP (⟨7, sd, n, c, f, s, t, d⟩ : St)) := by
  unfold rightP
  constructor
  · rintro (h | h | h | h | h | h | h | h)
    all_goals dsimp only at h
    all_goals first | (exfalso; have := h.1; omega) | skip
    all_goals (refine ⟨by omega, by omega, by omega, by omega, ?_⟩; first | exact h.2.2.2 | exact h.2.2.2.2)
  · rintro ⟨h1, h2, h3, h4, h5⟩
    dsimp only
    exact .inr (.inr (.inr (.inr (.inr (.inr (.inl ⟨rfl, by omega, by omega, h5⟩))))))
set_option maxRecDepth 20000 in
set_option maxHeartbeats 4000000 in
theorem rright_7 (sd n c f s t : Int) (d : ByteArray) (w : World) : Calls Tryz.prog 11 #[.agg #[.int .i64 7, .int .i64 sd, .int .i64 n, .int .i64 c, .int .i64 f, .int .u64 s, .int .u64 t, .string d]] w fun e w' => e = .returned (.bool (decide (rightP (⟨7, sd, n, c, f, s, t, d⟩ : St)))) ∧ Below w.heap.size w w' := by
  have hr := rrP_7 sd n c f s t d
  have hbx : (w.alloc (.cells #[.int .i64 7, .int .i64 sd, .int .i64 n, .int .i64 c, .int .i64 f, .int .u64 s, .int .u64 t, .string d] 26)).heap[w.heap.size]? = some (.cells #[.int .i64 7, .int .i64 sd, .int .i64 n, .int .i64 c, .int .i64 f, .int .u64 s, .int .u64 t, .string d] 26 (0, 0)) := heap_alloc_new w _
  obtain ⟨w0, hw0⟩ : ∃ X, X = w.alloc (.cells #[.int .i64 7, .int .i64 sd, .int .i64 n, .int .i64 c, .int .i64 f, .int .u64 s, .int .u64 t, .string d] 26) := ⟨_, rfl⟩
  have hb0 : Below w.heap.size w w0 := by rw [hw0]; exact (Below.refl _ _).alloc (Nat.le_refl _) _
  rw [← hw0] at hbx
  have HB := Lib.hid (And.intro hb0 hbx)
  have q := fun i => cell_of_row w0 w.heap.size i _ _ (0, 0) hbx
  have q0 := q 0
  clear q hb0 hbx
  by_cases a1 : n < 0
  · have d1 : decide (n < 0) = true := decide_eq_true a1
    have HR := Lib.hid (show decide (rightP (⟨7, sd, n, c, f, s, t, d⟩ : St)) = false from decide_eq_false fun h => by have := hr.1 h; omega)
    clear hr
    go_enter Tryz.func11, Tryz.ntmps11
    go_upto_region 1 with fail
    rw [← hw0]
    clear hw0
    go_wp2_with fail
    refine (St15.has_7 _).mono ?_
    rintro _ w1 ⟨rfl, b1⟩
    have hbx := (b1.block _ ((Array.getElem?_eq_some_iff.1 HB.out.2).1)).trans HB.out.2
    have hb1 := HB.out.1.trans (b1.mono HB.out.1.size)
    have q := fun i => cell_of_row w1 w.heap.size i _ _ (0, 0) hbx
    clear q0
    have q0 := q 0; have q1 := q 1; have q2 := q 2; have q3 := q 3; have q4 := q 4; have q5 := q 5; have q6 := q 6; have q7 := q 7
    have HB1 := Lib.hid hb1
    clear q hbx b1 HB hb1
    go_upto_region 2 with fail
    go_quiet ((go_at_call 36; exact Calls.quiet_of_same (St15.most_7' _)))
    go_wp2
    go_ret
    exact ⟨by rw [HR.out]; rfl, St15.drewN_b HB1.out _⟩
  have d1 : decide (n < 0) = false := decide_eq_false a1
  by_cases a2 : 0 < n
  · have d2 : decide (0 < n) = true := decide_eq_true a2
    have HR := Lib.hid (show decide (rightP (⟨7, sd, n, c, f, s, t, d⟩ : St)) = false from decide_eq_false fun h => by have := hr.1 h; omega)
    clear hr
    go_enter Tryz.func11, Tryz.ntmps11
    go_upto_region 1 with fail
    rw [← hw0]
    clear hw0
    go_wp2_with fail
    refine (St15.has_7 _).mono ?_
    rintro _ w1 ⟨rfl, b1⟩
    have hbx := (b1.block _ ((Array.getElem?_eq_some_iff.1 HB.out.2).1)).trans HB.out.2
    have hb1 := HB.out.1.trans (b1.mono HB.out.1.size)
    have q := fun i => cell_of_row w1 w.heap.size i _ _ (0, 0) hbx
    clear q0
    have q0 := q 0; have q1 := q 1; have q2 := q 2; have q3 := q 3; have q4 := q 4; have q5 := q 5; have q6 := q 6; have q7 := q 7
    have HB1 := Lib.hid hb1
    clear q hbx b1 HB hb1
    go_upto_region 2 with fail
    go_quiet ((go_at_call 36; exact Calls.quiet_of_same (St15.most_7' _)))
    go_wp2
    go_ret
    exact ⟨by rw [HR.out]; rfl, St15.drewN_b HB1.out _⟩
  have d2 : decide (0 < n) = false := decide_eq_false a2
  by_cases a4 : sd < 0
  · have d4 : decide (sd < 0) = true := decide_eq_true a4
    have HR := Lib.hid (show decide (rightP (⟨7, sd, n, c, f, s, t, d⟩ : St)) = false from decide_eq_false fun h => by have := hr.1 h; omega)
    clear hr
    go_enter Tryz.func11, Tryz.ntmps11
    go_upto_region 1 with fail
    rw [← hw0]
    clear hw0
    go_wp2_with fail
    refine (St15.has_7 _).mono ?_
    rintro _ w1 ⟨rfl, b1⟩
    have hbx := (b1.block _ ((Array.getElem?_eq_some_iff.1 HB.out.2).1)).trans HB.out.2
    have hb1 := HB.out.1.trans (b1.mono HB.out.1.size)
    have q := fun i => cell_of_row w1 w.heap.size i _ _ (0, 0) hbx
    clear q0
    have q0 := q 0; have q1 := q 1; have q2 := q 2; have q3 := q 3; have q4 := q 4; have q5 := q 5; have q6 := q 6; have q7 := q 7
    have HB1 := Lib.hid hb1
    clear q hbx b1 HB hb1
    go_upto_region 2 with fail
    go_quiet ((go_at_call 36; exact Calls.quiet_of_same (St15.most_7' _)))
    go_wp2
    go_ret
    exact ⟨by rw [HR.out]; rfl, St15.drewN_b HB1.out _⟩
  have d4 : decide (sd < 0) = false := decide_eq_false a4
  by_cases a5 : 1 < sd
  · have d5 : decide (1 < sd) = true := decide_eq_true a5
    have HR := Lib.hid (show decide (rightP (⟨7, sd, n, c, f, s, t, d⟩ : St)) = false from decide_eq_false fun h => by have := hr.1 h; omega)
    clear hr
    go_enter Tryz.func11, Tryz.ntmps11
    go_upto_region 1 with fail
    rw [← hw0]
    clear hw0
    go_wp2_with fail
    refine (St15.has_7 _).mono ?_
    rintro _ w1 ⟨rfl, b1⟩
    have hbx := (b1.block _ ((Array.getElem?_eq_some_iff.1 HB.out.2).1)).trans HB.out.2
    have hb1 := HB.out.1.trans (b1.mono HB.out.1.size)
    have q := fun i => cell_of_row w1 w.heap.size i _ _ (0, 0) hbx
    clear q0
    have q0 := q 0; have q1 := q 1; have q2 := q 2; have q3 := q 3; have q4 := q 4; have q5 := q 5; have q6 := q 6; have q7 := q 7
    have HB1 := Lib.hid hb1
    clear q hbx b1 HB hb1
    go_upto_region 2 with fail
    go_quiet ((go_at_call 36; exact Calls.quiet_of_same (St15.most_7' _)))
    go_wp2
    go_ret
    exact ⟨by rw [HR.out]; rfl, St15.drewN_b HB1.out _⟩
  have d5 : decide (1 < sd) = false := decide_eq_false a5
  by_cases a6 : sd = 0
  case neg =>
    have d6 : (sd != 0) = true := by simpa using a6
    have d7 : (sd == 0) = false := by simpa using a6
    have HR := Lib.hid (show decide (rightP (⟨7, sd, n, c, f, s, t, d⟩ : St)) = false from decide_eq_false fun h => by have := hr.1 h; omega)
    clear hr
    go_enter Tryz.func11, Tryz.ntmps11
    go_upto_region 1 with fail
    rw [← hw0]
    clear hw0
    go_wp2_with fail
    refine (St15.has_7 _).mono ?_
    rintro _ w1 ⟨rfl, b1⟩
    have hbx := (b1.block _ ((Array.getElem?_eq_some_iff.1 HB.out.2).1)).trans HB.out.2
    have hb1 := HB.out.1.trans (b1.mono HB.out.1.size)
    have q := fun i => cell_of_row w1 w.heap.size i _ _ (0, 0) hbx
    clear q0
    have q0 := q 0; have q1 := q 1; have q2 := q 2; have q3 := q 3; have q4 := q 4; have q5 := q 5; have q6 := q 6; have q7 := q 7
    have HB1 := Lib.hid hb1
    clear q hbx b1 HB hb1
    go_upto_region 2 with fail
    go_quiet ((go_at_call 36; exact Calls.quiet_of_same (St15.most_7' _)))
    go_wp2_with fail
    refine (St15.in_none_115 _).mono ?_
    rintro _ _ ⟨rfl, rfl⟩
    go_wp2
    go_ret
    exact ⟨by rw [HR.out]; rfl, St15.drewN_b HB1.out _⟩
  have d6 : (sd != 0) = false := by simp [a6]
  have d7 : (sd == 0) = true := by simp [a6]
  have HR := Lib.hid (show decide (rightP (⟨7, sd, n, c, f, s, t, d⟩ : St)) = decide (noP (⟨7, sd, n, c, f, s, t, d⟩ : St)) from decide_eq_decide.2 ⟨fun h => (hr.1 h).2.2.2.2, fun h => hr.2 ⟨by omega, by omega, by omega, by omega, h⟩⟩)
  have heq := fun W => eq_no' (⟨7, sd, n, c, f, s, t, d⟩ : St) W
  clear hr a6
  go_enter Tryz.func11, Tryz.ntmps11
  go_upto_region 1 with fail
  rw [← hw0]
  clear hw0
  go_wp2_with fail
  refine (St15.has_7 _).mono ?_
  rintro _ w1 ⟨rfl, b1⟩
  have hbx := (b1.block _ ((Array.getElem?_eq_some_iff.1 HB.out.2).1)).trans HB.out.2
  have hb1 := HB.out.1.trans (b1.mono HB.out.1.size)
  have q := fun i => cell_of_row w1 w.heap.size i _ _ (0, 0) hbx
  clear q0
  have q0 := q 0; have q1 := q 1; have q2 := q 2; have q3 := q 3; have q4 := q 4; have q5 := q 5; have q6 := q 6; have q7 := q 7
  have HB1 := Lib.hid hb1
  clear q hbx b1 HB hb1
  go_upto_region 2 with fail
  go_quiet ((go_at_call 36; exact Calls.quiet_of_same (St15.most_7' _)))
  go_wp2_with fail
  refine (St15.in_none_115 _).mono ?_
  rintro _ _ ⟨rfl, rfl⟩
  go_wp2_with fail
  refine (St15.in_none_112 _).mono ?_
  rintro _ _ ⟨rfl, rfl⟩
  go_wp2_with fail
  go_ret
  exact ⟨by rw [HR.out]; rfl, St15.drewN_b HB1.out _⟩

theorem rrP_8 (sd n c f s t : Int) (d : ByteArray) : rightP ⟨8, sd, n, c, f, s, t, d⟩ ↔ (0 ≤ sd ∧ sd ≤ 0 ∧ 0 ≤ n ∧ n ≤ 0 ∧ noP (⟨8, sd, n, c, f, s, t, d⟩ : St)) := by
  unfold rightP
  constructor
  · rintro (h | h | h | h | h | h | h | h)
    all_goals dsimp only at h
    all_goals first | (exfalso; have := h.1; omega) | skip
    all_goals (refine ⟨by omega, by omega, by omega, by omega, ?_⟩; first | exact h.2.2.2 | exact h.2.2.2.2)
  · rintro ⟨h1, h2, h3, h4, h5⟩
    dsimp only
    exact .inr (.inr (.inr (.inr (.inr (.inr (.inr (⟨rfl, by omega, by omega, h5⟩)))))))
set_option maxRecDepth 20000 in
set_option maxHeartbeats 4000000 in
theorem rright_8 (sd n c f s t : Int) (d : ByteArray) (w : World) : Calls Tryz.prog 11 #[.agg #[.int .i64 8, .int .i64 sd, .int .i64 n, .int .i64 c, .int .i64 f, .int .u64 s, .int .u64 t, .string d]] w fun e w' => e = .returned (.bool (decide (rightP (⟨8, sd, n, c, f, s, t, d⟩ : St)))) ∧ Below w.heap.size w w' := by
  have hr := rrP_8 sd n c f s t d
  have hbx : (w.alloc (.cells #[.int .i64 8, .int .i64 sd, .int .i64 n, .int .i64 c, .int .i64 f, .int .u64 s, .int .u64 t, .string d] 26)).heap[w.heap.size]? = some (.cells #[.int .i64 8, .int .i64 sd, .int .i64 n, .int .i64 c, .int .i64 f, .int .u64 s, .int .u64 t, .string d] 26 (0, 0)) := heap_alloc_new w _
  obtain ⟨w0, hw0⟩ : ∃ X, X = w.alloc (.cells #[.int .i64 8, .int .i64 sd, .int .i64 n, .int .i64 c, .int .i64 f, .int .u64 s, .int .u64 t, .string d] 26) := ⟨_, rfl⟩
  have hb0 : Below w.heap.size w w0 := by rw [hw0]; exact (Below.refl _ _).alloc (Nat.le_refl _) _
  rw [← hw0] at hbx
  have HB := Lib.hid (And.intro hb0 hbx)
  have q := fun i => cell_of_row w0 w.heap.size i _ _ (0, 0) hbx
  have q0 := q 0
  clear q hb0 hbx
  by_cases a1 : n < 0
  · have d1 : decide (n < 0) = true := decide_eq_true a1
    have HR := Lib.hid (show decide (rightP (⟨8, sd, n, c, f, s, t, d⟩ : St)) = false from decide_eq_false fun h => by have := hr.1 h; omega)
    clear hr
    go_enter Tryz.func11, Tryz.ntmps11
    go_upto_region 1 with fail
    rw [← hw0]
    clear hw0
    go_wp2_with fail
    refine (St15.has_8 _).mono ?_
    rintro _ w1 ⟨rfl, b1⟩
    have hbx := (b1.block _ ((Array.getElem?_eq_some_iff.1 HB.out.2).1)).trans HB.out.2
    have hb1 := HB.out.1.trans (b1.mono HB.out.1.size)
    have q := fun i => cell_of_row w1 w.heap.size i _ _ (0, 0) hbx
    clear q0
    have q0 := q 0; have q1 := q 1; have q2 := q 2; have q3 := q 3; have q4 := q 4; have q5 := q 5; have q6 := q 6; have q7 := q 7
    have HB1 := Lib.hid hb1
    clear q hbx b1 HB hb1
    go_upto_region 2 with fail
    go_quiet ((go_at_call 36; exact Calls.quiet_of_same (St15.most_8' _)))
    go_wp2
    go_ret
    exact ⟨by rw [HR.out]; rfl, St15.drewN_b HB1.out _⟩
  have d1 : decide (n < 0) = false := decide_eq_false a1
  by_cases a2 : 0 < n
  · have d2 : decide (0 < n) = true := decide_eq_true a2
    have HR := Lib.hid (show decide (rightP (⟨8, sd, n, c, f, s, t, d⟩ : St)) = false from decide_eq_false fun h => by have := hr.1 h; omega)
    clear hr
    go_enter Tryz.func11, Tryz.ntmps11
    go_upto_region 1 with fail
    rw [← hw0]
    clear hw0
    go_wp2_with fail
    refine (St15.has_8 _).mono ?_
    rintro _ w1 ⟨rfl, b1⟩
    have hbx := (b1.block _ ((Array.getElem?_eq_some_iff.1 HB.out.2).1)).trans HB.out.2
    have hb1 := HB.out.1.trans (b1.mono HB.out.1.size)
    have q := fun i => cell_of_row w1 w.heap.size i _ _ (0, 0) hbx
    clear q0
    have q0 := q 0; have q1 := q 1; have q2 := q 2; have q3 := q 3; have q4 := q 4; have q5 := q 5; have q6 := q 6; have q7 := q 7
    have HB1 := Lib.hid hb1
    clear q hbx b1 HB hb1
    go_upto_region 2 with fail
    go_quiet ((go_at_call 36; exact Calls.quiet_of_same (St15.most_8' _)))
    go_wp2
    go_ret
    exact ⟨by rw [HR.out]; rfl, St15.drewN_b HB1.out _⟩
  have d2 : decide (0 < n) = false := decide_eq_false a2
  by_cases a4 : sd < 0
  · have d4 : decide (sd < 0) = true := decide_eq_true a4
    have HR := Lib.hid (show decide (rightP (⟨8, sd, n, c, f, s, t, d⟩ : St)) = false from decide_eq_false fun h => by have := hr.1 h; omega)
    clear hr
    go_enter Tryz.func11, Tryz.ntmps11
    go_upto_region 1 with fail
    rw [← hw0]
    clear hw0
    go_wp2_with fail
    refine (St15.has_8 _).mono ?_
    rintro _ w1 ⟨rfl, b1⟩
    have hbx := (b1.block _ ((Array.getElem?_eq_some_iff.1 HB.out.2).1)).trans HB.out.2
    have hb1 := HB.out.1.trans (b1.mono HB.out.1.size)
    have q := fun i => cell_of_row w1 w.heap.size i _ _ (0, 0) hbx
    clear q0
    have q0 := q 0; have q1 := q 1; have q2 := q 2; have q3 := q 3; have q4 := q 4; have q5 := q 5; have q6 := q 6; have q7 := q 7
    have HB1 := Lib.hid hb1
    clear q hbx b1 HB hb1
    go_upto_region 2 with fail
    go_quiet ((go_at_call 36; exact Calls.quiet_of_same (St15.most_8' _)))
    go_wp2
    go_ret
    exact ⟨by rw [HR.out]; rfl, St15.drewN_b HB1.out _⟩
  have d4 : decide (sd < 0) = false := decide_eq_false a4
  by_cases a5 : 1 < sd
  · have d5 : decide (1 < sd) = true := decide_eq_true a5
    have HR := Lib.hid (show decide (rightP (⟨8, sd, n, c, f, s, t, d⟩ : St)) = false from decide_eq_false fun h => by have := hr.1 h; omega)
    clear hr
    go_enter Tryz.func11, Tryz.ntmps11
    go_upto_region 1 with fail
    rw [← hw0]
    clear hw0
    go_wp2_with fail
    refine (St15.has_8 _).mono ?_
    rintro _ w1 ⟨rfl, b1⟩
    have hbx := (b1.block _ ((Array.getElem?_eq_some_iff.1 HB.out.2).1)).trans HB.out.2
    have hb1 := HB.out.1.trans (b1.mono HB.out.1.size)
    have q := fun i => cell_of_row w1 w.heap.size i _ _ (0, 0) hbx
    clear q0
    have q0 := q 0; have q1 := q 1; have q2 := q 2; have q3 := q 3; have q4 := q 4; have q5 := q 5; have q6 := q 6; have q7 := q 7
    have HB1 := Lib.hid hb1
    clear q hbx b1 HB hb1
    go_upto_region 2 with fail
    go_quiet ((go_at_call 36; exact Calls.quiet_of_same (St15.most_8' _)))
    go_wp2
    go_ret
    exact ⟨by rw [HR.out]; rfl, St15.drewN_b HB1.out _⟩
  have d5 : decide (1 < sd) = false := decide_eq_false a5
  by_cases a6 : sd = 0
  case neg =>
    have d6 : (sd != 0) = true := by simpa using a6
    have d7 : (sd == 0) = false := by simpa using a6
    have HR := Lib.hid (show decide (rightP (⟨8, sd, n, c, f, s, t, d⟩ : St)) = false from decide_eq_false fun h => by have := hr.1 h; omega)
    clear hr
    go_enter Tryz.func11, Tryz.ntmps11
    go_upto_region 1 with fail
    rw [← hw0]
    clear hw0
    go_wp2_with fail
    refine (St15.has_8 _).mono ?_
    rintro _ w1 ⟨rfl, b1⟩
    have hbx := (b1.block _ ((Array.getElem?_eq_some_iff.1 HB.out.2).1)).trans HB.out.2
    have hb1 := HB.out.1.trans (b1.mono HB.out.1.size)
    have q := fun i => cell_of_row w1 w.heap.size i _ _ (0, 0) hbx
    clear q0
    have q0 := q 0; have q1 := q 1; have q2 := q 2; have q3 := q 3; have q4 := q 4; have q5 := q 5; have q6 := q 6; have q7 := q 7
    have HB1 := Lib.hid hb1
    clear q hbx b1 HB hb1
    go_upto_region 2 with fail
    go_quiet ((go_at_call 36; exact Calls.quiet_of_same (St15.most_8' _)))
    go_wp2_with fail
    refine (St15.in_none_115 _).mono ?_
    rintro _ _ ⟨rfl, rfl⟩
    go_wp2
    go_ret
    exact ⟨by rw [HR.out]; rfl, St15.drewN_b HB1.out _⟩
  have d6 : (sd != 0) = false := by simp [a6]
  have d7 : (sd == 0) = true := by simp [a6]
  have HR := Lib.hid (show decide (rightP (⟨8, sd, n, c, f, s, t, d⟩ : St)) = decide (noP (⟨8, sd, n, c, f, s, t, d⟩ : St)) from decide_eq_decide.2 ⟨fun h => (hr.1 h).2.2.2.2, fun h => hr.2 ⟨by omega, by omega, by omega, by omega, h⟩⟩)
  have heq := fun W => eq_no' (⟨8, sd, n, c, f, s, t, d⟩ : St) W
  clear hr a6
  go_enter Tryz.func11, Tryz.ntmps11
  go_upto_region 1 with fail
  rw [← hw0]
  clear hw0
  go_wp2_with fail
  refine (St15.has_8 _).mono ?_
  rintro _ w1 ⟨rfl, b1⟩
  have hbx := (b1.block _ ((Array.getElem?_eq_some_iff.1 HB.out.2).1)).trans HB.out.2
  have hb1 := HB.out.1.trans (b1.mono HB.out.1.size)
  have q := fun i => cell_of_row w1 w.heap.size i _ _ (0, 0) hbx
  clear q0
  have q0 := q 0; have q1 := q 1; have q2 := q 2; have q3 := q 3; have q4 := q 4; have q5 := q 5; have q6 := q 6; have q7 := q 7
  have HB1 := Lib.hid hb1
  clear q hbx b1 HB hb1
  go_upto_region 2 with fail
  go_quiet ((go_at_call 36; exact Calls.quiet_of_same (St15.most_8' _)))
  go_wp2_with fail
  refine (St15.in_none_115 _).mono ?_
  rintro _ _ ⟨rfl, rfl⟩
  go_wp2_with fail
  refine (St15.in_none_112 _).mono ?_
  rintro _ _ ⟨rfl, rfl⟩
  go_wp2_with fail
  go_ret
  exact ⟨by rw [HR.out]; rfl, St15.drewN_b HB1.out _⟩

set_option maxRecDepth 20000 in
set_option maxHeartbeats 4000000 in
theorem rright_o (k sd n c f s t : Int) (d : ByteArray) (hk : k < 0 ∨ 8 < k) (w : World) : Calls Tryz.prog 11 #[.agg #[.int .i64 k, .int .i64 sd, .int .i64 n, .int .i64 c, .int .i64 f, .int .u64 s, .int .u64 t, .string d]] w fun e w' => e = .returned (.bool (decide (rightP (⟨k, sd, n, c, f, s, t, d⟩ : St)))) ∧ Below w.heap.size w w' := by
  have HR := Lib.hid (show decide (rightP (⟨k, sd, n, c, f, s, t, d⟩ : St)) = false from decide_eq_false fun h => by
    rcases h with h | h | h | h | h | h | h | h <;> (have := h.1; dsimp only at this; omega))
  have hbx : (w.alloc (.cells #[.int .i64 k, .int .i64 sd, .int .i64 n, .int .i64 c, .int .i64 f, .int .u64 s, .int .u64 t, .string d] 26)).heap[w.heap.size]? = some (.cells #[.int .i64 k, .int .i64 sd, .int .i64 n, .int .i64 c, .int .i64 f, .int .u64 s, .int .u64 t, .string d] 26 (0, 0)) := heap_alloc_new w _
  obtain ⟨w0, hw0⟩ : ∃ X, X = w.alloc (.cells #[.int .i64 k, .int .i64 sd, .int .i64 n, .int .i64 c, .int .i64 f, .int .u64 s, .int .u64 t, .string d] 26) := ⟨_, rfl⟩
  have hb0 : Below w.heap.size w w0 := by rw [hw0]; exact (Below.refl _ _).alloc (Nat.le_refl _) _
  rw [← hw0] at hbx
  have HB := Lib.hid (And.intro hb0 hbx)
  have HH := Lib.hid (fun W => has_o k hk W)
  have q := fun i => cell_of_row w0 w.heap.size i _ _ (0, 0) hbx
  have q0 := q 0
  clear q hb0 hbx hk
  go_enter Tryz.func11, Tryz.ntmps11
  go_upto_region 1 with fail
  rw [← hw0]
  clear hw0
  go_wp2_with fail
  refine (HH.out _).mono ?_
  rintro _ w1 ⟨rfl, b1⟩
  have hb1 := HB.out.1.trans (b1.mono HB.out.1.size)
  have HB1 := Lib.hid hb1
  clear b1 HB hb1 q0
  go_upto_region 2 with fail
  go_quiet (fail)
  go_wp2
  go_ret
  exact ⟨by rw [HR.out]; rfl, St15.drewN_b HB1.out _⟩

set_option maxRecDepth 20000 in
set_option maxHeartbeats 4000000 in
theorem rright_0 (sd n c f s t : Int) (d : ByteArray)  (w : World) : Calls Tryz.prog 11 #[.agg #[.int .i64 0, .int .i64 sd, .int .i64 n, .int .i64 c, .int .i64 f, .int .u64 s, .int .u64 t, .string d]] w fun e w' => e = .returned (.bool (decide (rightP (⟨0, sd, n, c, f, s, t, d⟩ : St)))) ∧ Below w.heap.size w w' := by
  have HR := Lib.hid (show decide (rightP (⟨0, sd, n, c, f, s, t, d⟩ : St)) = false from decide_eq_false fun h => by
    rcases h with h | h | h | h | h | h | h | h <;> (have := h.1; dsimp only at this; omega))
  have hbx : (w.alloc (.cells #[.int .i64 0, .int .i64 sd, .int .i64 n, .int .i64 c, .int .i64 f, .int .u64 s, .int .u64 t, .string d] 26)).heap[w.heap.size]? = some (.cells #[.int .i64 0, .int .i64 sd, .int .i64 n, .int .i64 c, .int .i64 f, .int .u64 s, .int .u64 t, .string d] 26 (0, 0)) := heap_alloc_new w _
  obtain ⟨w0, hw0⟩ : ∃ X, X = w.alloc (.cells #[.int .i64 0, .int .i64 sd, .int .i64 n, .int .i64 c, .int .i64 f, .int .u64 s, .int .u64 t, .string d] 26) := ⟨_, rfl⟩
  have hb0 : Below w.heap.size w w0 := by rw [hw0]; exact (Below.refl _ _).alloc (Nat.le_refl _) _
  rw [← hw0] at hbx
  have HB := Lib.hid (And.intro hb0 hbx)
  have HH := Lib.hid (fun W => has_0 W)
  have q := fun i => cell_of_row w0 w.heap.size i _ _ (0, 0) hbx
  have q0 := q 0
  clear q hb0 hbx
  go_enter Tryz.func11, Tryz.ntmps11
  go_upto_region 1 with fail
  rw [← hw0]
  clear hw0
  go_wp2_with fail
  refine (HH.out _).mono ?_
  rintro _ w1 ⟨rfl, b1⟩
  have hb1 := HB.out.1.trans (b1.mono HB.out.1.size)
  have HB1 := Lib.hid hb1
  clear b1 HB hb1 q0
  go_upto_region 2 with fail
  go_quiet (fail)
  go_wp2
  go_ret
  exact ⟨by rw [HR.out]; rfl, St15.drewN_b HB1.out _⟩

theorem rright_any (x : St) (w : World) : Calls Tryz.prog 11 #[.agg x.cells] w fun e w' => e = .returned (.bool (decide (rightP x))) ∧ Below w.heap.size w w' := by
  obtain ⟨k, sd, n, c, f, s, t, d⟩ := x
  show Calls Tryz.prog _ #[.agg #[.int .i64 k, .int .i64 sd, .int .i64 n, .int .i64 c, .int .i64 f, .int .u64 s, .int .u64 t, .string d]] w _
  rcases Decidable.em (k = 0) with rfl | h0
  · exact rright_0 sd n c f s t d w
  rcases Decidable.em (k = 1) with rfl | h1
  · exact rright_1 sd n c f s t d w
  rcases Decidable.em (k = 2) with rfl | h2
  · exact rright_2 sd n c f s t d w
  rcases Decidable.em (k = 3) with rfl | h3
  · exact rright_3 sd n c f s t d w
  rcases Decidable.em (k = 4) with rfl | h4
  · exact rright_4 sd n c f s t d w
  rcases Decidable.em (k = 5) with rfl | h5
  · exact rright_5 sd n c f s t d w
  rcases Decidable.em (k = 6) with rfl | h6
  · exact rright_6 sd n c f s t d w
  rcases Decidable.em (k = 7) with rfl | h7
  · exact rright_7 sd n c f s t d w
  rcases Decidable.em (k = 8) with rfl | h8
  · exact rright_8 sd n c f s t d w
  exact rright_o k sd n c f s t d (by omega) w

end Go.Proofs.YtnjcenbmdcogpaaGreatDoor.Sp
