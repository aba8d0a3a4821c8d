/- The page's steps: two that are not right. -/
import Derived.Test.YtnjcenbmdcogpaaGreatDoorStep15R
namespace Go.Proofs.YtnjcenbmdcogpaaGreatDoor.St15
open Go Go.RowKit
set_option linter.unusedVariables false
set_option maxHeartbeats 1000000 in
theorem rpr_bad (c f t : Int) (d : ByteArray) (h0 : 0 ≤ c) (h1 : c ≤ 3) (h4 : 0 ≤ f) (h5 : f ≤ 1) (hd : ¬ d.size ≤ 64) (w : World) :
    Calls Tryz.prog 38 #[.agg #[.int .i64 c, .int .i64 f, .int .u64 0, .int .u64 t, .string d]] w fun e w' => e = .returned (.bool false) ∧ Below w.heap.size w w' := by
  have h3 : ¬ (d.size : Int) ≤ 64 := by omega
  have h6 : (64 : Int) < (d.size : Int) := by omega
  clear hd
  go_enter Tryz.func38, Tryz.ntmps38
  go_wp2
  go_ret
  exact ⟨rfl, (Below.refl _ _).alloc (Nat.le_refl _) _⟩
set_option maxRecDepth 20000 in
set_option maxHeartbeats 2000000 in
theorem right_6b (sd : Int) (s0 : 0 ≤ sd) (s1 : sd ≤ 1) (w : World) : Calls Tryz.prog 11 #[.agg #[.int .i64 6, .int .i64 sd, .int .i64 0, .int .i64 0, .int .i64 0, .int .u64 0, .int .u64 0, .string ⟨#[]⟩]] w fun e w' => e = .returned (.bool false) ∧ Below w.heap.size w w' := by
  have hbx : (w.alloc (.cells #[.int .i64 6, .int .i64 sd, .int .i64 0, .int .i64 0, .int .i64 0, .int .u64 0, .int .u64 0, .string ⟨#[]⟩] 26)).heap[w.heap.size]? = some (.cells #[.int .i64 6, .int .i64 sd, .int .i64 0, .int .i64 0, .int .i64 0, .int .u64 0, .int .u64 0, .string ⟨#[]⟩] 26 (0, 0)) := heap_alloc_new w _
  obtain ⟨w0, hw0⟩ : ∃ X, X = w.alloc (.cells #[.int .i64 6, .int .i64 sd, .int .i64 0, .int .i64 0, .int .i64 0, .int .u64 0, .int .u64 0, .string ⟨#[]⟩] 26) := ⟨_, rfl⟩
  have hb0 : Below w.heap.size w w0 := by rw [hw0]; exact (Below.refl _ _).alloc (Nat.le_refl _) _
  rw [← hw0] at hbx
  have HB := Lib.hid (And.intro hb0 hbx)
  have q := fun i => cell_of_row w0 w.heap.size i _ _ (0, 0) hbx
  have q0 := q 0
  clear q hb0 hbx
  have s2 : decide (sd < 0) = false := by simp; omega
  have s3 : decide (1 < sd) = false := by simp; omega
  go_enter Tryz.func11, Tryz.ntmps11
  go_upto_region 1 with fail
  rw [← hw0]
  clear hw0
  go_wp2_with fail
  refine (has_6 _).mono ?_
  rintro _ w1 ⟨rfl, b1⟩
  have hbx := (b1.block _ ((Array.getElem?_eq_some_iff.1 HB.out.2).1)).trans HB.out.2
  have hb1 := HB.out.1.trans (b1.mono HB.out.1.size)
  have q := fun i => cell_of_row w1 w.heap.size i _ _ (0, 0) hbx
  clear q0
  have q0 := q 0; have q1 := q 1; have q2 := q 2; have q3 := q 3; have q4 := q 4; have q5 := q 5; have q6 := q 6; have q7 := q 7
  have HB1 := Lib.hid hb1
  clear q hbx b1 HB hb1
  go_upto_region 2 with fail
  go_quiet ((go_at_call 36; exact Calls.quiet_of_same (most_6' _)))
  go_wp2
  go_ret
  exact ⟨rfl, drewN_b HB1.out _⟩

set_option maxRecDepth 20000 in
set_option maxHeartbeats 2000000 in
theorem right_3b (c f t : Int) (d : ByteArray) (h0 : 0 ≤ c) (h1 : c ≤ 3) (h4 : 0 ≤ f) (h5 : f ≤ 1) (hd : ¬ d.size ≤ 64) (w : World) : Calls Tryz.prog 11 #[.agg #[.int .i64 3, .int .i64 0, .int .i64 0, .int .i64 c, .int .i64 f, .int .u64 0, .int .u64 t, .string d]] w fun e w' => e = .returned (.bool false) ∧ Below w.heap.size w w' := by
  have hbx : (w.alloc (.cells #[.int .i64 3, .int .i64 0, .int .i64 0, .int .i64 c, .int .i64 f, .int .u64 0, .int .u64 t, .string d] 26)).heap[w.heap.size]? = some (.cells #[.int .i64 3, .int .i64 0, .int .i64 0, .int .i64 c, .int .i64 f, .int .u64 0, .int .u64 t, .string d] 26 (0, 0)) := heap_alloc_new w _
  obtain ⟨w0, hw0⟩ : ∃ X, X = w.alloc (.cells #[.int .i64 3, .int .i64 0, .int .i64 0, .int .i64 c, .int .i64 f, .int .u64 0, .int .u64 t, .string d] 26) := ⟨_, rfl⟩
  have hb0 : Below w.heap.size w w0 := by rw [hw0]; exact (Below.refl _ _).alloc (Nat.le_refl _) _
  rw [← hw0] at hbx
  have HB := Lib.hid (And.intro hb0 hbx)
  have q := fun i => cell_of_row w0 w.heap.size i _ _ (0, 0) hbx
  have q0 := q 0
  clear q hb0 hbx
  have HD := Lib.hid hd
  clear hd
  go_enter Tryz.func11, Tryz.ntmps11
  go_upto_region 1 with fail
  rw [← hw0]
  clear hw0
  go_wp2_with fail
  refine (has_3 _).mono ?_
  rintro _ w1 ⟨rfl, b1⟩
  have hbx := (b1.block _ ((Array.getElem?_eq_some_iff.1 HB.out.2).1)).trans HB.out.2
  have hb1 := HB.out.1.trans (b1.mono HB.out.1.size)
  have q := fun i => cell_of_row w1 w.heap.size i _ _ (0, 0) hbx
  clear q0
  have q0 := q 0; have q1 := q 1; have q2 := q 2; have q3 := q 3; have q4 := q 4; have q5 := q 5; have q6 := q 6; have q7 := q 7
  have HB1 := Lib.hid hb1
  clear q hbx b1 HB hb1
  go_upto_region 2 with fail
  go_quiet ((go_at_call 36; exact Calls.quiet_of_same (most_3' _)))
  go_wp2_with fail
  refine (in_p_115 _).mono ?_
  rintro _ _ ⟨rfl, rfl⟩
  go_wp2_with fail
  refine (in_p_112 _).mono ?_
  rintro _ _ ⟨rfl, rfl⟩
  go_wp2_with fail
  refine (rpr_bad c f t d h0 h1 h4 h5 HD.out _).mono ?_
  rintro _ w2 ⟨rfl, b2⟩
  have p5 := (b2.cell (p := ⟨w.heap.size, 5, none⟩) (World.block_lt_of_cell? w1 _ q5)).trans q5
  have HB2 := Lib.hid ((drewN_b HB1.out nq).trans (b2.mono (drewN_b HB1.out nq).size))
  go_wp2
  go_ret
  exact ⟨rfl, HB2.out⟩
end Go.Proofs.YtnjcenbmdcogpaaGreatDoor.St15
