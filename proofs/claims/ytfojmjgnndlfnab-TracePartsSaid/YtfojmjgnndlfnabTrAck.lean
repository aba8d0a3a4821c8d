/- of, and what it makes; the closure of told. -/
import Derived.Test.YtfojmjgnndlfnabTrFits
namespace Go.Proofs.Ytfojmjgnndlfnab.Tr
open Go Go.RowKit
set_option linter.unusedVariables false

theorem of_any (x : Mk) (n : Nat) {K : Nat} (w : World) :
    Calls Try.prog 27 #[.agg #[.int .i64 x.c, .int .i64 x.f, .int .u64 x.s, .int .u64 x.t, .string x.d], .slice (some ⟨K, 0, none⟩) n n] w fun e w' => ∃ Y Z, e = .returned (.func (.func 34) #[] #[.pointer (some ⟨Y, 0, none⟩), .pointer (some ⟨Z, 0, none⟩)]) ∧ w'.heap[Y]? = some (.cells #[.int .i64 x.c, .int .i64 x.f, .int .u64 x.s] TKy (0, 0)) ∧ w'.heap[Z]? = some (.cells #[.slice (some ⟨K, 0, none⟩) n n] TIs (0, 0)) ∧ Below w.heap.size w w' := by
  have h1 := heap_alloc_new (w.alloc (.cells #[.int .i64 x.c, .int .i64 x.f, .int .u64 x.s, .int .u64 x.t, .string x.d] TPk)) (.cells #[.slice (some ⟨K, 0, none⟩) n n] TIs)
  have h0 := al_of (o' := .cells #[.slice (some ⟨K, 0, none⟩) n n] TIs) (heap_alloc_new w (.cells #[.int .i64 x.c, .int .i64 x.f, .int .u64 x.s, .int .u64 x.t, .string x.d] TPk))
  obtain ⟨w0, hw0⟩ : ∃ X, X = (w.alloc (.cells #[.int .i64 x.c, .int .i64 x.f, .int .u64 x.s, .int .u64 x.t, .string x.d] TPk)).alloc (.cells #[.slice (some ⟨K, 0, none⟩) n n] TIs) := ⟨_, rfl⟩
  have hb0 : Below w.heap.size w w0 := by rw [hw0]; exact ((Below.refl _ _).alloc (Nat.le_refl _) _).alloc (by simp) _
  rw [← hw0] at h0 h1
  rw [show (w.alloc (.cells #[.int .i64 x.c, .int .i64 x.f, .int .u64 x.s, .int .u64 x.t, .string x.d] TPk)).heap.size = w.heap.size + 1 by simp] at h1
  have H0 := Lib.hid (And.intro h1 hb0)
  have q := fun i => cell_of_row w0 w.heap.size i _ _ (0, 0) h0
  have q0 := q 0; have q1 := q 1; have q2 := q 2; have q3 := q 3; have q4 := q 4
  clear q h0 h1 hb0
  go_enter Try.func27, Try.ntmps27
  go_upto_region 1 with fail
  rw [← hw0]
  clear hw0
  go_wp2_with fail
  refine (key_any x _).mono ?_
  rintro _ w1 ⟨rfl, b1⟩
  have hz := (b1.block _ (lt_of H0.out.1)).trans H0.out.1
  have hb := H0.out.2.trans (b1.mono H0.out.2.size)
  have hlz := lt_of hz
  have HZ := Lib.hid (And.intro hz (And.intro hb hlz))
  clear hz hb hlz b1 q0 q1 q2 q3 q4 H0
  go_wp2
  go_ret
  refine ⟨_, _, rfl, ?_, ?_, ?_⟩
  · exact heap_alloc_new w1 _
  · exact al_of HZ.out.1
  · exact HZ.out.2.1.alloc (HZ.out.2.1.size) _
set_option maxRecDepth 20000 in
set_option maxHeartbeats 4000000 in
theorem fit_ack (x m : Mk) {w : World} {B P : Nat} (hx : w.heap[B]? = some (.cells #[.int .i64 x.sd, .int .i64 x.k, .int .u64 x.h, .int .i64 x.c, .int .i64 x.f, .int .u64 x.s, .int .u64 x.t, .string x.d, .string x.a] TMk (0, 0))) (hp : w.heap[P]? = some (.cells #[.int .i64 x.c, .int .i64 x.f, .int .u64 x.s, .int .u64 x.t, .string x.d] TPk (0, 0))) :
    Calls Try.prog 28 #[.agg #[.int .i64 m.sd, .int .i64 m.k, .int .u64 m.h, .int .i64 m.c, .int .i64 m.f, .int .u64 m.s, .int .u64 m.t, .string m.d, .string m.a], .pointer (some ⟨B, 0, none⟩), .pointer (some ⟨P, 0, none⟩)] w fun e w' => e = .returned (.bool (pAck x m)) ∧ Below w.heap.size w w' := by
  have lx := lt_of hx
  have lp := lt_of hp
  have hK2 : Hid (pAck x m = (decide (m.a.toList = x.a.toList) && pOf [2] x m)) := Lib.hid rfl
  have hm := heap_alloc_new w (.cells #[.int .i64 m.sd, .int .i64 m.k, .int .u64 m.h, .int .i64 m.c, .int .i64 m.f, .int .u64 m.s, .int .u64 m.t, .string m.d, .string m.a] TMk)
  have HS0 := Lib.hid (And.intro hm (And.intro (al_of (o' := .cells #[.int .i64 m.sd, .int .i64 m.k, .int .u64 m.h, .int .i64 m.c, .int .i64 m.f, .int .u64 m.s, .int .u64 m.t, .string m.d, .string m.a] TMk) hx) (al_of (o' := .cells #[.int .i64 m.sd, .int .i64 m.k, .int .u64 m.h, .int .i64 m.c, .int .i64 m.f, .int .u64 m.s, .int .u64 m.t, .string m.d, .string m.a] TMk) hp)))
  clear hm
  obtain ⟨w0, hw0⟩ : ∃ X, X = (w.alloc (.cells #[.int .i64 m.sd, .int .i64 m.k, .int .u64 m.h, .int .i64 m.c, .int .i64 m.f, .int .u64 m.s, .int .u64 m.t, .string m.d, .string m.a] TMk)) := ⟨_, rfl⟩
  have hb0 : Below w.heap.size w w0 := by rw [hw0]; exact (Below.refl _ _).alloc (Nat.le_refl _) _
  rw [← hw0] at HS0
  have HB := Lib.hid hb0
  clear hx hp hb0
  have HOF : Hid (∀ (Y Z K : Nat) (V : World), V.heap[Y]? = some (.cells #[.int .i64 x.c, .int .i64 x.f, .int .u64 x.s] TKy (0, 0)) → V.heap[Z]? = some (.cells #[.slice (some ⟨K, 0, none⟩) 1 1] TIs (0, 0)) → V.heap[K]? = some (.cells #[.int .i64 2] 3 (0, 0)) → Calls Try.prog 34 #[.agg #[.int .i64 m.sd, .int .i64 m.k, .int .u64 m.h, .int .i64 m.c, .int .i64 m.f, .int .u64 m.s, .int .u64 m.t, .string m.d, .string m.a], .pointer (some ⟨Y, 0, none⟩), .pointer (some ⟨Z, 0, none⟩)] V fun e w' => e = .returned (.bool (pOf [2] x m)) ∧ Below V.heap.size V w') := Lib.hid (fun _ _ _ _ h1 h2 h3 => fit_of1 2 x m h1 h2 h3)
  generalize pOf [2] x m = po at hK2 HOF
  generalize pAck x m = r at hK2 ⊢
  by_cases ha : m.a.toList = x.a.toList
  · have hr : Hid (r = po) := Lib.hid (by rw [hK2.out]; simp [ha])
    have EA : Hid (m.a.toList = x.a.toList ∧ (m.a.toList == x.a.toList) = true) := Lib.hid ⟨ha, by rw [ha]; simp⟩
    clear hK2 ha
    go_enter Try.func28, Try.ntmps28
    go_upto_region 1 with fail
    rw [← hw0]
    clear hw0
    refine wp_region_held_drew (S := fun V => V.heap[w.heap.size]? = some (.cells #[.int .i64 m.sd, .int .i64 m.k, .int .u64 m.h, .int .i64 m.c, .int .i64 m.f, .int .u64 m.s, .int .u64 m.t, .string m.d, .string m.a] TMk (0, 0)) ∧ V.heap[B]? = some (.cells #[.int .i64 x.sd, .int .i64 x.k, .int .u64 x.h, .int .i64 x.c, .int .i64 x.f, .int .u64 x.s, .int .u64 x.t, .string x.d, .string x.a] TMk (0, 0)) ∧ V.heap[P]? = some (.cells #[.int .i64 x.c, .int .i64 x.f, .int .u64 x.s, .int .u64 x.t, .string x.d] TPk (0, 0))) (by kernel_rfl) HS0.out (fun hHeld => ?_)
    have HB1 := Lib.hid (HB.out.drew)
    obtain ⟨w1, hw1⟩ : ∃ X, X = w0.drew := ⟨_, rfl⟩
    rw [← hw1] at HB1 hHeld ⊢
    clear hw1 HS0 HB
    refine wpAnyH_take (i := 0) (oi := _) (v := ?_) rfl (by kernel_rfl) (by kernel_rfl) (by kernel_rfl) (fun _ _ _ h => h) (Or.inl ⟨by rfl, ?_⟩) (by assumption) ?_
    rotate_left
    · (intro W hSw; (try dsimp only at hSw); go_simp; try with_reducible rfl)
    try simp only [Act.put, List.getElem_toArray, List.getElem_cons_zero, List.setIfInBounds_toArray, List.set_cons_zero, List.set_cons_succ]
    refine wpAnyH_take (i := 1) (oi := _) (v := ?_) rfl (by kernel_rfl) (by kernel_rfl) (by kernel_rfl) (fun _ _ _ h => h) (Or.inl ⟨by rfl, ?_⟩) (by assumption) ?_
    rotate_left
    · (intro W hSw; (try dsimp only at hSw); go_simp; try with_reducible rfl)
    try simp only [Act.put, List.getElem_toArray, List.getElem_cons_succ, List.getElem_cons_zero, List.setIfInBounds_toArray, List.set_cons_zero, List.set_cons_succ]
    refine wpAnyH_take (i := 2) (oi := _) (v := ?_) rfl (by kernel_rfl) (by kernel_rfl) (by kernel_rfl) (fun _ _ _ h => h) (Or.inl ⟨by rfl, ?_⟩) (by assumption) ?_
    rotate_left
    · (intro V hSw; have q := fun i => cell_of_row V w.heap.size i _ _ (0, 0) hSw.1; have q0 := q 0; have q1 := q 1; have q2 := q 2; have q3 := q 3; have q4 := q 4; have q5 := q 5; have q6 := q 6; have q7 := q 7; have q8 := q 8; clear q hSw; go_simp; try with_reducible rfl)
    try simp only [Act.put, List.getElem_toArray, List.getElem_cons_succ, List.getElem_cons_zero, List.setIfInBounds_toArray, List.set_cons_zero, List.set_cons_succ]
    refine wpAnyH_take (i := 3) (oi := _) (v := ?_) rfl (by kernel_rfl) (by kernel_rfl) (by kernel_rfl) (fun _ _ _ h => h) (Or.inl ⟨by rfl, ?_⟩) (by assumption) ?_
    rotate_left
    · (intro W hSw; (try dsimp only at hSw); go_simp; try with_reducible rfl)
    try simp only [Act.put, List.getElem_toArray, List.getElem_cons_succ, List.getElem_cons_zero, List.setIfInBounds_toArray, List.set_cons_zero, List.set_cons_succ]
    refine wpAnyH_take (i := 4) (oi := _) (v := ?_) rfl (by kernel_rfl) (by kernel_rfl) (by kernel_rfl) (fun _ _ _ h => h) (Or.inl ⟨by rfl, ?_⟩) (by assumption) ?_
    rotate_left
    · (intro W hSw; (try dsimp only at hSw); go_simp; try with_reducible rfl)
    try simp only [Act.put, List.getElem_toArray, List.getElem_cons_succ, List.getElem_cons_zero, List.setIfInBounds_toArray, List.set_cons_zero, List.set_cons_succ]
    refine wpAnyH_take (i := 5) (oi := _) (v := ?_) rfl (by kernel_rfl) (by kernel_rfl) (by kernel_rfl) (fun _ _ _ h => h) (Or.inl ⟨by rfl, ?_⟩) (by assumption) ?_
    rotate_left
    · (intro V hSw; have q := fun i => cell_of_row V B i _ _ (0, 0) hSw.2.1; have q0 := q 0; have q1 := q 1; have q2 := q 2; have q3 := q 3; have q4 := q 4; have q5 := q 5; have q6 := q 6; have q7 := q 7; have q8 := q 8; clear q hSw; go_simp; try with_reducible rfl)
    try simp only [Act.put, List.getElem_toArray, List.getElem_cons_succ, List.getElem_cons_zero, List.setIfInBounds_toArray, List.set_cons_zero, List.set_cons_succ]
    refine wpAnyH_take (i := 6) (oi := _) (v := ?_) rfl (by kernel_rfl) (by kernel_rfl) (by kernel_rfl) (fun _ _ _ h => h) (Or.inl ⟨by rfl, ?_⟩) (by assumption) ?_
    rotate_left
    · (intro V hSw; clear hSw; have a1 := EA.out.1; have a2 := EA.out.2; go_simp; try with_reducible rfl)
    try simp only [Act.put, List.getElem_toArray, List.getElem_cons_succ, List.getElem_cons_zero, List.setIfInBounds_toArray, List.set_cons_zero, List.set_cons_succ]
    refine wpAnyH_take (i := 7) (oi := _) (v := ?_) rfl (by kernel_rfl) (by kernel_rfl) (by kernel_rfl) (fun _ _ _ h => h) (Or.inl ⟨by rfl, ?_⟩) (by assumption) ?_
    rotate_left
    · (intro W hSw; (try dsimp only at hSw); go_simp; try with_reducible rfl)
    try simp only [Act.put, List.getElem_toArray, List.getElem_cons_succ, List.getElem_cons_zero, List.setIfInBounds_toArray, List.set_cons_zero, List.set_cons_succ]
    refine wpAnyH_take (i := 8) (oi := _) (v := ?_) rfl (by kernel_rfl) (by kernel_rfl) (by kernel_rfl) (fun _ _ _ h => h) (Or.inl ⟨by rfl, ?_⟩) (by assumption) ?_
    rotate_left
    · (intro V hSw; have q := fun i => cell_of_row V P i _ _ (0, 0) hSw.2.2; have q0 := q 0; have q1 := q 1; have q2 := q 2; have q3 := q 3; have q4 := q 4; clear q hSw; go_simp; try with_reducible rfl)
    try simp only [Act.put, List.getElem_toArray, List.getElem_cons_succ, List.getElem_cons_zero, List.setIfInBounds_toArray, List.set_cons_zero, List.set_cons_succ]
    refine wpAnyH_take (i := 11) (oi := _) (v := ?_) rfl (by kernel_rfl) (by kernel_rfl) (by kernel_rfl) (fun _ _ _ h => h) (Or.inl ⟨by rfl, ?_⟩) (by assumption) ?_
    rotate_left
    · (intro V hSw; have q := fun i => cell_of_row V w.heap.size i _ _ (0, 0) hSw.1; have q0 := q 0; have q1 := q 1; have q2 := q 2; have q3 := q 3; have q4 := q 4; have q5 := q 5; have q6 := q 6; have q7 := q 7; have q8 := q 8; clear q hSw; go_simp; try with_reducible rfl)
    try simp only [Act.put, List.getElem_toArray, List.getElem_cons_succ, List.getElem_cons_zero, List.setIfInBounds_toArray, List.set_cons_zero, List.set_cons_succ]
    refine wpAnyH_ready (rs := [9]) (by kernel_rfl) (by simp) ?_
    refine AllReadyH.cons rfl (fun K hK => ?_) AllReadyH.nil
    simp only [List.getElem_toArray, List.getElem_cons_succ, List.getElem_cons_zero]
    rw [if_pos (by rfl)]
    go_simp
    refine hK.out _ _ ⟨al_of hHeld.1, al_of hHeld.2.1, al_of hHeld.2.2⟩ (fun hHeld => ?_)
    clear hK K
    try simp only [Act.put, List.getElem_toArray, List.getElem_cons_succ, List.getElem_cons_zero, List.setIfInBounds_toArray, List.set_cons_zero, List.set_cons_succ]
    have HKK := Lib.hid (heap_alloc_new w1 (.cells #[.int .i64 2] 3))
    have HB2 := Lib.hid (HB1.out.alloc HB1.out.size (.cells #[.int .i64 2] 3))
    obtain ⟨kb, hKd⟩ : ∃ kb, kb = w1.heap.size := ⟨_, rfl⟩
    obtain ⟨w2, hw2⟩ : ∃ X, X = w1.alloc (.cells #[.int .i64 2] 3) := ⟨_, rfl⟩
    rw [← hw2, ← hKd] at HKK
    rw [← hw2] at HB2 hHeld
    rw [← hw2, ← hKd]
    clear hw2 hKd HB1
    refine wpAnyH_ready (rs := [10]) (by kernel_rfl) (by simp) ?_
    refine AllReadyH.cons rfl (fun K hK => ?_) AllReadyH.nil
    simp only [List.getElem_toArray, List.getElem_cons_succ, List.getElem_cons_zero]
    rw [if_pos (by rfl)]
    go_simp
    refine (of_any x 1 _).mono ?_
    rintro _ w3 ⟨Y, Z, rfl, hY, hZ, b3⟩
    have hS3 := And.intro ((b3.block _ (lt_of hHeld.1)).trans hHeld.1) (And.intro ((b3.block _ (lt_of hHeld.2.1)).trans hHeld.2.1) ((b3.block _ (lt_of hHeld.2.2)).trans hHeld.2.2))
    have HYZ := Lib.hid (And.intro hY (And.intro hZ ((b3.block _ (lt_of HKK.out)).trans HKK.out)))
    have HB3 := Lib.hid (HB2.out.trans (b3.mono HB2.out.size))
    clear b3 hY hZ HB2 HKK
    go_wp2_with fail
    refine hK.out _ _ hS3 (fun hHeld => ?_)
    clear hK K
    try simp only [Act.put, List.getElem_toArray, List.getElem_cons_succ, List.getElem_cons_zero, List.setIfInBounds_toArray, List.set_cons_zero, List.set_cons_succ]
    refine wpAnyH_ready (rs := [12]) (by kernel_rfl) (by simp) ?_
    refine AllReadyH.cons rfl (fun K hK => ?_) AllReadyH.nil
    simp only [List.getElem_toArray, List.getElem_cons_succ, List.getElem_cons_zero]
    rw [if_pos (by rfl)]
    go_simp
    refine (HOF.out Y Z kb _ HYZ.out.1 HYZ.out.2.1 HYZ.out.2.2).mono ?_
    rintro _ w4 ⟨rfl, b4⟩
    have hS4 := And.intro ((b4.block _ (lt_of hS3.1)).trans hS3.1) (And.intro ((b4.block _ (lt_of hS3.2.1)).trans hS3.2.1) ((b4.block _ (lt_of hS3.2.2)).trans hS3.2.2))
    have HB4 := Lib.hid (HB3.out.trans (b4.mono HB3.out.size))
    clear b4 HB3
    go_wp2_with fail
    refine hK.out _ _ hS4 (fun hHeld => ?_)
    clear hK K
    try simp only [Act.put, List.getElem_toArray, List.getElem_cons_succ, List.getElem_cons_zero, List.setIfInBounds_toArray, List.set_cons_zero, List.set_cons_succ]
    refine wpAnyH_take (i := 13) (oi := _) (v := ?_) rfl (by kernel_rfl) (by kernel_rfl) (by kernel_rfl) (fun _ _ _ h => h) (Or.inl ⟨by rfl, ?_⟩) (by assumption) ?_
    rotate_left
    · (intro W hSw; (try dsimp only at hSw); go_simp; try with_reducible rfl)
    try simp only [Act.put, List.getElem_toArray, List.getElem_cons_succ, List.getElem_cons_zero, List.setIfInBounds_toArray, List.set_cons_zero, List.set_cons_succ]
    refine wpAnyH_take (i := 14) (oi := _) (v := ?_) rfl (by kernel_rfl) (by kernel_rfl) (by kernel_rfl) (fun _ _ _ h => h) (Or.inl ⟨by rfl, ?_⟩) (by assumption) ?_
    rotate_left
    · (intro W hSw; (try dsimp only at hSw); go_simp; try with_reducible rfl)
    try simp only [Act.put, List.getElem_toArray, List.getElem_cons_succ, List.getElem_cons_zero, List.setIfInBounds_toArray, List.set_cons_zero, List.set_cons_succ]
    refine wpAnyH_done (by kernel_rfl) ?_ _
    go_wp2
    go_ret
    exact ⟨by rw [hr.out]; first | rfl | (simp; done), HB4.out⟩
  · have hr : Hid (r = false) := Lib.hid (by rw [hK2.out]; simp [ha])
    have EA : Hid (¬ m.a.toList = x.a.toList ∧ (m.a.toList == x.a.toList) = false) := Lib.hid ⟨ha, by simpa using ha⟩
    clear hK2 ha
    go_enter Try.func28, Try.ntmps28
    go_upto_region 1 with fail
    rw [← hw0]
    clear hw0
    refine wp_region_held_drew (S := fun V => V.heap[w.heap.size]? = some (.cells #[.int .i64 m.sd, .int .i64 m.k, .int .u64 m.h, .int .i64 m.c, .int .i64 m.f, .int .u64 m.s, .int .u64 m.t, .string m.d, .string m.a] TMk (0, 0)) ∧ V.heap[B]? = some (.cells #[.int .i64 x.sd, .int .i64 x.k, .int .u64 x.h, .int .i64 x.c, .int .i64 x.f, .int .u64 x.s, .int .u64 x.t, .string x.d, .string x.a] TMk (0, 0)) ∧ V.heap[P]? = some (.cells #[.int .i64 x.c, .int .i64 x.f, .int .u64 x.s, .int .u64 x.t, .string x.d] TPk (0, 0))) (by kernel_rfl) HS0.out (fun hHeld => ?_)
    have HB1 := Lib.hid (HB.out.drew)
    obtain ⟨w1, hw1⟩ : ∃ X, X = w0.drew := ⟨_, rfl⟩
    rw [← hw1] at HB1 hHeld ⊢
    clear hw1 HS0 HB
    refine wpAnyH_take (i := 0) (oi := _) (v := ?_) rfl (by kernel_rfl) (by kernel_rfl) (by kernel_rfl) (fun _ _ _ h => h) (Or.inl ⟨by rfl, ?_⟩) (by assumption) ?_
    rotate_left
    · (intro W hSw; (try dsimp only at hSw); go_simp; try with_reducible rfl)
    try simp only [Act.put, List.getElem_toArray, List.getElem_cons_zero, List.setIfInBounds_toArray, List.set_cons_zero, List.set_cons_succ]
    refine wpAnyH_take (i := 1) (oi := _) (v := ?_) rfl (by kernel_rfl) (by kernel_rfl) (by kernel_rfl) (fun _ _ _ h => h) (Or.inl ⟨by rfl, ?_⟩) (by assumption) ?_
    rotate_left
    · (intro W hSw; (try dsimp only at hSw); go_simp; try with_reducible rfl)
    try simp only [Act.put, List.getElem_toArray, List.getElem_cons_succ, List.getElem_cons_zero, List.setIfInBounds_toArray, List.set_cons_zero, List.set_cons_succ]
    refine wpAnyH_take (i := 2) (oi := _) (v := ?_) rfl (by kernel_rfl) (by kernel_rfl) (by kernel_rfl) (fun _ _ _ h => h) (Or.inl ⟨by rfl, ?_⟩) (by assumption) ?_
    rotate_left
    · (intro V hSw; have q := fun i => cell_of_row V w.heap.size i _ _ (0, 0) hSw.1; have q0 := q 0; have q1 := q 1; have q2 := q 2; have q3 := q 3; have q4 := q 4; have q5 := q 5; have q6 := q 6; have q7 := q 7; have q8 := q 8; clear q hSw; go_simp; try with_reducible rfl)
    try simp only [Act.put, List.getElem_toArray, List.getElem_cons_succ, List.getElem_cons_zero, List.setIfInBounds_toArray, List.set_cons_zero, List.set_cons_succ]
    refine wpAnyH_take (i := 3) (oi := _) (v := ?_) rfl (by kernel_rfl) (by kernel_rfl) (by kernel_rfl) (fun _ _ _ h => h) (Or.inl ⟨by rfl, ?_⟩) (by assumption) ?_
    rotate_left
    · (intro W hSw; (try dsimp only at hSw); go_simp; try with_reducible rfl)
    try simp only [Act.put, List.getElem_toArray, List.getElem_cons_succ, List.getElem_cons_zero, List.setIfInBounds_toArray, List.set_cons_zero, List.set_cons_succ]
    refine wpAnyH_take (i := 4) (oi := _) (v := ?_) rfl (by kernel_rfl) (by kernel_rfl) (by kernel_rfl) (fun _ _ _ h => h) (Or.inl ⟨by rfl, ?_⟩) (by assumption) ?_
    rotate_left
    · (intro W hSw; (try dsimp only at hSw); go_simp; try with_reducible rfl)
    try simp only [Act.put, List.getElem_toArray, List.getElem_cons_succ, List.getElem_cons_zero, List.setIfInBounds_toArray, List.set_cons_zero, List.set_cons_succ]
    refine wpAnyH_take (i := 5) (oi := _) (v := ?_) rfl (by kernel_rfl) (by kernel_rfl) (by kernel_rfl) (fun _ _ _ h => h) (Or.inl ⟨by rfl, ?_⟩) (by assumption) ?_
    rotate_left
    · (intro V hSw; have q := fun i => cell_of_row V B i _ _ (0, 0) hSw.2.1; have q0 := q 0; have q1 := q 1; have q2 := q 2; have q3 := q 3; have q4 := q 4; have q5 := q 5; have q6 := q 6; have q7 := q 7; have q8 := q 8; clear q hSw; go_simp; try with_reducible rfl)
    try simp only [Act.put, List.getElem_toArray, List.getElem_cons_succ, List.getElem_cons_zero, List.setIfInBounds_toArray, List.set_cons_zero, List.set_cons_succ]
    refine wpAnyH_take (i := 6) (oi := _) (v := ?_) rfl (by kernel_rfl) (by kernel_rfl) (by kernel_rfl) (fun _ _ _ h => h) (Or.inl ⟨by rfl, ?_⟩) (by assumption) ?_
    rotate_left
    · (intro V hSw; clear hSw; have a1 := EA.out.1; have a2 := EA.out.2; go_simp; try with_reducible rfl)
    try simp only [Act.put, List.getElem_toArray, List.getElem_cons_succ, List.getElem_cons_zero, List.setIfInBounds_toArray, List.set_cons_zero, List.set_cons_succ]
    refine wpAnyH_take (i := 7) (oi := _) (v := ?_) rfl (by kernel_rfl) (by kernel_rfl) (by kernel_rfl) (fun _ _ _ h => h) (Or.inl ⟨by rfl, ?_⟩) (by assumption) ?_
    rotate_left
    · (intro W hSw; (try dsimp only at hSw); go_simp; try with_reducible rfl)
    try simp only [Act.put, List.getElem_toArray, List.getElem_cons_succ, List.getElem_cons_zero, List.setIfInBounds_toArray, List.set_cons_zero, List.set_cons_succ]
    refine wpAnyH_take (i := 8) (oi := _) (v := undef) rfl (by kernel_rfl) (by kernel_rfl) (by kernel_rfl) (fun _ _ _ h => h) (Or.inr ⟨by rfl, rfl⟩) (by assumption) ?_
    try simp only [Act.put, List.getElem_toArray, List.getElem_cons_succ, List.getElem_cons_zero, List.setIfInBounds_toArray, List.set_cons_zero, List.set_cons_succ]
    refine wpAnyH_take (i := 9) (oi := _) (v := undef) rfl (by kernel_rfl) (by kernel_rfl) (by kernel_rfl) (fun _ _ _ h => h) (Or.inr ⟨by rfl, rfl⟩) (by assumption) ?_
    try simp only [Act.put, List.getElem_toArray, List.getElem_cons_succ, List.getElem_cons_zero, List.setIfInBounds_toArray, List.set_cons_zero, List.set_cons_succ]
    refine wpAnyH_take (i := 10) (oi := _) (v := undef) rfl (by kernel_rfl) (by kernel_rfl) (by kernel_rfl) (fun _ _ _ h => h) (Or.inr ⟨by rfl, rfl⟩) (by assumption) ?_
    try simp only [Act.put, List.getElem_toArray, List.getElem_cons_succ, List.getElem_cons_zero, List.setIfInBounds_toArray, List.set_cons_zero, List.set_cons_succ]
    refine wpAnyH_take (i := 11) (oi := _) (v := undef) rfl (by kernel_rfl) (by kernel_rfl) (by kernel_rfl) (fun _ _ _ h => h) (Or.inr ⟨by rfl, rfl⟩) (by assumption) ?_
    try simp only [Act.put, List.getElem_toArray, List.getElem_cons_succ, List.getElem_cons_zero, List.setIfInBounds_toArray, List.set_cons_zero, List.set_cons_succ]
    refine wpAnyH_take (i := 12) (oi := _) (v := undef) rfl (by kernel_rfl) (by kernel_rfl) (by kernel_rfl) (fun _ _ _ h => h) (Or.inr ⟨by rfl, rfl⟩) (by assumption) ?_
    try simp only [Act.put, List.getElem_toArray, List.getElem_cons_succ, List.getElem_cons_zero, List.setIfInBounds_toArray, List.set_cons_zero, List.set_cons_succ]
    refine wpAnyH_take (i := 13) (oi := _) (v := ?_) rfl (by kernel_rfl) (by kernel_rfl) (by kernel_rfl) (fun _ _ _ h => h) (Or.inl ⟨by rfl, ?_⟩) (by assumption) ?_
    rotate_left
    · (intro W hSw; (try dsimp only at hSw); go_simp; try with_reducible rfl)
    try simp only [Act.put, List.getElem_toArray, List.getElem_cons_succ, List.getElem_cons_zero, List.setIfInBounds_toArray, List.set_cons_zero, List.set_cons_succ]
    refine wpAnyH_take (i := 14) (oi := _) (v := ?_) rfl (by kernel_rfl) (by kernel_rfl) (by kernel_rfl) (fun _ _ _ h => h) (Or.inl ⟨by rfl, ?_⟩) (by assumption) ?_
    rotate_left
    · (intro W hSw; (try dsimp only at hSw); go_simp; try with_reducible rfl)
    try simp only [Act.put, List.getElem_toArray, List.getElem_cons_succ, List.getElem_cons_zero, List.setIfInBounds_toArray, List.set_cons_zero, List.set_cons_succ]
    refine wpAnyH_done (by kernel_rfl) ?_ _
    go_wp2
    go_ret
    exact ⟨by rw [hr.out]; first | rfl | (simp; done), HB1.out⟩
end Go.Proofs.Ytfojmjgnndlfnab.Tr
