/- The page's Wrong: what stands while a mark is looked at; a mark that is none. -/
import Derived.Test.YtfojmjgnndlfnabTrPage2
import Derived.Test.YtfojmjgnndlfnabTrWrong
namespace Go.Proofs.Ytfojmjgnndlfnab.Tr
open Go Go.RowKit
set_option linter.unusedVariables false

structure WZ (w V : World) (O : Option Addr) (on : Nat) (ord : Nat → Bool) (A : Option Addr) (n : Nat) (f : Nat → Mk) (x : Mk) : Prop where
  b0 : V.heap[w.heap.size]? = some (.cells #[.int .i64 x.sd, .int .i64 x.k, .int .u64 x.h, .int .i64 x.c, .int .i64 x.f, .int .u64 x.s, .int .u64 x.t, .string x.d, .string x.a] TMk (0, 0))
  b1 : V.heap[w.heap.size + 1]? = some (.cells #[.int .i64 x.c, .int .i64 x.f, .int .u64 x.s, .int .u64 x.t, .string x.d] TPk (0, 0))
  cx : Cx V O on ord A n f
  bel : Below w.heap.size w V
section
variable {w V V' : World} {O A : Option Addr} {on n cap : Nat} {ord : Nat → Bool} {f : Nat → Mk} {x : Mk}
theorem WZ.below (h : WZ w V O on ord A n f x) (k : Below V.heap.size V V') : WZ w V' O on ord A n f x :=
  ⟨(k.block _ (lt_of h.b0)).trans h.b0, (k.block _ (lt_of h.b1)).trans h.b1, h.cx.below k, h.bel.trans (k.mono h.bel.size)⟩
theorem WZ.make (hC : Cx w O on ord A n f) (hb : V.heap[w.heap.size]? = some (.cells #[.int .i64 x.sd, .int .i64 x.k, .int .u64 x.h, .int .i64 x.c, .int .i64 x.f, .int .u64 x.s, .int .u64 x.t, .string x.d, .string x.a] TMk (0, 0))) (hs : V.heap.size = w.heap.size + 1) (hB : Below w.heap.size w V) : WZ w (V.alloc (.cells #[.int .i64 x.c, .int .i64 x.f, .int .u64 x.s, .int .u64 x.t, .string x.d] TPk)) O on ord A n f x := by
  have g1 := heap_alloc_new V (.cells #[.int .i64 x.c, .int .i64 x.f, .int .u64 x.s, .int .u64 x.t, .string x.d] TPk)
  rw [hs] at g1
  have gb := hB.alloc hB.size (.cells #[.int .i64 x.c, .int .i64 x.f, .int .u64 x.s, .int .u64 x.t, .string x.d] TPk)
  exact ⟨al_of hb, g1, hC.below gb, gb⟩
theorem WZ.has (kd : Int) (h : WZ w V O on ord A n f x) : Calls Try.prog 21 #[.slice A n cap, .int .i64 kd, .agg #[.int .i64 x.c, .int .i64 x.f, .int .u64 x.s, .int .u64 x.t, .string x.d]] V fun e w' => e = .returned (.bool (decide (0 < cn (pOf [kd] x) f n))) ∧ WZ w w' O on ord A n f x :=
  (rhas_any x kd h.cx.r h.cx.hn).mono fun e w' ⟨h1, h2⟩ => ⟨h1, h.below h2⟩
theorem WZ.shut (h : WZ w V O on ord A n f x) : Calls Try.prog 18 #[.slice A n cap, .int .i64 x.sd, .int .i64 x.c] V fun e w' => e = .returned (.bool (decide (0 < cn (pShut x) f n))) ∧ WZ w w' O on ord A n f x :=
  (rshut_any x h.cx.r h.cx.hn).mono fun e w' ⟨h1, h2⟩ => ⟨h1, h.below h2⟩
theorem WZ.sent (h : WZ w V O on ord A n f x) : Calls Try.prog 20 #[.slice A n cap, .agg #[.int .i64 x.c, .int .i64 x.f, .int .u64 x.s, .int .u64 x.t, .string x.d]] V fun e w' => e = .returned (.bool (decide (0 < cn (pSent x) f n))) ∧ WZ w w' O on ord A n f x :=
  (rsent_any x h.cx.r h.cx.hn).mono fun e w' ⟨h1, h2⟩ => ⟨h1, h.below h2⟩
theorem WZ.proved (h : WZ w V O on ord A n f x) : Calls Try.prog 22 #[.slice A n cap, .agg #[.int .i64 x.c, .int .i64 x.f, .int .u64 x.s, .int .u64 x.t, .string x.d], .string x.a] V fun e w' => e = .returned (.bool (decide (0 < cn (pAck x) f n))) ∧ WZ w w' O on ord A n f x :=
  (rproved_any x h.cx.r h.cx.hn).mono fun e w' ⟨h1, h2⟩ => ⟨h1, h.below h2⟩
theorem WZ.count (kd : Int) (h : WZ w V O on ord A n f x) (hk : x.k = kd) : Calls Try.prog 19 #[.slice A n cap, .int .i64 kd, .agg #[.int .i64 x.c, .int .i64 x.f, .int .u64 x.s, .int .u64 x.t, .string x.d]] V fun e w' => e = .returned (.int .u64 (cn (pNext x) f n)) ∧ WZ w w' O on ord A n f x := by
  subst hk
  exact (rcount_any x x.k h.cx.r h.cx.hn).mono fun e w' ⟨h1, h2⟩ => ⟨h1, h.below h2⟩
end
theorem cn_or (f : Nat → Mk) (x : Mk) : ∀ n, 0 < cn (pOf [3, 4] x) f n ↔ (0 < cn (pOf [3] x) f n ∨ 0 < cn (pOf [4] x) f n)
  | 0 => by simp [cn]
  | n + 1 => by
    have ih := cn_or f x n
    have e : pOf [3, 4] x (f n) = (pOf [3] x (f n) || pOf [4] x (f n)) := by
      unfold pOf
      cases keyB (f n) x <;> simp
    unfold cn
    rw [e]
    cases pOf [3] x (f n) <;> cases pOf [4] x (f n) <;> simp <;> omega
theorem eright_kind {x : Mk} (h : eright x = true) : x.k = 1 ∨ x.k = 2 ∨ x.k = 3 ∨ x.k = 4 ∨ x.k = 5 := by
  unfold eright at h
  simp only [Bool.and_eq_true, decide_eq_true_eq] at h
  omega
set_option maxRecDepth 20000 in
set_option maxHeartbeats 4000000 in
theorem rwrong_none (x : Mk) {w : World} {O A : Option Addr} {on ocap n cap : Nat} {ord : Nat → Bool} {f : Nat → Mk} (hC : Cx w O on ord A n f) (hf : formedB on x = false) :
    Calls Try.prog 8 #[.slice O on ocap, .slice A n cap, .agg #[.int .i64 x.sd, .int .i64 x.k, .int .u64 x.h, .int .i64 x.c, .int .i64 x.f, .int .u64 x.s, .int .u64 x.t, .string x.d, .string x.a]] w fun e w' => e = .returned (.int .i64 (wrongF ord on f n x)) ∧ Below w.heap.size w w' := by
  have hr : wrongF ord on f n x = 1 := by unfold wrongF; rw [if_pos hf]
  rw [hr]
  have hR : Hid (∀ V, Calls Try.prog 17 #[.agg #[.int .i64 x.k, .int .u64 x.h, .int .i64 x.c, .int .i64 x.f, .int .u64 x.s, .int .u64 x.t, .string x.d, .string x.a]] V fun e w' => e = .returned (.bool (eright x)) ∧ Below V.heap.size V w') := Lib.hid (fun V => reright_any x V)
  have hF : Hid (((decide (x.sd = 0) || decide (x.sd = 1)) && eright x && decide (x.c < (on : Int))) = false) := Lib.hid hf
  clear hr hf
  have hb0 := heap_alloc_new w (.cells #[.int .i64 x.sd, .int .i64 x.k, .int .u64 x.h, .int .i64 x.c, .int .i64 x.f, .int .u64 x.s, .int .u64 x.t, .string x.d, .string x.a] TMk)
  have hs0 : (w.alloc (.cells #[.int .i64 x.sd, .int .i64 x.k, .int .u64 x.h, .int .i64 x.c, .int .i64 x.f, .int .u64 x.s, .int .u64 x.t, .string x.d, .string x.a] TMk)).heap.size = w.heap.size + 1 := by simp
  have hB0 : Below w.heap.size w (w.alloc (.cells #[.int .i64 x.sd, .int .i64 x.k, .int .u64 x.h, .int .i64 x.c, .int .i64 x.f, .int .u64 x.s, .int .u64 x.t, .string x.d, .string x.a] TMk)) := (Below.refl _ _).alloc (Nat.le_refl _) _
  obtain ⟨wA, hwA⟩ : ∃ X, X = w.alloc (.cells #[.int .i64 x.sd, .int .i64 x.k, .int .u64 x.h, .int .i64 x.c, .int .i64 x.f, .int .u64 x.s, .int .u64 x.t, .string x.d, .string x.a] TMk) := ⟨_, rfl⟩
  rw [← hwA] at hb0 hs0 hB0
  have HMK := Lib.hid (fun (V : World) (h1 : V.heap[w.heap.size]? = some (.cells #[.int .i64 x.sd, .int .i64 x.k, .int .u64 x.h, .int .i64 x.c, .int .i64 x.f, .int .u64 x.s, .int .u64 x.t, .string x.d, .string x.a] TMk (0, 0))) (h2 : V.heap.size = w.heap.size + 1) (h3 : Below w.heap.size w V) => WZ.make hC h1 h2 h3)
  have HB0 := Lib.hid (And.intro hb0 (And.intro hs0 hB0))
  clear hC hb0 hs0 hB0
  go_enter Try.func8, Try.ntmps8
  go_upto_region 1 with fail
  rw [← hwA]
  clear hwA
  refine wp_region_held_drew (S := fun V => V.heap[w.heap.size]? = some (.cells #[.int .i64 x.sd, .int .i64 x.k, .int .u64 x.h, .int .i64 x.c, .int .i64 x.f, .int .u64 x.s, .int .u64 x.t, .string x.d, .string x.a] TMk (0, 0))) (by kernel_rfl) HB0.out.1 (fun hHeld => ?_)
  have HB1 : Hid (wA.drew.heap.size = w.heap.size + 1 ∧ Below w.heap.size w wA.drew) := Lib.hid ⟨HB0.out.2.1, HB0.out.2.2.drew⟩
  obtain ⟨wB, hwB⟩ : ∃ X, X = wA.drew := ⟨_, rfl⟩
  rw [← hwB] at HB1 hHeld ⊢
  clear hwB HB0
  have hH0 := Lib.hid hHeld
  refine wpAnyH_take (i := 0) (oi := _) (v := ?_) rfl (by kernel_rfl) (by kernel_rfl) (by kernel_rfl) (fun _ _ _ h => h) (Or.inl ⟨by rfl, ?_⟩) (by assumption) ?_
  rotate_left
  · (intro W hSw; (try dsimp only at hSw); go_simp; try with_reducible rfl)
  try simp only [Act.put, List.getElem_toArray, List.getElem_cons_zero, List.setIfInBounds_toArray, List.set_cons_zero, List.set_cons_succ]
  refine wpAnyH_take (i := 1) (oi := _) (v := ?_) rfl (by kernel_rfl) (by kernel_rfl) (by kernel_rfl) (fun _ _ _ h => h) (Or.inl ⟨by rfl, ?_⟩) (by assumption) ?_
  rotate_left
  · (intro W hSw; (try dsimp only at hSw); go_simp; try with_reducible rfl)
  try simp only [Act.put, List.getElem_toArray, List.getElem_cons_succ, List.getElem_cons_zero, List.setIfInBounds_toArray, List.set_cons_zero, List.set_cons_succ]
  refine wpAnyH_take (i := 2) (oi := _) (v := ?_) rfl (by kernel_rfl) (by kernel_rfl) (by kernel_rfl) (fun _ _ _ h => h) (Or.inl ⟨by rfl, ?_⟩) (by assumption) ?_
  rotate_left
  · (intro V hSw; have q := fun i => cell_of_row V w.heap.size i _ _ (0, 0) hSw; have q0 := q 0; have q1 := q 1; have q2 := q 2; have q3 := q 3; have q4 := q 4; have q5 := q 5; have q6 := q 6; have q7 := q 7; have q8 := q 8; clear q hSw; go_simp; try with_reducible rfl)
  try simp only [Act.put, List.getElem_toArray, List.getElem_cons_succ, List.getElem_cons_zero, List.setIfInBounds_toArray, List.set_cons_zero, List.set_cons_succ]
  refine wpAnyH_take (i := 3) (oi := _) (v := ?_) rfl (by kernel_rfl) (by kernel_rfl) (by kernel_rfl) (fun _ _ _ h => h) (Or.inl ⟨by rfl, ?_⟩) (by assumption) ?_
  rotate_left
  · (intro W hSw; (try dsimp only at hSw); go_simp; try with_reducible rfl)
  try simp only [Act.put, List.getElem_toArray, List.getElem_cons_succ, List.getElem_cons_zero, List.setIfInBounds_toArray, List.set_cons_zero, List.set_cons_succ]
  refine wpAnyH_take (i := 4) (oi := _) (v := ?_) rfl (by kernel_rfl) (by kernel_rfl) (by kernel_rfl) (fun _ _ _ h => h) (Or.inl ⟨by rfl, ?_⟩) (by assumption) ?_
  rotate_left
  · (intro W hSw; (try dsimp only at hSw); go_simp; try with_reducible rfl)
  try simp only [Act.put, List.getElem_toArray, List.getElem_cons_succ, List.getElem_cons_zero, List.setIfInBounds_toArray, List.set_cons_zero, List.set_cons_succ]
  refine wpAnyH_take (i := 5) (oi := _) (v := ?_) rfl (by kernel_rfl) (by kernel_rfl) (by kernel_rfl) (fun _ _ _ h => h) (Or.inl ⟨by rfl, ?_⟩) (by assumption) ?_
  rotate_left
  · (intro V hSw; have q := fun i => cell_of_row V w.heap.size i _ _ (0, 0) hSw; have q0 := q 0; have q1 := q 1; have q2 := q 2; have q3 := q 3; have q4 := q 4; have q5 := q 5; have q6 := q 6; have q7 := q 7; have q8 := q 8; clear q hSw; go_simp; try with_reducible rfl)
  try simp only [Act.put, List.getElem_toArray, List.getElem_cons_succ, List.getElem_cons_zero, List.setIfInBounds_toArray, List.set_cons_zero, List.set_cons_succ]
  refine wpAnyH_ready (rs := [6]) (by kernel_rfl) (by simp) ?_
  refine AllReadyH.cons rfl (fun K hK => ?_) AllReadyH.nil
  simp only [List.getElem_toArray, List.getElem_cons_succ, List.getElem_cons_zero]
  rw [if_pos (by rfl)]
  go_simp
  refine hK.out _ _ (al_of hH0.out) (fun hHeld => ?_)
  clear hK K
  try simp only [Act.put, List.getElem_toArray, List.getElem_cons_succ, List.getElem_cons_zero, List.setIfInBounds_toArray, List.set_cons_zero, List.set_cons_succ]
  have hsz := HB1.out.1
  try rw [hsz]
  refine wpAnyH_take (i := 7) (oi := _) (v := ?_) rfl (by kernel_rfl) (by kernel_rfl) (by kernel_rfl) (fun _ _ _ h => h) (Or.inl ⟨by rfl, ?_⟩) (by assumption) ?_
  rotate_left
  · (intro W hSw; (try dsimp only at hSw); go_simp; try with_reducible rfl)
  try simp only [Act.put, List.getElem_toArray, List.getElem_cons_succ, List.getElem_cons_zero, List.setIfInBounds_toArray, List.set_cons_zero, List.set_cons_succ]
  refine wpAnyH_ready (rs := [8]) (by kernel_rfl) (by simp) ?_
  refine AllReadyH.cons rfl (fun K hK => ?_) AllReadyH.nil
  simp only [List.getElem_toArray, List.getElem_cons_succ, List.getElem_cons_zero]
  rw [if_pos (by rfl)]
  go_simp
  refine hK.out _ _ (al_of hH0.out) (fun hHeld => ?_)
  clear hK K
  try simp only [Act.put, List.getElem_toArray, List.getElem_cons_succ, List.getElem_cons_zero, List.setIfInBounds_toArray, List.set_cons_zero, List.set_cons_succ]
  refine wpAnyH_done (by kernel_rfl) ?_ _
  have H := Lib.hid (HMK.out wB hH0.out HB1.out.1 HB1.out.2)
  obtain ⟨w0, hw0⟩ : ∃ X, X = wB.alloc (.cells #[.int .i64 x.c, .int .i64 x.f, .int .u64 x.s, .int .u64 x.t, .string x.d] TPk) := ⟨_, rfl⟩
  rw [← hw0] at H
  go_upto_region 2 with fail
  try rw [hsz]
  rw [← hw0]
  clear hw0 hsz HMK HB1 hH0 hHeld
  have p := fun i => cell_of_row w0 w.heap.size i _ _ (0, 0) H.out.b0
  have p0 := p 0; have p1 := p 1; have p2 := p 2; have p3 := p 3; have p4 := p 4; have p5 := p 5; have p6 := p 6; have p7 := p 7; have p8 := p 8
  clear p
  have z := fun i => cell_of_row w0 (w.heap.size + 1) i _ _ (0, 0) H.out.b1
  have z0 := z 0; have z1 := z 1; have z2 := z 2; have z3 := z 3; have z4 := z 4
  clear z
  rcases Int.lt_or_le x.sd 0 with s0 | s0
  · have s1 : decide (x.sd < 0) = true := decide_eq_true s0
    go_wp2
    go_ret
    exact ⟨rfl, H.out.bel⟩
  · rcases Int.lt_or_le 1 x.sd with s2 | s2
    · have s1 : decide (x.sd < 0) = false := decide_eq_false (by omega)
      have s3 : decide (1 < x.sd) = true := decide_eq_true s2
      go_wp2
      go_ret
      exact ⟨rfl, H.out.bel⟩
    · have s1 : decide (x.sd < 0) = false := decide_eq_false (by omega)
      have s3 : decide (1 < x.sd) = false := decide_eq_false (by omega)
      have hF2 : Hid (eright x = true → ¬ x.c < (on : Int)) := Lib.hid (fun h1 h2 => by have := hF.out; rw [h1, decide_eq_true h2] at this; rcases (show x.sd = 0 ∨ x.sd = 1 by omega) with e | e <;> simp [e] at this)
      generalize eright x = eb at hR hF2 hF
      go_wp2_with fail
      refine (hR.out _).mono ?_
      rintro _ w1 ⟨rfl, b1⟩
      have H1 := Lib.hid (H.out.below b1)
      clear b1 H p0 p1 p2 p3 p4 p5 p6 p7 p8 z0 z1 z2 z3 z4
      cases eb with
      | false =>
        go_wp2
        go_ret
        exact ⟨rfl, H1.out.bel⟩
      | true =>
        have hc := hF2.out rfl
        have hc2 : (on : Int) ≤ x.c := by omega
        have p := fun i => cell_of_row w1 w.heap.size i _ _ (0, 0) H1.out.b0
        have p0 := p 0; have p1 := p 1; have p2 := p 2; have p3 := p 3; have p4 := p 4; have p5 := p 5; have p6 := p 6; have p7 := p 7; have p8 := p 8
        clear p
        have z := fun i => cell_of_row w1 (w.heap.size + 1) i _ _ (0, 0) H1.out.b1
        have z0 := z 0; have z1 := z 1; have z2 := z 2; have z3 := z 3; have z4 := z 4
        clear z
        go_wp2
        go_ret
        exact ⟨rfl, H1.out.bel⟩
end Go.Proofs.Ytfojmjgnndlfnab.Tr
