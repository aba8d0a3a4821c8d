/- The page's Wrong, of a mark of kind 1. -/
import Derived.Test.YtfojmjgnndlfnabTrRef0
namespace Go.Proofs.Ytfojmjgnndlfnab.Tr
open Go Go.RowKit
set_option linter.unusedVariables false

set_option maxRecDepth 20000 in
set_option maxHeartbeats 4000000 in
theorem rwrong_1 (x : Mk) {w : World} {O A : Option Addr} {on ocap n cap : Nat} {ord : Nat → Bool} {f : Nat → Mk} (hC : Cx w O on ord A n f) (hf : formedB on x = true) (hk : x.k = 1) :
    Calls Try.prog 8 #[.slice O on ocap, .slice A n cap, .agg #[.int .i64 x.sd, .int .i64 x.k, .int .u64 x.h, .int .i64 x.c, .int .i64 x.f, .int .u64 x.s, .int .u64 x.t, .string x.d, .string x.a]] w fun e w' => e = .returned (.int .i64 (wrongF ord on f n x)) ∧ Below w.heap.size w w' := by
  have hRI : wrongF ord on f n x = (if ¬ x.f = x.sd then 2 else if decide (0 < cn (pShut x) f n) = true then 3 else if x.s = ((cn (pNext x) f n + 1 : Nat) : Int) then 0 else 4) := by
    unfold wrongF
    rw [if_neg (by rw [hf]; decide)]
    by_cases e : x.f = x.sd
    · rw [if_neg (show ¬ misB x = true by unfold misB; rw [hk]; simp [e]), if_neg (show ¬ ¬ x.f = x.sd from fun h => h e)]; unfold shutB; rw [if_neg (show ¬ x.k = 5 by rw [hk]; decide)]; rw [if_pos hk]; unfold nxN; rfl
    · rw [if_pos (show misB x = true by unfold misB; rw [hk]; simp [e]), if_pos e]
  have hR : Hid (∀ V, Calls Try.prog 17 #[.agg #[.int .i64 x.k, .int .u64 x.h, .int .i64 x.c, .int .i64 x.f, .int .u64 x.s, .int .u64 x.t, .string x.d, .string x.a]] V fun e w' => e = .returned (.bool true) ∧ Below V.heap.size V w') := Lib.hid (fun V => by
    have h1 := reright_any x V
    rw [show eright x = true by unfold formedB at hf; simp only [Bool.and_eq_true] at hf; exact hf.1.2] at h1
    exact h1)
  have hod := formed_ord hf
  have hsd : x.sd = 0 ∨ x.sd = 1 := by unfold formedB at hf; simp only [Bool.and_eq_true, Bool.or_eq_true, decide_eq_true_eq] at hf; exact hf.1.1
  have s1 : decide (x.sd < 0) = false := decide_eq_false (by omega)
  have s3 : decide (1 < x.sd) = false := decide_eq_false (by omega)
  have oc1 : ¬ (on : Int) ≤ x.c := by omega
  have oc2 : decide ((on : Int) ≤ x.c) = false := decide_eq_false oc1
  have k1 : (x.k == 1) = true := by rw [hk]; rfl
  have l1 : (x.k != 1) = false := by rw [hk]; rfl
  have k2 : (x.k == 2) = false := by rw [hk]; rfl
  have l2 : (x.k != 2) = true := by rw [hk]; rfl
  have k3 : (x.k == 3) = false := by rw [hk]; rfl
  have l3 : (x.k != 3) = true := by rw [hk]; rfl
  have k4 : (x.k == 4) = false := by rw [hk]; rfl
  have l4 : (x.k != 4) = true := by rw [hk]; rfl
  have k5 : (x.k == 5) = false := by rw [hk]; rfl
  have l5 : (x.k != 5) = true := by rw [hk]; rfl
  obtain ⟨ob, oo, rfl, hob, hO⟩ := hC.o (by omega)
  obtain ⟨ch, hx⟩ : ∃ ch : Nat, x.c = (ch : Int) := ⟨x.c.toNat, by omega⟩
  have hch1 : ch < on := by omega
  obtain ⟨oc, hoc⟩ : ∃ oc, oc = ord ch := ⟨_, rfl⟩
  have HBO : Hid (∀ V, Below w.heap.size w V → V.cell? ⟨ob, oo + ch, none⟩ = some (.bool oc)) := Lib.hid (fun V k => by rw [hoc]; exact (k.cell (p := ⟨ob, oo + ch, none⟩) hob).trans (hO ch hch1))
  have hc0 : (0 : Int) ≤ (ch : Int) := by omega
  have hc1' : (ch : Int) < (on : Int) := by omega
  have hno : (on : Int) ≤ 1000 := by have := hC.hon; omega
  have hnn : (n : Int) ≤ 1000 := by have := hC.hn; omega
  have HXC := Lib.hid hx
  have HK := Lib.hid hk
  obtain ⟨c1, hc1⟩ : ∃ c, c = cn (pSent x) f n := ⟨_, rfl⟩
  obtain ⟨cs, hcs⟩ : ∃ c, c = cn (pShut x) f n := ⟨_, rfl⟩
  obtain ⟨o2, ho2⟩ : ∃ c, c = cn (pOf [2] x) f n := ⟨_, rfl⟩
  obtain ⟨o3, ho3⟩ : ∃ c, c = cn (pOf [3] x) f n := ⟨_, rfl⟩
  obtain ⟨o4, ho4⟩ : ∃ c, c = cn (pOf [4] x) f n := ⟨_, rfl⟩
  obtain ⟨cx, hcx⟩ : ∃ c, c = cn (pNext x) f n := ⟨_, rfl⟩
  obtain ⟨ca, hca⟩ : ∃ c, c = cn (pAck x) f n := ⟨_, rfl⟩
  have hclx := cn_le (pNext x) f n
  rw [← hcx] at hclx
  have hw : IntKind.u64.wrap ((cx : Int) + 1) = (cx : Int) + 1 := by rw [IntKind.wrap_u64]; omega
  rw [← hcs, ← hcx] at hRI
  have Lc1 := Lib.hid hc1
  have Lcs := Lib.hid hcs
  have Lo2 := Lib.hid ho2
  have Lo3 := Lib.hid ho3
  have Lo4 := Lib.hid ho4
  have Lcx := Lib.hid hcx
  have Lca := Lib.hid hca
  generalize wrongF ord on f n x = r at hRI ⊢
  have HR := Lib.hid hRI
  clear hRI hf hk hod hsd hx hoc hO oc1 hc1 hcs ho2 ho3 ho4 hcx hca
  have hb0 := heap_alloc_new w (.cells #[.int .i64 x.sd, .int .i64 x.k, .int .u64 x.h, .int .i64 x.c, .int .i64 x.f, .int .u64 x.s, .int .u64 x.t, .string x.d, .string x.a] TMk)
  have hs0 : (w.alloc (.cells #[.int .i64 x.sd, .int .i64 x.k, .int .u64 x.h, .int .i64 x.c, .int .i64 x.f, .int .u64 x.s, .int .u64 x.t, .string x.d, .string x.a] TMk)).heap.size = w.heap.size + 1 := by simp
  have hB0 : Below w.heap.size w (w.alloc (.cells #[.int .i64 x.sd, .int .i64 x.k, .int .u64 x.h, .int .i64 x.c, .int .i64 x.f, .int .u64 x.s, .int .u64 x.t, .string x.d, .string x.a] TMk)) := (Below.refl _ _).alloc (Nat.le_refl _) _
  obtain ⟨wA, hwA⟩ : ∃ X, X = w.alloc (.cells #[.int .i64 x.sd, .int .i64 x.k, .int .u64 x.h, .int .i64 x.c, .int .i64 x.f, .int .u64 x.s, .int .u64 x.t, .string x.d, .string x.a] TMk) := ⟨_, rfl⟩
  rw [← hwA] at hb0 hs0 hB0
  have HMK := Lib.hid (fun (V : World) (h1 : V.heap[w.heap.size]? = some (.cells #[.int .i64 x.sd, .int .i64 x.k, .int .u64 x.h, .int .i64 x.c, .int .i64 x.f, .int .u64 x.s, .int .u64 x.t, .string x.d, .string x.a] TMk (0, 0))) (h2 : V.heap.size = w.heap.size + 1) (h3 : Below w.heap.size w V) => WZ.make hC h1 h2 h3)
  have HB0 := Lib.hid (And.intro hb0 (And.intro hs0 hB0))
  clear hC hb0 hs0 hB0
  go_enter Try.func8, Try.ntmps8
  go_upto_region 1 with fail
  rw [← hwA]
  clear hwA
  refine wp_region_held_drew (S := fun V => V.heap[w.heap.size]? = some (.cells #[.int .i64 x.sd, .int .i64 x.k, .int .u64 x.h, .int .i64 x.c, .int .i64 x.f, .int .u64 x.s, .int .u64 x.t, .string x.d, .string x.a] TMk (0, 0))) (by kernel_rfl) HB0.out.1 (fun hHeld => ?_)
  have HB1 : Hid (wA.drew.heap.size = w.heap.size + 1 ∧ Below w.heap.size w wA.drew) := Lib.hid ⟨HB0.out.2.1, HB0.out.2.2.drew⟩
  obtain ⟨wB, hwB⟩ : ∃ X, X = wA.drew := ⟨_, rfl⟩
  rw [← hwB] at HB1 hHeld ⊢
  clear hwB HB0
  have hH0 := Lib.hid hHeld
  refine wpAnyH_take (i := 0) (oi := _) (v := ?_) rfl (by kernel_rfl) (by kernel_rfl) (by kernel_rfl) (fun _ _ _ h => h) (Or.inl ⟨by rfl, ?_⟩) (by assumption) ?_
  rotate_left
  · (intro W hSw; (try dsimp only at hSw); go_simp; try with_reducible rfl)
  try simp only [Act.put, List.getElem_toArray, List.getElem_cons_zero, List.setIfInBounds_toArray, List.set_cons_zero, List.set_cons_succ]
  refine wpAnyH_take (i := 1) (oi := _) (v := ?_) rfl (by kernel_rfl) (by kernel_rfl) (by kernel_rfl) (fun _ _ _ h => h) (Or.inl ⟨by rfl, ?_⟩) (by assumption) ?_
  rotate_left
  · (intro W hSw; (try dsimp only at hSw); go_simp; try with_reducible rfl)
  try simp only [Act.put, List.getElem_toArray, List.getElem_cons_succ, List.getElem_cons_zero, List.setIfInBounds_toArray, List.set_cons_zero, List.set_cons_succ]
  refine wpAnyH_take (i := 2) (oi := _) (v := ?_) rfl (by kernel_rfl) (by kernel_rfl) (by kernel_rfl) (fun _ _ _ h => h) (Or.inl ⟨by rfl, ?_⟩) (by assumption) ?_
  rotate_left
  · (intro V hSw; have q := fun i => cell_of_row V w.heap.size i _ _ (0, 0) hSw; have q0 := q 0; have q1 := q 1; have q2 := q 2; have q3 := q 3; have q4 := q 4; have q5 := q 5; have q6 := q 6; have q7 := q 7; have q8 := q 8; clear q hSw; go_simp; try with_reducible rfl)
  try simp only [Act.put, List.getElem_toArray, List.getElem_cons_succ, List.getElem_cons_zero, List.setIfInBounds_toArray, List.set_cons_zero, List.set_cons_succ]
  refine wpAnyH_take (i := 3) (oi := _) (v := ?_) rfl (by kernel_rfl) (by kernel_rfl) (by kernel_rfl) (fun _ _ _ h => h) (Or.inl ⟨by rfl, ?_⟩) (by assumption) ?_
  rotate_left
  · (intro W hSw; (try dsimp only at hSw); go_simp; try with_reducible rfl)
  try simp only [Act.put, List.getElem_toArray, List.getElem_cons_succ, List.getElem_cons_zero, List.setIfInBounds_toArray, List.set_cons_zero, List.set_cons_succ]
  refine wpAnyH_take (i := 4) (oi := _) (v := ?_) rfl (by kernel_rfl) (by kernel_rfl) (by kernel_rfl) (fun _ _ _ h => h) (Or.inl ⟨by rfl, ?_⟩) (by assumption) ?_
  rotate_left
  · (intro W hSw; (try dsimp only at hSw); go_simp; try with_reducible rfl)
  try simp only [Act.put, List.getElem_toArray, List.getElem_cons_succ, List.getElem_cons_zero, List.setIfInBounds_toArray, List.set_cons_zero, List.set_cons_succ]
  refine wpAnyH_take (i := 5) (oi := _) (v := ?_) rfl (by kernel_rfl) (by kernel_rfl) (by kernel_rfl) (fun _ _ _ h => h) (Or.inl ⟨by rfl, ?_⟩) (by assumption) ?_
  rotate_left
  · (intro V hSw; have q := fun i => cell_of_row V w.heap.size i _ _ (0, 0) hSw; have q0 := q 0; have q1 := q 1; have q2 := q 2; have q3 := q 3; have q4 := q 4; have q5 := q 5; have q6 := q 6; have q7 := q 7; have q8 := q 8; clear q hSw; go_simp; try with_reducible rfl)
  try simp only [Act.put, List.getElem_toArray, List.getElem_cons_succ, List.getElem_cons_zero, List.setIfInBounds_toArray, List.set_cons_zero, List.set_cons_succ]
  refine wpAnyH_ready (rs := [6]) (by kernel_rfl) (by simp) ?_
  refine AllReadyH.cons rfl (fun K hK => ?_) AllReadyH.nil
  simp only [List.getElem_toArray, List.getElem_cons_succ, List.getElem_cons_zero]
  rw [if_pos (by rfl)]
  go_simp
  refine hK.out _ _ (al_of hH0.out) (fun hHeld => ?_)
  clear hK K
  try simp only [Act.put, List.getElem_toArray, List.getElem_cons_succ, List.getElem_cons_zero, List.setIfInBounds_toArray, List.set_cons_zero, List.set_cons_succ]
  have hsz := HB1.out.1
  try rw [hsz]
  refine wpAnyH_take (i := 7) (oi := _) (v := ?_) rfl (by kernel_rfl) (by kernel_rfl) (by kernel_rfl) (fun _ _ _ h => h) (Or.inl ⟨by rfl, ?_⟩) (by assumption) ?_
  rotate_left
  · (intro W hSw; (try dsimp only at hSw); go_simp; try with_reducible rfl)
  try simp only [Act.put, List.getElem_toArray, List.getElem_cons_succ, List.getElem_cons_zero, List.setIfInBounds_toArray, List.set_cons_zero, List.set_cons_succ]
  refine wpAnyH_ready (rs := [8]) (by kernel_rfl) (by simp) ?_
  refine AllReadyH.cons rfl (fun K hK => ?_) AllReadyH.nil
  simp only [List.getElem_toArray, List.getElem_cons_succ, List.getElem_cons_zero]
  rw [if_pos (by rfl)]
  go_simp
  refine hK.out _ _ (al_of hH0.out) (fun hHeld => ?_)
  clear hK K
  try simp only [Act.put, List.getElem_toArray, List.getElem_cons_succ, List.getElem_cons_zero, List.setIfInBounds_toArray, List.set_cons_zero, List.set_cons_succ]
  refine wpAnyH_done (by kernel_rfl) ?_ _
  have H := Lib.hid (HMK.out wB hH0.out HB1.out.1 HB1.out.2)
  obtain ⟨w0, hw0⟩ : ∃ X, X = wB.alloc (.cells #[.int .i64 x.c, .int .i64 x.f, .int .u64 x.s, .int .u64 x.t, .string x.d] TPk) := ⟨_, rfl⟩
  rw [← hw0] at H
  go_upto_region 2 with fail
  try rw [hsz]
  rw [← hw0]
  clear hw0 hsz HMK HB1 hH0 hHeld
  have p := fun i => cell_of_row w0 w.heap.size i _ _ (0, 0) H.out.b0
  have p0 := p 0; have p1 := p 1; have p2 := p 2; have p3 := p 3; have p4 := p 4; have p5 := p 5; have p6 := p 6; have p7 := p 7; have p8 := p 8
  clear p
  have z := fun i => cell_of_row w0 (w.heap.size + 1) i _ _ (0, 0) H.out.b1
  have z0 := z 0; have z1 := z 1; have z2 := z 2; have z3 := z 3; have z4 := z 4
  clear z
  go_wp2_with fail
  refine (hR.out _).mono ?_
  rintro _ w1 ⟨rfl, b1⟩
  have H1 := Lib.hid (H.out.below b1)
  clear b1 H hR p0 p1 p2 p3 p4 p5 p6 p7 p8 z0 z1 z2 z3 z4
  rcases Decidable.em (¬ x.f = x.sd) with hm | hm
  · skip
    have m1 : (x.f == x.sd) = false ∧ (x.f != x.sd) = true := by simpa using hm
    have m2 := m1.2
    have m1 := m1.1
    have HM := Lib.hid hm
    clear hm
    have p := fun i => cell_of_row w1 w.heap.size i _ _ (0, 0) H1.out.b0
    have p0 := p 0; have p1 := p 1; have p2 := p 2; have p3 := p 3; have p4 := p 4; have p5 := p 5; have p6 := p 6; have p7 := p 7; have p8 := p 8
    clear p
    have z := fun i => cell_of_row w1 (w.heap.size + 1) i _ _ (0, 0) H1.out.b1
    have z0 := z 0; have z1 := z 1; have z2 := z 2; have z3 := z 3; have z4 := z 4
    clear z
    go_wp2
    go_ret
    exact ⟨by rw [HR.out, if_pos HM.out]; rfl, H1.out.bel⟩
  · skip
    have m1 : (x.f == x.sd) = true ∧ (x.f != x.sd) = false := by simpa using hm
    have m2 := m1.2
    have m1 := m1.1
    have HM := Lib.hid hm
    clear hm
    have p := fun i => cell_of_row w1 w.heap.size i _ _ (0, 0) H1.out.b0
    have p0 := p 0; have p1 := p 1; have p2 := p 2; have p3 := p 3; have p4 := p 4; have p5 := p 5; have p6 := p 6; have p7 := p 7; have p8 := p 8
    clear p
    have z := fun i => cell_of_row w1 (w.heap.size + 1) i _ _ (0, 0) H1.out.b1
    have z0 := z 0; have z1 := z 1; have z2 := z 2; have z3 := z 3; have z4 := z 4
    clear z
    go_wp2_with fail
    refine (H1.out.shut).mono ?_
    rintro _ v1 ⟨rfl, hv1⟩
    have Hv1 := Lib.hid hv1
    rw [← Lcs.out]
    clear hv1 p0 p1 p2 p3 p4 p5 p6 p7 p8 z0 z1 z2 z3 z4 H1
    by_cases h_cs : 0 < cs
    · rw [decide_eq_true h_cs]
      have p := fun i => cell_of_row v1 w.heap.size i _ _ (0, 0) Hv1.out.b0
      have p0 := p 0; have p1 := p 1; have p2 := p 2; have p3 := p 3; have p4 := p 4; have p5 := p 5; have p6 := p 6; have p7 := p 7; have p8 := p 8
      clear p
      have z := fun i => cell_of_row v1 (w.heap.size + 1) i _ _ (0, 0) Hv1.out.b1
      have z0 := z 0; have z1 := z 1; have z2 := z 2; have z3 := z 3; have z4 := z 4
      clear z
      go_wp2
      go_ret
      exact ⟨by rw [HR.out, if_neg HM.out, if_pos (show decide (0 < cs) = true from decide_eq_true h_cs)]; rfl, Hv1.out.bel⟩
    · rw [decide_eq_false h_cs]
      have p := fun i => cell_of_row v1 w.heap.size i _ _ (0, 0) Hv1.out.b0
      have p0 := p 0; have p1 := p 1; have p2 := p 2; have p3 := p 3; have p4 := p 4; have p5 := p 5; have p6 := p 6; have p7 := p 7; have p8 := p 8
      clear p
      have z := fun i => cell_of_row v1 (w.heap.size + 1) i _ _ (0, 0) Hv1.out.b1
      have z0 := z 0; have z1 := z 1; have z2 := z 2; have z3 := z 3; have z4 := z 4
      clear z
      go_upto_region 13 with fail
      clear p0 p1 p2 p3 p4 p5 p6 p7 p8 z0 z1 z2 z3 z4
      refine wp_region_held_drew (S := fun V => V.heap[w.heap.size]? = some (.cells #[.int .i64 x.sd, .int .i64 x.k, .int .u64 x.h, .int .i64 x.c, .int .i64 x.f, .int .u64 x.s, .int .u64 x.t, .string x.d, .string x.a] TMk (0, 0)) ∧ V.heap[w.heap.size + 1]? = some (.cells #[.int .i64 x.c, .int .i64 x.f, .int .u64 x.s, .int .u64 x.t, .string x.d] TPk (0, 0)) ∧ True) (by kernel_rfl) ⟨Hv1.out.b0, Hv1.out.b1, trivial⟩ (fun hHeld => ?_)
      have Hd := Lib.hid (Hv1.out.below (Below.refl _ _).drew)
      obtain ⟨vd, hvd⟩ : ∃ X, X = v1.drew := ⟨_, rfl⟩
      rw [← hvd] at Hd hHeld ⊢
      clear hvd Hv1
      refine wpAnyH_take (i := 0) (oi := _) (v := ?_) rfl (by kernel_rfl) (by kernel_rfl) (by kernel_rfl) (fun _ _ _ h => h) (Or.inl ⟨by rfl, ?_⟩) (by assumption) ?_
      rotate_left
      · (intro W hSw; (try dsimp only at hSw); go_simp; try with_reducible rfl)
      try simp only [Act.put, List.getElem_toArray, List.getElem_cons_zero, List.setIfInBounds_toArray, List.set_cons_zero, List.set_cons_succ]
      refine wpAnyH_take (i := 1) (oi := _) (v := ?_) rfl (by kernel_rfl) (by kernel_rfl) (by kernel_rfl) (fun _ _ _ h => h) (Or.inl ⟨by rfl, ?_⟩) (by assumption) ?_
      rotate_left
      · (intro V hSw; have q := fun i => cell_of_row V (w.heap.size + 1) i _ _ (0, 0) hSw.2.1; have q0 := q 0; have q1 := q 1; have q2 := q 2; have q3 := q 3; have q4 := q 4; clear q hSw; go_simp; try with_reducible rfl)
      try simp only [Act.put, List.getElem_toArray, List.getElem_cons_succ, List.getElem_cons_zero, List.setIfInBounds_toArray, List.set_cons_zero, List.set_cons_succ]
      refine wpAnyH_take (i := 2) (oi := _) (v := ?_) rfl (by kernel_rfl) (by kernel_rfl) (by kernel_rfl) (fun _ _ _ h => h) (Or.inl ⟨by rfl, ?_⟩) (by assumption) ?_
      rotate_left
      · (intro W hSw; (try dsimp only at hSw); go_simp; try with_reducible rfl)
      try simp only [Act.put, List.getElem_toArray, List.getElem_cons_succ, List.getElem_cons_zero, List.setIfInBounds_toArray, List.set_cons_zero, List.set_cons_succ]
      refine wpAnyH_take (i := 3) (oi := _) (v := ?_) rfl (by kernel_rfl) (by kernel_rfl) (by kernel_rfl) (fun _ _ _ h => h) (Or.inl ⟨by rfl, ?_⟩) (by assumption) ?_
      rotate_left
      · (intro V hSw; have q := fun i => cell_of_row V (w.heap.size + 1) i _ _ (0, 0) hSw.2.1; have q0 := q 0; have q1 := q 1; have q2 := q 2; have q3 := q 3; have q4 := q 4; clear q hSw; go_simp; try with_reducible rfl)
      try simp only [Act.put, List.getElem_toArray, List.getElem_cons_succ, List.getElem_cons_zero, List.setIfInBounds_toArray, List.set_cons_zero, List.set_cons_succ]
      refine wpAnyH_ready (rs := [4]) (by kernel_rfl) (by simp) ?_
      refine AllReadyH.cons rfl (fun K hK => ?_) AllReadyH.nil
      simp only [List.getElem_toArray, List.getElem_cons_succ, List.getElem_cons_zero]
      rw [if_pos (by rfl)]
      go_simp
      refine (Hd.out.count 1 HK.out).mono ?_
      rintro _ ve ⟨rfl, he⟩
      have He := Lib.hid he
      rw [← Lcx.out]
      clear he
      go_wp2_with fail
      refine hK.out _ _ ⟨He.out.b0, He.out.b1, trivial⟩ (fun hHeld => ?_)
      clear hK K
      try simp only [Act.put, List.getElem_toArray, List.getElem_cons_succ, List.getElem_cons_zero, List.setIfInBounds_toArray, List.set_cons_zero, List.set_cons_succ]
      have hw2 := Lib.hid hw
      obtain ⟨d, hd⟩ : ∃ d : Int, d = (cx : Int) + 1 := ⟨_, rfl⟩
      refine wpAnyH_take (i := 5) (oi := _) (v := ?_) rfl (by kernel_rfl) (by kernel_rfl) (by kernel_rfl) (fun _ _ _ h => h) (Or.inl ⟨by rfl, ?_⟩) (by assumption) ?_
      rotate_left
      · (intro V hSw; clear hSw; have e := hw2.out; go_simp; try with_reducible rfl)
      try simp only [Act.put, List.getElem_toArray, List.getElem_cons_succ, List.getElem_cons_zero, List.setIfInBounds_toArray, List.set_cons_zero, List.set_cons_succ]
      by_cases hs : x.s = (cx : Int) + 1
      · have s1' : (x.s == (cx : Int) + 1) = true ∧ (x.s != (cx : Int) + 1) = false := by simpa using hs
        have HS := Lib.hid (And.intro hs s1')
        clear hs s1'
        refine wpAnyH_take (i := 6) (oi := _) (v := ?_) rfl (by kernel_rfl) (by kernel_rfl) (by kernel_rfl) (fun _ _ _ h => h) (Or.inl ⟨by rfl, ?_⟩) (by assumption) ?_
        rotate_left
        · (intro V hSw; clear hSw; have s0 := HS.out.1; have s1' := HS.out.2.1; have s2 := HS.out.2.2; go_simp; try with_reducible rfl)
        try simp only [Act.put, List.getElem_toArray, List.getElem_cons_succ, List.getElem_cons_zero, List.setIfInBounds_toArray, List.set_cons_zero, List.set_cons_succ]
        refine wpAnyH_done (by kernel_rfl) ?_ _
        go_wp2
        go_ret
        exact ⟨by rw [HR.out, if_neg HM.out, if_neg (show ¬ decide (0 < cs) = true by rw [decide_eq_false h_cs]; decide), if_pos (by have := HS.out.1; push_cast; exact this)]; rfl, He.out.bel⟩
      · have s1' : (x.s == (cx : Int) + 1) = false ∧ (x.s != (cx : Int) + 1) = true := by simpa using hs
        have HS := Lib.hid (And.intro hs s1')
        clear hs s1'
        refine wpAnyH_take (i := 6) (oi := _) (v := ?_) rfl (by kernel_rfl) (by kernel_rfl) (by kernel_rfl) (fun _ _ _ h => h) (Or.inl ⟨by rfl, ?_⟩) (by assumption) ?_
        rotate_left
        · (intro V hSw; clear hSw; have s0 := HS.out.1; have s1' := HS.out.2.1; have s2 := HS.out.2.2; go_simp; try with_reducible rfl)
        try simp only [Act.put, List.getElem_toArray, List.getElem_cons_succ, List.getElem_cons_zero, List.setIfInBounds_toArray, List.set_cons_zero, List.set_cons_succ]
        refine wpAnyH_done (by kernel_rfl) ?_ _
        go_wp2
        go_ret
        exact ⟨by rw [HR.out, if_neg HM.out, if_neg (show ¬ decide (0 < cs) = true by rw [decide_eq_false h_cs]; decide), if_neg (by have := HS.out.1; push_cast; exact this)]; rfl, He.out.bel⟩
end Go.Proofs.Ytfojmjgnndlfnab.Tr
