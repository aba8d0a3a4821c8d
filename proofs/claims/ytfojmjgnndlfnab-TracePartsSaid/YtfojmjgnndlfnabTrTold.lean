/- trace.told. -/
import Derived.Test.YtfojmjgnndlfnabTrBase
namespace Go.Proofs.Ytfojmjgnndlfnab.Tr
open Go Go.RowKit
set_option linter.unusedVariables false

theorem WX.make2 {w V : World} {O A : Option Addr} {on n cap q : Nat} {ord : Nat → Bool} {f : Nat → Mk} {x : Mk} (hC : Cx w O on ord A n f) (hq : w.heap[q]? = some (.cells #[.slice A n cap] TMs (0, 0))) (hb : V.heap[w.heap.size]? = some (.cells #[.int .i64 x.sd, .int .i64 x.k, .int .u64 x.h, .int .i64 x.c, .int .i64 x.f, .int .u64 x.s, .int .u64 x.t, .string x.d, .string x.a] TMk (0, 0))) (hs : V.heap.size = w.heap.size + 1) (hB : Below w.heap.size w V) : WX w (V.alloc (.cells #[.int .i64 x.c, .int .i64 x.f, .int .u64 x.s, .int .u64 x.t, .string x.d] TPk)) O on ord A n cap f q x := by
  have g1 := heap_alloc_new V (.cells #[.int .i64 x.c, .int .i64 x.f, .int .u64 x.s, .int .u64 x.t, .string x.d] TPk)
  rw [hs] at g1
  have gb := hB.alloc hB.size (.cells #[.int .i64 x.c, .int .i64 x.f, .int .u64 x.s, .int .u64 x.t, .string x.d] TPk)
  exact ⟨al_of hb, g1, (gb.block _ (lt_of hq)).trans hq, hC.below gb, gb⟩
set_option maxRecDepth 20000 in
set_option maxHeartbeats 4000000 in
theorem told_any (x : Mk) {w : World} {O A : Option Addr} {on ocap n cap q : Nat} {ord : Nat → Bool} {f : Nat → Mk} (hC : Cx w O on ord A n f) (hq : w.heap[q]? = some (.cells #[.slice A n cap] TMs (0, 0))) (hch : 0 ≤ x.c ∧ x.c < (on : Int)) :
    Calls Try.prog 16 #[.slice O on ocap, .agg #[.int .i64 x.sd, .int .i64 x.k, .int .u64 x.h, .int .i64 x.c, .int .i64 x.f, .int .u64 x.s, .int .u64 x.t, .string x.d, .string x.a], .func (.func 10) #[] #[.pointer (some ⟨q, 0, none⟩)]] w fun e w' => e = .returned (.int .i64 (tolI ord f n x)) ∧ Below w.heap.size w w' := by
  obtain ⟨ob, oo, rfl, hob, hO⟩ := hC.o (by omega)
  obtain ⟨ch, hx⟩ : ∃ ch : Nat, x.c = (ch : Int) := ⟨x.c.toNat, by omega⟩
  have hch1 : ch < on := by omega
  obtain ⟨oc, hoc⟩ : ∃ oc, oc = ord ch := ⟨_, rfl⟩
  have HBO : Hid (∀ V, Below w.heap.size w V → V.cell? ⟨ob, oo + ch, none⟩ = some (.bool oc)) := Lib.hid (fun V k => by rw [hoc]; exact (k.cell (p := ⟨ob, oo + ch, none⟩) hob).trans (hO ch hch1))
  have hc0 : (0 : Int) ≤ (ch : Int) := by omega
  have hc1 : (ch : Int) < (on : Int) := by omega
  have hno : (on : Int) ≤ 1000 := by have := hC.hon; omega
  have HXC := Lib.hid hx
  obtain ⟨c1, hc1⟩ : ∃ c, c = cn (pSent x) f n := ⟨_, rfl⟩
  obtain ⟨c3, hc3⟩ : ∃ c, c = cn (pOf [3, 4] x) f n := ⟨_, rfl⟩
  obtain ⟨c2, hc2⟩ : ∃ c, c = cn (pOf [2] x) f n := ⟨_, rfl⟩
  obtain ⟨nx, hnx⟩ : ∃ c, c = nxN f n x := ⟨_, rfl⟩
  obtain ⟨ca, hca⟩ : ∃ c, c = cn (pAck x) f n := ⟨_, rfl⟩
  have hRI : tolI ord f n x = (if cn (pSent x) f n = 0 then 5 else if x.k = 5 then 0 else if 0 < cn (pOf [3, 4] x) f n then 6 else if x.k = 4 then (if 0 < cn (pOf [2] x) f n then 7 else 0) else if ord x.c.toNat = true ∧ ¬ x.s = (nxN f n x : Int) then 9 else if cn (pAck x) f n = 0 then 10 else 0) := rfl
  rw [← hc1, ← hc2, ← hc3, ← hca, ← hnx, show x.c.toNat = ch by omega, ← hoc] at hRI
  generalize tolI ord f n x = r at hRI ⊢
  have HR := Lib.hid hRI
  have HC1 := Lib.hid hc1
  have HC2 := Lib.hid hc2
  have HC3 := Lib.hid hc3
  have HCA := Lib.hid hca
  have HNX := Lib.hid hnx
  clear hRI hc1 hc2 hc3 hca hnx hoc
  have hb0 := heap_alloc_new w (.cells #[.int .i64 x.sd, .int .i64 x.k, .int .u64 x.h, .int .i64 x.c, .int .i64 x.f, .int .u64 x.s, .int .u64 x.t, .string x.d, .string x.a] TMk)
  have hs0 : (w.alloc (.cells #[.int .i64 x.sd, .int .i64 x.k, .int .u64 x.h, .int .i64 x.c, .int .i64 x.f, .int .u64 x.s, .int .u64 x.t, .string x.d, .string x.a] TMk)).heap.size = w.heap.size + 1 := by simp
  have hB0 : Below w.heap.size w (w.alloc (.cells #[.int .i64 x.sd, .int .i64 x.k, .int .u64 x.h, .int .i64 x.c, .int .i64 x.f, .int .u64 x.s, .int .u64 x.t, .string x.d, .string x.a] TMk)) := (Below.refl _ _).alloc (Nat.le_refl _) _
  obtain ⟨wA, hwA⟩ : ∃ X, X = w.alloc (.cells #[.int .i64 x.sd, .int .i64 x.k, .int .u64 x.h, .int .i64 x.c, .int .i64 x.f, .int .u64 x.s, .int .u64 x.t, .string x.d, .string x.a] TMk) := ⟨_, rfl⟩
  rw [← hwA] at hb0 hs0 hB0
  have HMK := Lib.hid (fun (V : World) (h1 : V.heap[w.heap.size]? = some (.cells #[.int .i64 x.sd, .int .i64 x.k, .int .u64 x.h, .int .i64 x.c, .int .i64 x.f, .int .u64 x.s, .int .u64 x.t, .string x.d, .string x.a] TMk (0, 0))) (h2 : V.heap.size = w.heap.size + 1) (h3 : Below w.heap.size w V) => WX.make2 (cap := cap) hC hq h1 h2 h3)
  have HB0 := Lib.hid (And.intro hb0 (And.intro hs0 hB0))
  clear hC hq hO hch hx hb0 hs0 hB0
  go_enter Try.func16, Try.ntmps16
  go_upto_region 1 with fail
  rw [← hwA]
  clear hwA
  refine wp_region_held_drew (S := fun V => V.heap[w.heap.size]? = some (.cells #[.int .i64 x.sd, .int .i64 x.k, .int .u64 x.h, .int .i64 x.c, .int .i64 x.f, .int .u64 x.s, .int .u64 x.t, .string x.d, .string x.a] TMk (0, 0))) (by kernel_rfl) HB0.out.1 (fun hHeld => ?_)
  have HB1 : Hid (wA.drew.heap.size = w.heap.size + 1 ∧ Below w.heap.size w wA.drew) := Lib.hid ⟨HB0.out.2.1, HB0.out.2.2.drew⟩
  obtain ⟨wB, hwB⟩ : ∃ X, X = wA.drew := ⟨_, rfl⟩
  rw [← hwB] at HB1 hHeld ⊢
  clear hwB HB0
  have hH0 := Lib.hid hHeld
  refine wpAnyH_take (i := 0) (oi := _) (v := ?_) rfl (by kernel_rfl) (by kernel_rfl) (by kernel_rfl) (fun _ _ _ h => h) (Or.inl ⟨by rfl, ?_⟩) (by assumption) ?_
  rotate_left
  · (intro W hSw; (try dsimp only at hSw); go_simp; try with_reducible rfl)
  try simp only [Act.put, List.getElem_toArray, List.getElem_cons_zero, List.setIfInBounds_toArray, List.set_cons_zero, List.set_cons_succ]
  refine wpAnyH_take (i := 1) (oi := _) (v := ?_) rfl (by kernel_rfl) (by kernel_rfl) (by kernel_rfl) (fun _ _ _ h => h) (Or.inl ⟨by rfl, ?_⟩) (by assumption) ?_
  rotate_left
  · (intro W hSw; (try dsimp only at hSw); go_simp; try with_reducible rfl)
  try simp only [Act.put, List.getElem_toArray, List.getElem_cons_succ, List.getElem_cons_zero, List.setIfInBounds_toArray, List.set_cons_zero, List.set_cons_succ]
  refine wpAnyH_take (i := 2) (oi := _) (v := ?_) rfl (by kernel_rfl) (by kernel_rfl) (by kernel_rfl) (fun _ _ _ h => h) (Or.inl ⟨by rfl, ?_⟩) (by assumption) ?_
  rotate_left
  · (intro V hSw; have q := fun i => cell_of_row V w.heap.size i _ _ (0, 0) hSw; have q0 := q 0; have q1 := q 1; have q2 := q 2; have q3 := q 3; have q4 := q 4; have q5 := q 5; have q6 := q 6; have q7 := q 7; have q8 := q 8; clear q hSw; go_simp; try with_reducible rfl)
  try simp only [Act.put, List.getElem_toArray, List.getElem_cons_succ, List.getElem_cons_zero, List.setIfInBounds_toArray, List.set_cons_zero, List.set_cons_succ]
  refine wpAnyH_take (i := 3) (oi := _) (v := ?_) rfl (by kernel_rfl) (by kernel_rfl) (by kernel_rfl) (fun _ _ _ h => h) (Or.inl ⟨by rfl, ?_⟩) (by assumption) ?_
  rotate_left
  · (intro W hSw; (try dsimp only at hSw); go_simp; try with_reducible rfl)
  try simp only [Act.put, List.getElem_toArray, List.getElem_cons_succ, List.getElem_cons_zero, List.setIfInBounds_toArray, List.set_cons_zero, List.set_cons_succ]
  refine wpAnyH_take (i := 4) (oi := _) (v := ?_) rfl (by kernel_rfl) (by kernel_rfl) (by kernel_rfl) (fun _ _ _ h => h) (Or.inl ⟨by rfl, ?_⟩) (by assumption) ?_
  rotate_left
  · (intro W hSw; (try dsimp only at hSw); go_simp; try with_reducible rfl)
  try simp only [Act.put, List.getElem_toArray, List.getElem_cons_succ, List.getElem_cons_zero, List.setIfInBounds_toArray, List.set_cons_zero, List.set_cons_succ]
  refine wpAnyH_take (i := 5) (oi := _) (v := ?_) rfl (by kernel_rfl) (by kernel_rfl) (by kernel_rfl) (fun _ _ _ h => h) (Or.inl ⟨by rfl, ?_⟩) (by assumption) ?_
  rotate_left
  · (intro V hSw; have q := fun i => cell_of_row V w.heap.size i _ _ (0, 0) hSw; have q0 := q 0; have q1 := q 1; have q2 := q 2; have q3 := q 3; have q4 := q 4; have q5 := q 5; have q6 := q 6; have q7 := q 7; have q8 := q 8; clear q hSw; go_simp; try with_reducible rfl)
  try simp only [Act.put, List.getElem_toArray, List.getElem_cons_succ, List.getElem_cons_zero, List.setIfInBounds_toArray, List.set_cons_zero, List.set_cons_succ]
  refine wpAnyH_ready (rs := [6]) (by kernel_rfl) (by simp) ?_
  refine AllReadyH.cons rfl (fun K hK => ?_) AllReadyH.nil
  simp only [List.getElem_toArray, List.getElem_cons_succ, List.getElem_cons_zero]
  rw [if_pos (by rfl)]
  go_simp
  refine hK.out _ _ (al_of hH0.out) (fun hHeld => ?_)
  clear hK K
  try simp only [Act.put, List.getElem_toArray, List.getElem_cons_succ, List.getElem_cons_zero, List.setIfInBounds_toArray, List.set_cons_zero, List.set_cons_succ]
  have hsz := HB1.out.1
  try rw [hsz]
  refine wpAnyH_ready (rs := [7]) (by kernel_rfl) (by simp) ?_
  refine AllReadyH.cons rfl (fun K hK => ?_) AllReadyH.nil
  simp only [List.getElem_toArray, List.getElem_cons_succ, List.getElem_cons_zero]
  rw [if_pos (by rfl)]
  go_simp
  refine hK.out _ _ (al_of hH0.out) (fun hHeld => ?_)
  clear hK K
  try simp only [Act.put, List.getElem_toArray, List.getElem_cons_succ, List.getElem_cons_zero, List.setIfInBounds_toArray, List.set_cons_zero, List.set_cons_succ]
  refine wpAnyH_take (i := 8) (oi := _) (v := ?_) rfl (by kernel_rfl) (by kernel_rfl) (by kernel_rfl) (fun _ _ _ h => h) (Or.inl ⟨by rfl, ?_⟩) (by assumption) ?_
  rotate_left
  · (intro W hSw; (try dsimp only at hSw); go_simp; try with_reducible rfl)
  try simp only [Act.put, List.getElem_toArray, List.getElem_cons_succ, List.getElem_cons_zero, List.setIfInBounds_toArray, List.set_cons_zero, List.set_cons_succ]
  refine wpAnyH_done (by kernel_rfl) ?_ _
  have H := Lib.hid (HMK.out wB hH0.out HB1.out.1 HB1.out.2)
  obtain ⟨w0, hw0⟩ : ∃ X, X = wB.alloc (.cells #[.int .i64 x.c, .int .i64 x.f, .int .u64 x.s, .int .u64 x.t, .string x.d] TPk) := ⟨_, rfl⟩
  rw [← hw0] at H
  go_upto_region 2 with fail
  try rw [hsz]
  rw [← hw0]
  clear hw0 hsz HMK HB1 hH0 hHeld
  have p := fun i => cell_of_row w0 w.heap.size i _ _ (0, 0) H.out.b0
  have p0 := p 0; have p1 := p 1; have p2 := p 2; have p3 := p 3; have p4 := p 4; have p5 := p 5; have p6 := p 6; have p7 := p 7; have p8 := p 8
  clear p
  go_wp2_with fail
  refine H.out.sent.mono ?_
  rintro _ w1 ⟨rfl, h1⟩
  have K := Lib.hid h1
  rw [← HC1.out]
  clear h1 H p0 p1 p2 p3 p4 p5 p6 p7 p8
  by_cases h_1 : c1 = 0
  · rw [decide_eq_true h_1]
    go_wp2
    go_ret
    exact ⟨by rw [HR.out, if_pos h_1]; rfl, K.out.bel⟩
  · rw [decide_eq_false h_1]
    by_cases h_5 : x.k = 5
    · have HH := Lib.hid h_5
      have k5 : (x.k == 5) = true := by simpa using h_5
      go_wp2
      go_ret
      exact ⟨by rw [HR.out, if_neg h_1, if_pos HH.out]; rfl, K.out.bel⟩
    · have k5 : (x.k == 5) = false := by simpa using h_5
      have z := fun i => cell_of_row w1 (w.heap.size + 1) i _ _ (0, 0) K.out.b1
      have z0 := z 0; have z1 := z 1; have z2 := z 2; have z3 := z 3; have z4 := z 4
      clear z
      go_wp2_with fail
      have Ka := Lib.hid (K.out.alloc (.cells #[.int .i64 3, .int .i64 4] 3))
      have Kk := Lib.hid (heap_alloc_new w1 (.cells #[.int .i64 3, .int .i64 4] 3))
      clear z0 z1 z2 z3 z4 K
      refine (of_any x 2 _).mono ?_
      rintro _ w1b ⟨Y, Z, rfl, hY, hZ, bb⟩
      have Kb := Lib.hid (Ka.out.below bb)
      have Ky := Lib.hid (And.intro hY (And.intro hZ ((bb.block _ (lt_of Kk.out)).trans Kk.out)))
      clear hY hZ bb Ka Kk
      go_wp2_with fail
      refine (Kb.out.of2 3 4 Ky.out.1 Ky.out.2.1 Ky.out.2.2).mono ?_
      rintro _ w1c ⟨rfl, hc⟩
      have Kc := Lib.hid hc
      rw [← HC3.out]
      clear hc Kb Ky
      by_cases h_c3 : 0 < c3
      · have hi_c3 : (0 : Int) < (c3 : Int) := by omega
        go_wp2
        go_ret
        exact ⟨by rw [HR.out, if_neg h_1, if_neg h_5, if_pos h_c3]; rfl, Kc.out.bel⟩
      · have hi_c3 : ¬ (0 : Int) < (c3 : Int) := by omega
        have hd_c3 : decide ((0 : Int) < (c3 : Int)) = false := decide_eq_false hi_c3
        by_cases h_4 : x.k = 4
        · have HH := Lib.hid h_4
          have k4 : (x.k == 4) = true := by simpa using h_4
          clear h_5 h_4
          have h_5 : ¬ x.k = 5 := by rw [HH.out]; decide
          have H5 := Lib.hid h_5
          clear h_5
          have z := fun i => cell_of_row w1c (w.heap.size + 1) i _ _ (0, 0) Kc.out.b1
          have z0 := z 0; have z1 := z 1; have z2 := z 2; have z3 := z 3; have z4 := z 4
          clear z
          go_wp2_with fail
          have Kca := Lib.hid (Kc.out.alloc (.cells #[.int .i64 2] 3))
          have Kck := Lib.hid (heap_alloc_new w1c (.cells #[.int .i64 2] 3))
          clear z0 z1 z2 z3 z4 Kc
          refine (of_any x 1 _).mono ?_
          rintro _ w1cb ⟨Y, Z, rfl, hY, hZ, bb⟩
          have Kcb := Lib.hid (Kca.out.below bb)
          have Kcy := Lib.hid (And.intro hY (And.intro hZ ((bb.block _ (lt_of Kck.out)).trans Kck.out)))
          clear hY hZ bb Kca Kck
          go_wp2_with fail
          refine (Kcb.out.of1 2 Kcy.out.1 Kcy.out.2.1 Kcy.out.2.2).mono ?_
          rintro _ w1cc ⟨rfl, hc⟩
          have Kcc := Lib.hid hc
          rw [← HC2.out]
          clear hc Kcb Kcy
          by_cases h_c2 : 0 < c2
          · have hi_c2 : (0 : Int) < (c2 : Int) := by omega
            go_wp2
            go_ret
            exact ⟨by rw [HR.out, if_neg h_1, if_neg H5.out, if_neg h_c3, if_pos HH.out, if_pos h_c2]; rfl, Kcc.out.bel⟩
          · have hi_c2 : ¬ (0 : Int) < (c2 : Int) := by omega
            have hd_c2 : decide ((0 : Int) < (c2 : Int)) = false := decide_eq_false hi_c2
            go_wp2
            go_ret
            exact ⟨by rw [HR.out, if_neg h_1, if_neg H5.out, if_neg h_c3, if_pos HH.out, if_neg h_c2]; rfl, Kcc.out.bel⟩
        · have k4 : (x.k == 4) = false := by simpa using h_4
          go_upto_region 12 with fail
          have hbo := HBO.out _ Kc.out.bel
          cases oc with
          | false =>
            refine wp_region_held_drew (S := fun V => V.heap[w.heap.size]? = some (.cells #[.int .i64 x.sd, .int .i64 x.k, .int .u64 x.h, .int .i64 x.c, .int .i64 x.f, .int .u64 x.s, .int .u64 x.t, .string x.d, .string x.a] TMk (0, 0)) ∧ V.heap[w.heap.size + 1]? = some (.cells #[.int .i64 x.c, .int .i64 x.f, .int .u64 x.s, .int .u64 x.t, .string x.d] TPk (0, 0)) ∧ V.cell? ⟨ob, oo + ch, none⟩ = some (.bool false)) (by kernel_rfl) ⟨Kc.out.b0, Kc.out.b1, hbo⟩ (fun hHeld => ?_)
            have Kcd := Lib.hid Kc.out.drew
            obtain ⟨w1cd, hw1cd⟩ : ∃ X, X = w1c.drew := ⟨_, rfl⟩
            rw [← hw1cd] at Kcd hHeld ⊢
            clear hw1cd
            refine wpAnyH_take (i := 0) (oi := _) (v := ?_) rfl (by kernel_rfl) (by kernel_rfl) (by kernel_rfl) (fun _ _ _ h => h) (Or.inl ⟨by rfl, ?_⟩) (by assumption) ?_
            rotate_left
            · (intro W hSw; (try dsimp only at hSw); go_simp; try with_reducible rfl)
            try simp only [Act.put, List.getElem_toArray, List.getElem_cons_zero, List.setIfInBounds_toArray, List.set_cons_zero, List.set_cons_succ]
            refine wpAnyH_take (i := 1) (oi := _) (v := ?_) rfl (by kernel_rfl) (by kernel_rfl) (by kernel_rfl) (fun _ _ _ h => h) (Or.inl ⟨by rfl, ?_⟩) (by assumption) ?_
            rotate_left
            · (intro W hSw; (try dsimp only at hSw); go_simp; try with_reducible rfl)
            try simp only [Act.put, List.getElem_toArray, List.getElem_cons_succ, List.getElem_cons_zero, List.setIfInBounds_toArray, List.set_cons_zero, List.set_cons_succ]
            refine wpAnyH_take (i := 2) (oi := _) (v := ?_) rfl (by kernel_rfl) (by kernel_rfl) (by kernel_rfl) (fun _ _ _ h => h) (Or.inl ⟨by rfl, ?_⟩) (by assumption) ?_
            rotate_left
            · (intro V hSw; have q := fun i => cell_of_row V (w.heap.size + 1) i _ _ (0, 0) hSw.2.1; have q0 := q 0; have q1 := q 1; have q2 := q 2; have q3 := q 3; have q4 := q 4; clear q hSw; go_simp; try with_reducible rfl)
            try simp only [Act.put, List.getElem_toArray, List.getElem_cons_succ, List.getElem_cons_zero, List.setIfInBounds_toArray, List.set_cons_zero, List.set_cons_succ]
            refine wpAnyH_take (i := 3) (oi := _) (v := ?_) rfl (by kernel_rfl) (by kernel_rfl) (by kernel_rfl) (fun _ _ _ h => h) (Or.inl ⟨by rfl, ?_⟩) (by assumption) ?_
            rotate_left
            · (intro V hSw; clear hSw; have e := HXC.out; go_simp; try with_reducible rfl)
            try simp only [Act.put, List.getElem_toArray, List.getElem_cons_succ, List.getElem_cons_zero, List.setIfInBounds_toArray, List.set_cons_zero, List.set_cons_succ]
            refine wpAnyH_take (i := 4) (oi := _) (v := ?_) rfl (by kernel_rfl) (by kernel_rfl) (by kernel_rfl) (fun _ _ _ h => h) (Or.inl ⟨by rfl, ?_⟩) (by assumption) ?_
            rotate_left
            · (intro V hSw; have q := hSw.2.2; clear hSw; go_simp; try with_reducible rfl)
            try simp only [Act.put, List.getElem_toArray, List.getElem_cons_succ, List.getElem_cons_zero, List.setIfInBounds_toArray, List.set_cons_zero, List.set_cons_succ]
            refine wpAnyH_take (i := 5) (oi := _) (v := ?_) rfl (by kernel_rfl) (by kernel_rfl) (by kernel_rfl) (fun _ _ _ h => h) (Or.inl ⟨by rfl, ?_⟩) (by assumption) ?_
            rotate_left
            · (intro W hSw; (try dsimp only at hSw); go_simp; try with_reducible rfl)
            try simp only [Act.put, List.getElem_toArray, List.getElem_cons_succ, List.getElem_cons_zero, List.setIfInBounds_toArray, List.set_cons_zero, List.set_cons_succ]
            refine wpAnyH_take (i := 6) (oi := _) (v := undef) rfl (by kernel_rfl) (by kernel_rfl) (by kernel_rfl) (fun _ _ _ h => h) (Or.inr ⟨by rfl, rfl⟩) (by assumption) ?_
            try simp only [Act.put, List.getElem_toArray, List.getElem_cons_succ, List.getElem_cons_zero, List.setIfInBounds_toArray, List.set_cons_zero, List.set_cons_succ]
            refine wpAnyH_take (i := 7) (oi := _) (v := undef) rfl (by kernel_rfl) (by kernel_rfl) (by kernel_rfl) (fun _ _ _ h => h) (Or.inr ⟨by rfl, rfl⟩) (by assumption) ?_
            try simp only [Act.put, List.getElem_toArray, List.getElem_cons_succ, List.getElem_cons_zero, List.setIfInBounds_toArray, List.set_cons_zero, List.set_cons_succ]
            refine wpAnyH_take (i := 8) (oi := _) (v := undef) rfl (by kernel_rfl) (by kernel_rfl) (by kernel_rfl) (fun _ _ _ h => h) (Or.inr ⟨by rfl, rfl⟩) (by assumption) ?_
            try simp only [Act.put, List.getElem_toArray, List.getElem_cons_succ, List.getElem_cons_zero, List.setIfInBounds_toArray, List.set_cons_zero, List.set_cons_succ]
            refine wpAnyH_take (i := 9) (oi := _) (v := undef) rfl (by kernel_rfl) (by kernel_rfl) (by kernel_rfl) (fun _ _ _ h => h) (Or.inr ⟨by rfl, rfl⟩) (by assumption) ?_
            try simp only [Act.put, List.getElem_toArray, List.getElem_cons_succ, List.getElem_cons_zero, List.setIfInBounds_toArray, List.set_cons_zero, List.set_cons_succ]
            refine wpAnyH_take (i := 10) (oi := _) (v := undef) rfl (by kernel_rfl) (by kernel_rfl) (by kernel_rfl) (fun _ _ _ h => h) (Or.inr ⟨by rfl, rfl⟩) (by assumption) ?_
            try simp only [Act.put, List.getElem_toArray, List.getElem_cons_succ, List.getElem_cons_zero, List.setIfInBounds_toArray, List.set_cons_zero, List.set_cons_succ]
            refine wpAnyH_take (i := 11) (oi := _) (v := undef) rfl (by kernel_rfl) (by kernel_rfl) (by kernel_rfl) (fun _ _ _ h => h) (Or.inr ⟨by rfl, rfl⟩) (by assumption) ?_
            try simp only [Act.put, List.getElem_toArray, List.getElem_cons_succ, List.getElem_cons_zero, List.setIfInBounds_toArray, List.set_cons_zero, List.set_cons_succ]
            refine wpAnyH_take (i := 12) (oi := _) (v := ?_) rfl (by kernel_rfl) (by kernel_rfl) (by kernel_rfl) (fun _ _ _ h => h) (Or.inl ⟨by rfl, ?_⟩) (by assumption) ?_
            rotate_left
            · (intro W hSw; (try dsimp only at hSw); go_simp; try with_reducible rfl)
            try simp only [Act.put, List.getElem_toArray, List.getElem_cons_succ, List.getElem_cons_zero, List.setIfInBounds_toArray, List.set_cons_zero, List.set_cons_succ]
            refine wpAnyH_take (i := 13) (oi := _) (v := ?_) rfl (by kernel_rfl) (by kernel_rfl) (by kernel_rfl) (fun _ _ _ h => h) (Or.inl ⟨by rfl, ?_⟩) (by assumption) ?_
            rotate_left
            · (intro W hSw; (try dsimp only at hSw); go_simp; try with_reducible rfl)
            try simp only [Act.put, List.getElem_toArray, List.getElem_cons_succ, List.getElem_cons_zero, List.setIfInBounds_toArray, List.set_cons_zero, List.set_cons_succ]
            refine wpAnyH_done (by kernel_rfl) ?_ _
            go_wp2_with fail
            refine Kcd.out.ack.mono ?_
            rintro _ wz ⟨rfl, hz⟩
            have KZ := Lib.hid hz
            rw [← HCA.out]
            clear hz
            by_cases h_a : ca = 0
            · have ha1 : (ca : Int) = 0 := by omega
              have ha2 : ((ca : Int) == 0) = true := by simpa using ha1
              go_wp2
              go_ret
              exact ⟨by rw [HR.out, if_neg h_1, if_neg h_5, if_neg h_c3, if_neg h_4, if_neg (by first | (rintro ⟨e, _⟩; cases e; done) | exact fun e => e.2 HS.out.1), if_pos h_a]; rfl, KZ.out.bel⟩
            · have ha1 : ¬ (ca : Int) = 0 := by omega
              have ha2 : ((ca : Int) == 0) = false := by simpa using ha1
              go_wp2
              go_ret
              exact ⟨by rw [HR.out, if_neg h_1, if_neg h_5, if_neg h_c3, if_neg h_4, if_neg (by first | (rintro ⟨e, _⟩; cases e; done) | exact fun e => e.2 HS.out.1), if_neg h_a]; rfl, KZ.out.bel⟩
          | true =>
            refine wp_region_held_drew (S := fun V => V.heap[w.heap.size]? = some (.cells #[.int .i64 x.sd, .int .i64 x.k, .int .u64 x.h, .int .i64 x.c, .int .i64 x.f, .int .u64 x.s, .int .u64 x.t, .string x.d, .string x.a] TMk (0, 0)) ∧ V.heap[w.heap.size + 1]? = some (.cells #[.int .i64 x.c, .int .i64 x.f, .int .u64 x.s, .int .u64 x.t, .string x.d] TPk (0, 0)) ∧ V.cell? ⟨ob, oo + ch, none⟩ = some (.bool true)) (by kernel_rfl) ⟨Kc.out.b0, Kc.out.b1, hbo⟩ (fun hHeld => ?_)
            have Kcd := Lib.hid Kc.out.drew
            obtain ⟨w1cd, hw1cd⟩ : ∃ X, X = w1c.drew := ⟨_, rfl⟩
            rw [← hw1cd] at Kcd hHeld ⊢
            clear hw1cd
            refine wpAnyH_take (i := 0) (oi := _) (v := ?_) rfl (by kernel_rfl) (by kernel_rfl) (by kernel_rfl) (fun _ _ _ h => h) (Or.inl ⟨by rfl, ?_⟩) (by assumption) ?_
            rotate_left
            · (intro W hSw; (try dsimp only at hSw); go_simp; try with_reducible rfl)
            try simp only [Act.put, List.getElem_toArray, List.getElem_cons_zero, List.setIfInBounds_toArray, List.set_cons_zero, List.set_cons_succ]
            refine wpAnyH_take (i := 1) (oi := _) (v := ?_) rfl (by kernel_rfl) (by kernel_rfl) (by kernel_rfl) (fun _ _ _ h => h) (Or.inl ⟨by rfl, ?_⟩) (by assumption) ?_
            rotate_left
            · (intro W hSw; (try dsimp only at hSw); go_simp; try with_reducible rfl)
            try simp only [Act.put, List.getElem_toArray, List.getElem_cons_succ, List.getElem_cons_zero, List.setIfInBounds_toArray, List.set_cons_zero, List.set_cons_succ]
            refine wpAnyH_take (i := 2) (oi := _) (v := ?_) rfl (by kernel_rfl) (by kernel_rfl) (by kernel_rfl) (fun _ _ _ h => h) (Or.inl ⟨by rfl, ?_⟩) (by assumption) ?_
            rotate_left
            · (intro V hSw; have q := fun i => cell_of_row V (w.heap.size + 1) i _ _ (0, 0) hSw.2.1; have q0 := q 0; have q1 := q 1; have q2 := q 2; have q3 := q 3; have q4 := q 4; clear q hSw; go_simp; try with_reducible rfl)
            try simp only [Act.put, List.getElem_toArray, List.getElem_cons_succ, List.getElem_cons_zero, List.setIfInBounds_toArray, List.set_cons_zero, List.set_cons_succ]
            refine wpAnyH_take (i := 3) (oi := _) (v := ?_) rfl (by kernel_rfl) (by kernel_rfl) (by kernel_rfl) (fun _ _ _ h => h) (Or.inl ⟨by rfl, ?_⟩) (by assumption) ?_
            rotate_left
            · (intro V hSw; clear hSw; have e := HXC.out; go_simp; try with_reducible rfl)
            try simp only [Act.put, List.getElem_toArray, List.getElem_cons_succ, List.getElem_cons_zero, List.setIfInBounds_toArray, List.set_cons_zero, List.set_cons_succ]
            refine wpAnyH_take (i := 4) (oi := _) (v := ?_) rfl (by kernel_rfl) (by kernel_rfl) (by kernel_rfl) (fun _ _ _ h => h) (Or.inl ⟨by rfl, ?_⟩) (by assumption) ?_
            rotate_left
            · (intro V hSw; have q := hSw.2.2; clear hSw; go_simp; try with_reducible rfl)
            try simp only [Act.put, List.getElem_toArray, List.getElem_cons_succ, List.getElem_cons_zero, List.setIfInBounds_toArray, List.set_cons_zero, List.set_cons_succ]
            refine wpAnyH_take (i := 5) (oi := _) (v := ?_) rfl (by kernel_rfl) (by kernel_rfl) (by kernel_rfl) (fun _ _ _ h => h) (Or.inl ⟨by rfl, ?_⟩) (by assumption) ?_
            rotate_left
            · (intro W hSw; (try dsimp only at hSw); go_simp; try with_reducible rfl)
            try simp only [Act.put, List.getElem_toArray, List.getElem_cons_succ, List.getElem_cons_zero, List.setIfInBounds_toArray, List.set_cons_zero, List.set_cons_succ]
            refine wpAnyH_take (i := 6) (oi := _) (v := ?_) rfl (by kernel_rfl) (by kernel_rfl) (by kernel_rfl) (fun _ _ _ h => h) (Or.inl ⟨by rfl, ?_⟩) (by assumption) ?_
            rotate_left
            · (intro W hSw; (try dsimp only at hSw); go_simp; try with_reducible rfl)
            try simp only [Act.put, List.getElem_toArray, List.getElem_cons_succ, List.getElem_cons_zero, List.setIfInBounds_toArray, List.set_cons_zero, List.set_cons_succ]
            refine wpAnyH_take (i := 7) (oi := _) (v := ?_) rfl (by kernel_rfl) (by kernel_rfl) (by kernel_rfl) (fun _ _ _ h => h) (Or.inl ⟨by rfl, ?_⟩) (by assumption) ?_
            rotate_left
            · (intro V hSw; have q := fun i => cell_of_row V (w.heap.size + 1) i _ _ (0, 0) hSw.2.1; have q0 := q 0; have q1 := q 1; have q2 := q 2; have q3 := q 3; have q4 := q 4; clear q hSw; go_simp; try with_reducible rfl)
            try simp only [Act.put, List.getElem_toArray, List.getElem_cons_succ, List.getElem_cons_zero, List.setIfInBounds_toArray, List.set_cons_zero, List.set_cons_succ]
            refine wpAnyH_take (i := 8) (oi := _) (v := ?_) rfl (by kernel_rfl) (by kernel_rfl) (by kernel_rfl) (fun _ _ _ h => h) (Or.inl ⟨by rfl, ?_⟩) (by assumption) ?_
            rotate_left
            · (intro V hSw; have q := fun i => cell_of_row V w.heap.size i _ _ (0, 0) hSw.1; have q0 := q 0; have q1 := q 1; have q2 := q 2; have q3 := q 3; have q4 := q 4; have q5 := q 5; have q6 := q 6; have q7 := q 7; have q8 := q 8; clear q hSw; go_simp; try with_reducible rfl)
            try simp only [Act.put, List.getElem_toArray, List.getElem_cons_succ, List.getElem_cons_zero, List.setIfInBounds_toArray, List.set_cons_zero, List.set_cons_succ]
            refine wpAnyH_take (i := 9) (oi := _) (v := ?_) rfl (by kernel_rfl) (by kernel_rfl) (by kernel_rfl) (fun _ _ _ h => h) (Or.inl ⟨by rfl, ?_⟩) (by assumption) ?_
            rotate_left
            · (intro W hSw; (try dsimp only at hSw); go_simp; try with_reducible rfl)
            try simp only [Act.put, List.getElem_toArray, List.getElem_cons_succ, List.getElem_cons_zero, List.setIfInBounds_toArray, List.set_cons_zero, List.set_cons_succ]
            refine wpAnyH_ready (rs := [10]) (by kernel_rfl) (by simp) ?_
            refine AllReadyH.cons rfl (fun K hK => ?_) AllReadyH.nil
            simp only [List.getElem_toArray, List.getElem_cons_succ, List.getElem_cons_zero]
            rw [if_pos (by rfl)]
            go_simp
            refine Kcd.out.next.mono ?_
            rintro _ w1ce ⟨rfl, he⟩
            have hS2 : w1ce.heap[w.heap.size]? = some (.cells #[.int .i64 x.sd, .int .i64 x.k, .int .u64 x.h, .int .i64 x.c, .int .i64 x.f, .int .u64 x.s, .int .u64 x.t, .string x.d, .string x.a] TMk (0, 0)) ∧ w1ce.heap[w.heap.size + 1]? = some (.cells #[.int .i64 x.c, .int .i64 x.f, .int .u64 x.s, .int .u64 x.t, .string x.d] TPk (0, 0)) ∧ w1ce.cell? ⟨ob, oo + ch, none⟩ = some (.bool true) := ⟨he.b0, he.b1, HBO.out _ he.bel⟩
            have Kce := Lib.hid he
            rw [← HNX.out]
            clear he
            go_wp2_with fail
            refine hK.out _ _ hS2 (fun hHeld => ?_)
            clear hK K
            try simp only [Act.put, List.getElem_toArray, List.getElem_cons_succ, List.getElem_cons_zero, List.setIfInBounds_toArray, List.set_cons_zero, List.set_cons_succ]
            by_cases hs : x.s = (nx : Int)
            · have s1 : (x.s == (nx : Int)) = true ∧ (x.s != (nx : Int)) = false := by simpa using hs
              have HS := Lib.hid (And.intro hs s1)
              clear hs s1
              refine wpAnyH_take (i := 11) (oi := _) (v := ?_) rfl (by kernel_rfl) (by kernel_rfl) (by kernel_rfl) (fun _ _ _ h => h) (Or.inl ⟨by rfl, ?_⟩) (by assumption) ?_
              rotate_left
              · (intro V hSw; clear hSw; have s0 := HS.out.1; have s1 := HS.out.2.1; have s2 := HS.out.2.2; go_simp; try with_reducible rfl)
              try simp only [Act.put, List.getElem_toArray, List.getElem_cons_succ, List.getElem_cons_zero, List.setIfInBounds_toArray, List.set_cons_zero, List.set_cons_succ]
              refine wpAnyH_take (i := 12) (oi := _) (v := ?_) rfl (by kernel_rfl) (by kernel_rfl) (by kernel_rfl) (fun _ _ _ h => h) (Or.inl ⟨by rfl, ?_⟩) (by assumption) ?_
              rotate_left
              · (intro W hSw; (try dsimp only at hSw); go_simp; try with_reducible rfl)
              try simp only [Act.put, List.getElem_toArray, List.getElem_cons_succ, List.getElem_cons_zero, List.setIfInBounds_toArray, List.set_cons_zero, List.set_cons_succ]
              refine wpAnyH_take (i := 13) (oi := _) (v := ?_) rfl (by kernel_rfl) (by kernel_rfl) (by kernel_rfl) (fun _ _ _ h => h) (Or.inl ⟨by rfl, ?_⟩) (by assumption) ?_
              rotate_left
              · (intro W hSw; (try dsimp only at hSw); go_simp; try with_reducible rfl)
              try simp only [Act.put, List.getElem_toArray, List.getElem_cons_succ, List.getElem_cons_zero, List.setIfInBounds_toArray, List.set_cons_zero, List.set_cons_succ]
              refine wpAnyH_done (by kernel_rfl) ?_ _
              go_wp2_with fail
              refine Kce.out.ack.mono ?_
              rintro _ wz ⟨rfl, hz⟩
              have KZ := Lib.hid hz
              rw [← HCA.out]
              clear hz
              by_cases h_a : ca = 0
              · have ha1 : (ca : Int) = 0 := by omega
                have ha2 : ((ca : Int) == 0) = true := by simpa using ha1
                go_wp2
                go_ret
                exact ⟨by rw [HR.out, if_neg h_1, if_neg h_5, if_neg h_c3, if_neg h_4, if_neg (by first | (rintro ⟨e, _⟩; cases e; done) | exact fun e => e.2 HS.out.1), if_pos h_a]; rfl, KZ.out.bel⟩
              · have ha1 : ¬ (ca : Int) = 0 := by omega
                have ha2 : ((ca : Int) == 0) = false := by simpa using ha1
                go_wp2
                go_ret
                exact ⟨by rw [HR.out, if_neg h_1, if_neg h_5, if_neg h_c3, if_neg h_4, if_neg (by first | (rintro ⟨e, _⟩; cases e; done) | exact fun e => e.2 HS.out.1), if_neg h_a]; rfl, KZ.out.bel⟩
            · have s1 : (x.s == (nx : Int)) = false ∧ (x.s != (nx : Int)) = true := by simpa using hs
              have HS := Lib.hid (And.intro hs s1)
              clear hs s1
              refine wpAnyH_take (i := 11) (oi := _) (v := ?_) rfl (by kernel_rfl) (by kernel_rfl) (by kernel_rfl) (fun _ _ _ h => h) (Or.inl ⟨by rfl, ?_⟩) (by assumption) ?_
              rotate_left
              · (intro V hSw; clear hSw; have s0 := HS.out.1; have s1 := HS.out.2.1; have s2 := HS.out.2.2; go_simp; try with_reducible rfl)
              try simp only [Act.put, List.getElem_toArray, List.getElem_cons_succ, List.getElem_cons_zero, List.setIfInBounds_toArray, List.set_cons_zero, List.set_cons_succ]
              refine wpAnyH_take (i := 12) (oi := _) (v := ?_) rfl (by kernel_rfl) (by kernel_rfl) (by kernel_rfl) (fun _ _ _ h => h) (Or.inl ⟨by rfl, ?_⟩) (by assumption) ?_
              rotate_left
              · (intro W hSw; (try dsimp only at hSw); go_simp; try with_reducible rfl)
              try simp only [Act.put, List.getElem_toArray, List.getElem_cons_succ, List.getElem_cons_zero, List.setIfInBounds_toArray, List.set_cons_zero, List.set_cons_succ]
              refine wpAnyH_take (i := 13) (oi := _) (v := ?_) rfl (by kernel_rfl) (by kernel_rfl) (by kernel_rfl) (fun _ _ _ h => h) (Or.inl ⟨by rfl, ?_⟩) (by assumption) ?_
              rotate_left
              · (intro W hSw; (try dsimp only at hSw); go_simp; try with_reducible rfl)
              try simp only [Act.put, List.getElem_toArray, List.getElem_cons_succ, List.getElem_cons_zero, List.setIfInBounds_toArray, List.set_cons_zero, List.set_cons_succ]
              refine wpAnyH_done (by kernel_rfl) ?_ _
              go_wp2
              go_ret
              exact ⟨by rw [HR.out, if_neg h_1, if_neg h_5, if_neg h_c3, if_neg h_4, if_pos ⟨by first | trivial | rfl, HS.out.1⟩]; rfl, Kce.out.bel⟩
end Go.Proofs.Ytfojmjgnndlfnab.Tr
