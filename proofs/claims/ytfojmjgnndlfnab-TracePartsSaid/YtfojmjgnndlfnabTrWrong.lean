/- trace.Wrong. -/
import Derived.Test.YtfojmjgnndlfnabTrRecv
import Derived.Test.YtfojmjgnndlfnabTrTold
namespace Go.Proofs.Ytfojmjgnndlfnab.Tr
open Go Go.RowKit
set_option linter.unusedVariables false

structure WY (w V : World) (O : Option Addr) (on : Nat) (ord : Nat → Bool) (A : Option Addr) (n cap : Nat) (f : Nat → Mk) (x : Mk) : Prop where
  b0 : V.heap[w.heap.size]? = some (.cells #[.slice A n cap] TMs (0, 0))
  b1 : V.heap[w.heap.size + 1]? = some (.cells #[.int .i64 x.sd, .int .i64 x.k, .int .u64 x.h, .int .i64 x.c, .int .i64 x.f, .int .u64 x.s, .int .u64 x.t, .string x.d, .string x.a] TMk (0, 0))
  cx : Cx V O on ord A n f
  bel : Below w.heap.size w V
theorem WY.below {w V V' : World} {O A : Option Addr} {on n cap : Nat} {ord : Nat → Bool} {f : Nat → Mk} {x : Mk} (h : WY w V O on ord A n cap f x) (k : Below V.heap.size V V') : WY w V' O on ord A n cap f x :=
  ⟨(k.block _ (lt_of h.b0)).trans h.b0, (k.block _ (lt_of h.b1)).trans h.b1, h.cx.below k, h.bel.trans (k.mono h.bel.size)⟩
theorem WY.make {w : World} {O A : Option Addr} {on n cap : Nat} {ord : Nat → Bool} {f : Nat → Mk} {x : Mk} (hC : Cx w O on ord A n f) : WY w ((w.alloc (.cells #[.slice A n cap] TMs)).alloc (.cells #[.int .i64 x.sd, .int .i64 x.k, .int .u64 x.h, .int .i64 x.c, .int .i64 x.f, .int .u64 x.s, .int .u64 x.t, .string x.d, .string x.a] TMk)) O on ord A n cap f x := by
  have g1 := heap_alloc_new (w.alloc (.cells #[.slice A n cap] TMs)) (.cells #[.int .i64 x.sd, .int .i64 x.k, .int .u64 x.h, .int .i64 x.c, .int .i64 x.f, .int .u64 x.s, .int .u64 x.t, .string x.d, .string x.a] TMk)
  rw [show (w.alloc (.cells #[.slice A n cap] TMs)).heap.size = w.heap.size + 1 by simp] at g1
  have gb : Below w.heap.size w ((w.alloc (.cells #[.slice A n cap] TMs)).alloc (.cells #[.int .i64 x.sd, .int .i64 x.k, .int .u64 x.h, .int .i64 x.c, .int .i64 x.f, .int .u64 x.s, .int .u64 x.t, .string x.d, .string x.a] TMk)) := ((Below.refl _ _).alloc (Nat.le_refl _) _).alloc (by simp) _
  exact ⟨al_of (heap_alloc_new w _), g1, hC.below gb, gb⟩
theorem formed_ord {on : Nat} {x : Mk} (h : formedB on x = true) : 0 ≤ x.c ∧ x.c < (on : Int) := by
  unfold formedB eright pright at h
  simp only [Bool.and_eq_true, decide_eq_true_eq] at h
  exact ⟨h.1.2.1.1.1, h.2⟩
set_option maxRecDepth 20000 in
set_option maxHeartbeats 4000000 in
theorem wrong_any (x : Mk) {w : World} {O A : Option Addr} {on ocap n cap : Nat} {ord : Nat → Bool} {f : Nat → Mk} (hC : Cx w O on ord A n f) :
    Calls Try.prog 7 #[.slice O on ocap, .slice A n cap, .agg #[.int .i64 x.sd, .int .i64 x.k, .int .u64 x.h, .int .i64 x.c, .int .i64 x.f, .int .u64 x.s, .int .u64 x.t, .string x.d, .string x.a]] w fun e w' => e = .returned (.int .i64 (wrongF ord on f n x)) ∧ Below w.heap.size w w' := by
  have hRI : wrongF ord on f n x = (if formedB on x = false then 1 else if misB x = true then 2 else if shutB ord f n x = true then 3 else if x.k = 1 then (if x.s = (nxN f n x : Int) then 0 else 4) else if x.k = 2 then recI ord f n x else tolI ord f n x) := rfl
  have HFo := Lib.hid (fun V => formed_any x O on ocap V)
  have HMi := Lib.hid (fun V => mis_any x V)
  have HOr := Lib.hid (fun h => formed_ord (on := on) (x := x) h)
  have HSh := Lib.hid (fun (V : World) (h : WY w V O on ord A n cap f x) (hc : 0 ≤ x.c ∧ x.c < (on : Int)) => shut_any (ocap := ocap) x h.cx h.b0 hc)
  have HNx := Lib.hid (fun (V : World) (h : WY w V O on ord A n cap f x) => next_any (ocap := ocap) x h.cx h.b0)
  have HRe := Lib.hid (fun (V : World) (h : WY w V O on ord A n cap f x) (hc : 0 ≤ x.c ∧ x.c < (on : Int)) => recv_any (ocap := ocap) x h.cx h.b0 hc)
  have HTo := Lib.hid (fun (V : World) (h : WY w V O on ord A n cap f x) (hc : 0 ≤ x.c ∧ x.c < (on : Int)) => told_any (ocap := ocap) x h.cx h.b0 hc)
  generalize wrongF ord on f n x = r at hRI ⊢
  generalize formedB on x = fb at hRI HFo HOr
  generalize misB x = mb at hRI HMi
  generalize shutB ord f n x = sb at hRI HSh
  generalize nxN f n x = nx at hRI HNx
  generalize recI ord f n x = ri at hRI HRe
  generalize tolI ord f n x = ti at hRI HTo
  have HR := Lib.hid hRI
  clear hRI
  have hW := WY.make (x := x) (cap := cap) hC
  obtain ⟨w0, hw0⟩ : ∃ X, X = (w.alloc (.cells #[.slice A n cap] TMs)).alloc (.cells #[.int .i64 x.sd, .int .i64 x.k, .int .u64 x.h, .int .i64 x.c, .int .i64 x.f, .int .u64 x.s, .int .u64 x.t, .string x.d, .string x.a] TMk) := ⟨_, rfl⟩
  rw [← hw0] at hW
  have H := Lib.hid hW
  clear hW hC
  go_enter Try.func7, Try.ntmps7
  go_upto_region 2 with fail
  rw [← hw0]
  clear hw0
  have p := fun i => cell_of_row w0 (w.heap.size + 1) i _ _ (0, 0) H.out.b1
  have p0 := p 0; have p1 := p 1; have p2 := p 2; have p3 := p 3; have p4 := p 4; have p5 := p 5; have p6 := p 6; have p7 := p 7; have p8 := p 8
  have a0 := cell_of_row w0 w.heap.size 0 _ _ (0, 0) H.out.b0
  clear p
  go_wp2_with fail
  refine (HFo.out _).mono ?_
  rintro _ v1 ⟨rfl, k⟩
  have Hv1 := Lib.hid (H.out.below k)
  clear k p0 p1 p2 p3 p4 p5 p6 p7 p8 a0 H
  cases fb with
  | false =>
    go_wp2
    go_ret
    exact ⟨by rw [HR.out]; rfl, Hv1.out.bel⟩
  | true =>
    have HOD := Lib.hid (HOr.out rfl)
    have p := fun i => cell_of_row v1 (w.heap.size + 1) i _ _ (0, 0) Hv1.out.b1
    have p0 := p 0; have p1 := p 1; have p2 := p 2; have p3 := p 3; have p4 := p 4; have p5 := p 5; have p6 := p 6; have p7 := p 7; have p8 := p 8
    have a0 := cell_of_row v1 w.heap.size 0 _ _ (0, 0) Hv1.out.b0
    clear p
    go_wp2_with fail
    refine (HMi.out _).mono ?_
    rintro _ v2 ⟨rfl, k⟩
    have Hv2 := Lib.hid (Hv1.out.below k)
    clear k p0 p1 p2 p3 p4 p5 p6 p7 p8 a0 Hv1
    cases mb with
    | true =>
      go_wp2
      go_ret
      exact ⟨by rw [HR.out]; rfl, Hv2.out.bel⟩
    | false =>
      have p := fun i => cell_of_row v2 (w.heap.size + 1) i _ _ (0, 0) Hv2.out.b1
      have p0 := p 0; have p1 := p 1; have p2 := p 2; have p3 := p 3; have p4 := p 4; have p5 := p 5; have p6 := p 6; have p7 := p 7; have p8 := p 8
      have a0 := cell_of_row v2 w.heap.size 0 _ _ (0, 0) Hv2.out.b0
      clear p
      go_wp2_with fail
      refine (HSh.out _ Hv2.out HOD.out).mono ?_
      rintro _ v3 ⟨rfl, k⟩
      have Hv3 := Lib.hid (Hv2.out.below k)
      clear k p0 p1 p2 p3 p4 p5 p6 p7 p8 a0 Hv2
      cases sb with
      | true =>
        go_wp2
        go_ret
        exact ⟨by rw [HR.out]; rfl, Hv3.out.bel⟩
      | false =>
        have p := fun i => cell_of_row v3 (w.heap.size + 1) i _ _ (0, 0) Hv3.out.b1
        have p0 := p 0; have p1 := p 1; have p2 := p 2; have p3 := p 3; have p4 := p 4; have p5 := p 5; have p6 := p 6; have p7 := p 7; have p8 := p 8
        have a0 := cell_of_row v3 w.heap.size 0 _ _ (0, 0) Hv3.out.b0
        clear p
        have g3 := heap_alloc_new v3 (.cells #[.int .i64 x.c, .int .i64 x.f, .int .u64 x.s, .int .u64 x.t, .string x.d] TPk)
        have l3 := lt_of Hv3.out.b1
        obtain ⟨P8, hP8⟩ : ∃ P, P = v3.heap.size := ⟨_, rfl⟩
        obtain ⟨v4, hv4⟩ : ∃ X, X = v3.alloc (.cells #[.int .i64 x.c, .int .i64 x.f, .int .u64 x.s, .int .u64 x.t, .string x.d] TPk) := ⟨_, rfl⟩
        have H4 : Hid (WY w v4 O on ord A n cap f x) := Lib.hid (by rw [hv4]; exact Hv3.out.below ((Below.refl _ _).alloc (Nat.le_refl _) _))
        rw [← hP8, ← hv4] at g3
        have HP8 := Lib.hid g3
        clear g3
        go_upto_region 9 with fail
        rw [← hv4, ← hP8]
        clear hv4 hP8 l3 p0 p1 p2 p3 p4 p5 p6 p7 p8 a0 Hv3
        have p := fun i => cell_of_row v4 (w.heap.size + 1) i _ _ (0, 0) H4.out.b1
        have p0 := p 0; have p1 := p 1; have p2 := p 2; have p3 := p 3; have p4 := p 4; have p5 := p 5; have p6 := p 6; have p7 := p 7; have p8 := p 8
        have a0 := cell_of_row v4 w.heap.size 0 _ _ (0, 0) H4.out.b0
        clear p
        by_cases h1 : x.k = 1
        · have HH := Lib.hid h1
          have k1 : (x.k == 1) = true := by simpa using h1
          clear h1
          go_upto_region 11 with fail
          clear p0 p1 p2 p3 p4 p5 p6 p7 p8 a0 k1
          refine wp_region_held_drew (S := fun V => V.heap[w.heap.size + 1]? = some (.cells #[.int .i64 x.sd, .int .i64 x.k, .int .u64 x.h, .int .i64 x.c, .int .i64 x.f, .int .u64 x.s, .int .u64 x.t, .string x.d, .string x.a] TMk (0, 0)) ∧ V.heap[P8]? = some (.cells #[.int .i64 x.c, .int .i64 x.f, .int .u64 x.s, .int .u64 x.t, .string x.d] TPk (0, 0))) (by kernel_rfl) ⟨H4.out.b1, HP8.out⟩ (fun hHeld => ?_)
          have H5 := Lib.hid (H4.out.below (Below.refl _ _).drew)
          obtain ⟨v5, hv5⟩ : ∃ X, X = v4.drew := ⟨_, rfl⟩
          rw [← hv5] at H5 hHeld ⊢
          clear hv5 H4
          refine wpAnyH_take (i := 0) (oi := _) (v := ?_) rfl (by kernel_rfl) (by kernel_rfl) (by kernel_rfl) (fun _ _ _ h => h) (Or.inl ⟨by rfl, ?_⟩) (by assumption) ?_
          rotate_left
          · (intro W hSw; (try dsimp only at hSw); go_simp; try with_reducible rfl)
          try simp only [Act.put, List.getElem_toArray, List.getElem_cons_zero, List.setIfInBounds_toArray, List.set_cons_zero, List.set_cons_succ]
          refine wpAnyH_take (i := 1) (oi := _) (v := ?_) rfl (by kernel_rfl) (by kernel_rfl) (by kernel_rfl) (fun _ _ _ h => h) (Or.inl ⟨by rfl, ?_⟩) (by assumption) ?_
          rotate_left
          · (intro V hSw; have q := fun i => cell_of_row V P8 i _ _ (0, 0) hSw.2; have q0 := q 0; have q1 := q 1; have q2 := q 2; have q3 := q 3; have q4 := q 4; clear q hSw; go_simp; try with_reducible rfl)
          try simp only [Act.put, List.getElem_toArray, List.getElem_cons_succ, List.getElem_cons_zero, List.setIfInBounds_toArray, List.set_cons_zero, List.set_cons_succ]
          refine wpAnyH_take (i := 2) (oi := _) (v := ?_) rfl (by kernel_rfl) (by kernel_rfl) (by kernel_rfl) (fun _ _ _ h => h) (Or.inl ⟨by rfl, ?_⟩) (by assumption) ?_
          rotate_left
          · (intro V hSw; have q := fun i => cell_of_row V (w.heap.size + 1) i _ _ (0, 0) hSw.1; have q0 := q 0; have q1 := q 1; have q2 := q 2; have q3 := q 3; have q4 := q 4; have q5 := q 5; have q6 := q 6; have q7 := q 7; have q8 := q 8; clear q hSw; go_simp; try with_reducible rfl)
          try simp only [Act.put, List.getElem_toArray, List.getElem_cons_succ, List.getElem_cons_zero, List.setIfInBounds_toArray, List.set_cons_zero, List.set_cons_succ]
          refine wpAnyH_take (i := 3) (oi := _) (v := ?_) rfl (by kernel_rfl) (by kernel_rfl) (by kernel_rfl) (fun _ _ _ h => h) (Or.inl ⟨by rfl, ?_⟩) (by assumption) ?_
          rotate_left
          · (intro W hSw; (try dsimp only at hSw); go_simp; try with_reducible rfl)
          try simp only [Act.put, List.getElem_toArray, List.getElem_cons_succ, List.getElem_cons_zero, List.setIfInBounds_toArray, List.set_cons_zero, List.set_cons_succ]
          refine wpAnyH_ready (rs := [4]) (by kernel_rfl) (by simp) ?_
          refine AllReadyH.cons rfl (fun K hK => ?_) AllReadyH.nil
          simp only [List.getElem_toArray, List.getElem_cons_succ, List.getElem_cons_zero]
          rw [if_pos (by rfl)]
          go_simp
          refine (HNx.out _ H5.out).mono ?_
          rintro _ v6 ⟨rfl, k6⟩
          have H6 := Lib.hid (H5.out.below k6)
          have hS6 := And.intro H6.out.b1 ((k6.block _ (lt_of hHeld.2)).trans hHeld.2)
          clear k6 H5
          go_wp2_with fail
          refine hK.out _ _ hS6 (fun hHeld => ?_)
          clear hK K
          try simp only [Act.put, List.getElem_toArray, List.getElem_cons_succ, List.getElem_cons_zero, List.setIfInBounds_toArray, List.set_cons_zero, List.set_cons_succ]
          by_cases hs : x.s = (nx : Int)
          · have s1 : (x.s == (nx : Int)) = true ∧ (x.s != (nx : Int)) = false := by simpa using hs
            have HS := Lib.hid (And.intro hs s1)
            clear hs s1
            refine wpAnyH_take (i := 5) (oi := _) (v := ?_) rfl (by kernel_rfl) (by kernel_rfl) (by kernel_rfl) (fun _ _ _ h => h) (Or.inl ⟨by rfl, ?_⟩) (by assumption) ?_
            rotate_left
            · (intro V hSw; clear hSw; have s0 := HS.out.1; have s1 := HS.out.2.1; have s2 := HS.out.2.2; go_simp; try with_reducible rfl)
            try simp only [Act.put, List.getElem_toArray, List.getElem_cons_succ, List.getElem_cons_zero, List.setIfInBounds_toArray, List.set_cons_zero, List.set_cons_succ]
            refine wpAnyH_done (by kernel_rfl) ?_ _
            go_wp2
            go_ret
            exact ⟨by rw [HR.out, if_neg (by decide), if_neg (by decide), if_neg (by decide), if_pos HH.out, if_pos HS.out.1]; rfl, H6.out.bel⟩
          · have s1 : (x.s == (nx : Int)) = false ∧ (x.s != (nx : Int)) = true := by simpa using hs
            have HS := Lib.hid (And.intro hs s1)
            clear hs s1
            refine wpAnyH_take (i := 5) (oi := _) (v := ?_) rfl (by kernel_rfl) (by kernel_rfl) (by kernel_rfl) (fun _ _ _ h => h) (Or.inl ⟨by rfl, ?_⟩) (by assumption) ?_
            rotate_left
            · (intro V hSw; clear hSw; have s0 := HS.out.1; have s1 := HS.out.2.1; have s2 := HS.out.2.2; go_simp; try with_reducible rfl)
            try simp only [Act.put, List.getElem_toArray, List.getElem_cons_succ, List.getElem_cons_zero, List.setIfInBounds_toArray, List.set_cons_zero, List.set_cons_succ]
            refine wpAnyH_done (by kernel_rfl) ?_ _
            go_wp2
            go_ret
            exact ⟨by rw [HR.out, if_neg (by decide), if_neg (by decide), if_neg (by decide), if_pos HH.out, if_neg HS.out.1]; rfl, H6.out.bel⟩
        · have k1 : (x.k == 1) = false := by simpa using h1
          by_cases h2 : x.k = 2
          · have HH := Lib.hid h2
            have HN1 := Lib.hid h1
            have k2 : (x.k == 2) = true := by simpa using h2
            clear h1 h2
            go_wp2_with fail
            refine (HRe.out _ H4.out HOD.out).mono ?_
            rintro _ v7 ⟨rfl, k7⟩
            have H7 := Lib.hid (H4.out.below k7)
            clear k7 p0 p1 p2 p3 p4 p5 p6 p7 p8 a0
            go_wp2
            go_ret
            exact ⟨by rw [HR.out, if_neg (by decide), if_neg (by decide), if_neg (by decide), if_neg HN1.out, if_pos HH.out]; rfl, H7.out.bel⟩
          · have HH := Lib.hid h2
            have HN1 := Lib.hid h1
            have k2 : (x.k == 2) = false := by simpa using h2
            clear h1 h2
            go_wp2_with fail
            refine (HTo.out _ H4.out HOD.out).mono ?_
            rintro _ v7 ⟨rfl, k7⟩
            have H7 := Lib.hid (H4.out.below k7)
            clear k7 p0 p1 p2 p3 p4 p5 p6 p7 p8 a0
            go_wp2
            go_ret
            exact ⟨by rw [HR.out, if_neg (by decide), if_neg (by decide), if_neg (by decide), if_neg HN1.out, if_neg HH.out]; rfl, H7.out.bel⟩
end Go.Proofs.Ytfojmjgnndlfnab.Tr
