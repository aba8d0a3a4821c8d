import Derived.Test.YtlpnecmcncekcaaGreatTn
/- The page's example of a table. -/
namespace Go.Proofs.YtlpnecmcncekcaaGreat.Mk
open Go Go.RowKit Go.MuLone Conf

/-- the world of the example -/
structure AW (W V : World) (n T g cap S0 S1 S B : Nat) (l : List Ms) (clock : Nat) : Prop where
  op : V.heap[n]? = some (.cells #[.int .i64 1, .int .i64 0, .int .i64 0, .int .i64 0, .int .u64 1, .int .i64 0, .int .i64 0, .int .u64 0, .int .u64 0] 43 (0, 0))
  tj : TJ V T g cap S0 S1
  sh : ShIs V S B 8 l clock 0
  bel : Below W.heap.size W V
  low : W.heap.size ≤ S ∧ W.heap.size ≤ B ∧ S < n ∧ B < n
  ne : T ≠ S ∧ T ≠ B ∧ g ≠ S ∧ g ≠ B
theorem AW.lt {W V : World} {n T g cap S0 S1 S B : Nat} {l : List Ms} {clock : Nat} (h : AW W V n T g cap S0 S1 S B l clock) : n < V.heap.size := (Array.getElem?_eq_some_iff.1 h.op).1
theorem AW.alloc {W V : World} {n T g cap S0 S1 S B : Nat} {l : List Ms} {clock : Nat} (h : AW W V n T g cap S0 S1 S B l clock) (o : Obj) : AW W (V.alloc o) n T g cap S0 S1 S B l clock :=
  ⟨(Below.heap_alloc _ _ _ h.lt).trans h.op, h.tj.below ((Below.refl _ _).alloc (Nat.le_refl _) o), h.sh.new o, h.bel.alloc h.bel.size o, h.low, h.ne⟩
theorem AW.call {W V V' : World} {n T g cap S0 S1 S B : Nat} {l l' : List Ms} {clock clock' : Nat} (h : AW W V n T g cap S0 S1 S B l clock) (hs : ShIs V' S B 8 l' clock' 0) (hO : Only2 S B V V') : AW W V' n T g cap S0 S1 S B l' clock' :=
  ⟨box_off h.op hO (by have := h.low; omega) (by have := h.low; omega), h.tj.only hO h.ne.1 h.ne.2.1 h.ne.2.2.1 h.ne.2.2.2, hs, Only2.below h.bel hO h.low.1 h.low.2.1 h.bel.size, h.low, h.ne⟩
/-- an answer's box -/
structure RB (V : World) (n S B a : Nat) : Prop where
  box : V.heap[a]? = some (.cells #[.int .i64 0, .int .u64 0, .int .u64 0, .int .u64 0] 38 (0, 0))
  ne : n < a ∧ a ≠ S ∧ a ≠ B
theorem RB.lt {V : World} {n S B a : Nat} (h : RB V n S B a) : a < V.heap.size := (Array.getElem?_eq_some_iff.1 h.box).1
theorem RB.alloc {V : World} {n S B a : Nat} (h : RB V n S B a) (o : Obj) : RB (V.alloc o) n S B a := ⟨(Below.heap_alloc _ _ _ h.lt).trans h.box, h.ne⟩
theorem RB.call {V V' : World} {n S B a : Nat} (h : RB V n S B a) (hO : Only2 S B V V') : RB V' n S B a := ⟨box_off h.box hO h.ne.2.1 h.ne.2.2, h.ne⟩
theorem AW.box {W V : World} {n T g cap S0 S1 S B : Nat} {l : List Ms} {clock : Nat} (h : AW W V n T g cap S0 S1 S B l clock) : RB (V.alloc (.cells #[.int .i64 0, .int .u64 0, .int .u64 0, .int .u64 0] 38)) n S B V.heap.size :=
  ⟨heap_alloc_new V _, by have := h.lt; have := h.sh.ltS; have := h.sh.ltB; omega⟩

set_option maxRecDepth 20000 in
set_option maxHeartbeats 8000000 in
theorem awake_any (W : World) : Calls Tryz.prog 8 #[] W fun e w' => e = .returned (.bool true) ∧ Below W.heap.size W w' := by
  go_enter Tryz.func8, Tryz.ntmps8
  go_wp2_with fail
  refine (plain_mid 1 (by decide) 1 _).mono ?_
  rintro _ w1 ⟨A, cap0, rfl, -, b1⟩
  go_wp2_with fail
  refine (tnew_any (plain A 1 cap0 1) rfl rfl rfl _).mono ?_
  rintro _ w2 ⟨T, v, S0, B0, S1, B1, rfl, hT⟩
  obtain ⟨g, cap, rfl, hTg, hcells⟩ : ∃ g cap, v = .slice (some ⟨g, 0, none⟩) 2 cap ∧ T < g ∧ w2.cell? ⟨g, 0, none⟩ = some (.pointer (some ⟨S0, 0, none⟩)) ∧ w2.cell? ⟨g, 1, none⟩ = some (.pointer (some ⟨S1, 0, none⟩)) := by
    rcases hT.row.2 with ⟨_, h2⟩ | ⟨g, cap, cur, hv, hg, hh, h1, h2, h3, h4⟩
    · cases h2
    · refine ⟨g, cap, hv, by omega, ?_, ?_⟩
      · obtain ⟨cl⟩ := cur
        have h4' : cl.take 2 = [.pointer (some ⟨S0, 0, none⟩), .pointer (some ⟨S1, 0, none⟩)] := h4
        match cl, h4' with
        | x :: y :: r, h5 =>
          simp at h5
          simp [World.cell?, hh, h5.1]
      · obtain ⟨cl⟩ := cur
        have h4' : cl.take 2 = [.pointer (some ⟨S0, 0, none⟩), .pointer (some ⟨S1, 0, none⟩)] := h4
        match cl, h4' with
        | x :: y :: r, h5 =>
          simp at h5
          simp [World.cell?, hh, h5.2]
  have hg9 : ∀ x ∈ [(S0, B0), (S1, B1)], g ≠ x.1 ∧ g ≠ x.2 := by
    intro x hx
    have hs := (hT.sh x hx).1
    refine ⟨fun e => ?_, fun e => ?_⟩
    · exact own_apart9 hT.row hs.box (by decide) (show some x.1 = some g from congrArg some e.symm)
    · exact own_apartM hT.row hs.map (show some x.2 = some g from congrArg some e.symm)
  obtain ⟨n, hn⟩ : ∃ n, n = w2.heap.size := ⟨_, rfl⟩
  obtain ⟨w3, hw3⟩ : ∃ X, X = w2.alloc (.cells #[.int .i64 1, .int .i64 0, .int .i64 0, .int .i64 0, .int .u64 1, .int .i64 0, .int .i64 0, .int .u64 0, .int .u64 0] 43) := ⟨_, rfl⟩
  have htj : TJ w2 T g cap S0 S1 := ⟨hT.tab, hcells.1, hcells.2⟩
  have hw1 := b1.size
  have hrow : ∀ x ∈ [(S0, B0), (S1, B1)], AW W w3 n T g cap S0 S1 x.1 x.2 [] 0 := fun x hx => by
    have hs := hT.sh x hx
    have hb2 : Below W.heap.size W w2 := b1.trans (hT.bel.mono b1.size)
    have l1 := hs.1.ltS
    have l2 := hs.1.ltB
    have l3 := hT.lt
    rw [hw3, hn]
    exact ⟨heap_alloc_new w2 _, htj.below ((Below.refl _ _).alloc (Nat.le_refl _) _), hs.1.new _, hb2.alloc hb2.size _, ⟨by omega, by omega, l1, l2⟩, by omega, by omega, (hg9 x hx).1, (hg9 x hx).2⟩
  obtain ⟨S, B, hV0, hat⟩ : ∃ S B, AW W w3 n T g cap S0 S1 S B [] 0 ∧ ∀ V, TJ V T g cap S0 S1 → Calls Tryz.prog 29 #[.pointer (some ⟨T, 0, none⟩), .int .i64 (Fnv.keyH 0 0 1 % 2)] V fun e w' => e = .returned (.pointer (some ⟨S, 0, none⟩)) ∧ w' = V := by
    have hj : Fnv.keyH 0 0 1 % 2 = 0 ∨ Fnv.keyH 0 0 1 % 2 = 1 := by omega
    rcases hj with hj | hj
    · exact ⟨S0, B0, hrow (S0, B0) (by simp), fun V hV => by rw [hj]; exact at_0 hV⟩
    · exact ⟨S1, B1, hrow (S1, B1) (by simp), fun V hV => by rw [hj]; exact at_1 hV⟩
  have HD1 : Hid (∀ V, AW W V n T g cap S0 S1 S B [] 0 → Calls Tryz.prog 11 #[.pointer (some ⟨T, 0, none⟩), .agg #[.int .i64 1, .int .i64 0, .int .i64 0, .int .i64 0, .int .u64 1, .int .i64 0, .int .i64 0, .int .u64 0, .int .u64 0]] V fun e w' => e = .returned (.agg #[.int .i64 0, .int .u64 0, .int .u64 0, .int .u64 0]) ∧ ShIs w' S B 8 (insL 8 [] 0 ⟨0, 0, 1⟩).1 (insL 8 [] 0 ⟨0, 0, 1⟩).2 0 ∧ Only2 S B V w') :=
    Lib.hid fun V hV => tdo_ins hV.tj 0 ⟨0, 0, 1⟩ 0 0 0 0 (by decide) (by decide) S B 8 [] 0 hat hV.sh
  have HD2 : Hid (∀ V, AW W V n T g cap S0 S1 S B (insL 8 [] 0 ⟨0, 0, 1⟩).1 (insL 8 [] 0 ⟨0, 0, 1⟩).2 → Calls Tryz.prog 11 #[.pointer (some ⟨T, 0, none⟩), .agg #[.int .i64 1, .int .i64 0, .int .i64 0, .int .i64 0, .int .u64 1, .int .i64 0, .int .i64 0, .int .u64 0, .int .u64 0]] V fun e w' => e = .returned (.agg #[.int .i64 7, .int .u64 0, .int .u64 0, .int .u64 0]) ∧ ShIs w' S B 8 (insL 8 [] 0 ⟨0, 0, 1⟩).1 (insL 8 [] 0 ⟨0, 0, 1⟩).2 0 ∧ Only2 S B V w') :=
    Lib.hid fun V hV => tdo_ins hV.tj 0 ⟨0, 0, 1⟩ 0 0 0 0 (by decide) (by decide) S B 8 (insL 8 [] 0 ⟨0, 0, 1⟩).1 (insL 8 [] 0 ⟨0, 0, 1⟩).2 hat hV.sh
  have HV0' := Lib.hid hV0
  generalize (insL 8 [] 0 ⟨0, 0, 1⟩) = L1 at HD1 HD2
  clear hV0 hat hrow hw1 htj hg9 hcells hTg hT b1
  go_upto_region 3 with fail
  rw [← hw3, ← hn]
  clear hw3 hn
  refine wp_region_held_drew (S := (fun V => V.heap[n]? = some (.cells #[.int .i64 1, .int .i64 0, .int .i64 0, .int .i64 0, .int .u64 1, .int .i64 0, .int .i64 0, .int .u64 0, .int .u64 0] 43 (0, 0)))) (by kernel_rfl) HV0'.out.op (fun hHeld => ?_)
  have HV0 : Hid (AW W w3.drew n T g cap S0 S1 S B [] 0) := Lib.hid ⟨HV0'.out.op, ⟨HV0'.out.tj.tab, HV0'.out.tj.c0, HV0'.out.tj.c1⟩, ⟨HV0'.out.sh.box, HV0'.out.sh.map⟩, HV0'.out.bel.drew, HV0'.out.low, HV0'.out.ne⟩
  clear HV0'
  obtain ⟨V0, hV0⟩ : ∃ X, X = w3.drew := ⟨_, rfl⟩
  rw [← hV0] at HV0 hHeld ⊢
  clear hV0
  refine wpAnyH_take (i := 0) (oi := _) (v := ?_) rfl (by kernel_rfl) (by kernel_rfl) (by kernel_rfl) (fun _ _ _ h => h) (Or.inl ⟨by rfl, ?_⟩) (by assumption) ?_
  rotate_left
  · (intro W hSw; (try dsimp only at hSw); go_simp; try with_reducible rfl)
  try simp only [Act.put, List.getElem_toArray, List.getElem_cons_zero, List.setIfInBounds_toArray, List.set_cons_zero, List.set_cons_succ]
  refine wpAnyH_take (i := 1) (oi := _) (v := ?_) rfl (by kernel_rfl) (by kernel_rfl) (by kernel_rfl) (fun _ _ _ h => h) (Or.inl ⟨by rfl, ?_⟩) (by assumption) ?_
  rotate_left
  · (intro V hSw; have q0 := cell_of_row V n 0 _ _ (0, 0) hSw; have q1 := cell_of_row V n 1 _ _ (0, 0) hSw; have q2 := cell_of_row V n 2 _ _ (0, 0) hSw; have q3 := cell_of_row V n 3 _ _ (0, 0) hSw; have q4 := cell_of_row V n 4 _ _ (0, 0) hSw; have q5 := cell_of_row V n 5 _ _ (0, 0) hSw; have q6 := cell_of_row V n 6 _ _ (0, 0) hSw; have q7 := cell_of_row V n 7 _ _ (0, 0) hSw; have q8 := cell_of_row V n 8 _ _ (0, 0) hSw; clear hSw; go_simp; try with_reducible rfl)
  try simp only [Act.put, List.getElem_toArray, List.getElem_cons_succ, List.getElem_cons_zero, List.setIfInBounds_toArray, List.set_cons_zero, List.set_cons_succ]
  refine wpAnyH_take (i := 3) (oi := _) (v := ?_) rfl (by kernel_rfl) (by kernel_rfl) (by kernel_rfl) (fun _ _ _ h => h) (Or.inl ⟨by rfl, ?_⟩) (by assumption) ?_
  rotate_left
  · (intro W hSw; (try dsimp only at hSw); go_simp; try with_reducible rfl)
  try simp only [Act.put, List.getElem_toArray, List.getElem_cons_succ, List.getElem_cons_zero, List.setIfInBounds_toArray, List.set_cons_zero, List.set_cons_succ]
  refine wpAnyH_take (i := 4) (oi := _) (v := ?_) rfl (by kernel_rfl) (by kernel_rfl) (by kernel_rfl) (fun _ _ _ h => h) (Or.inl ⟨by rfl, ?_⟩) (by assumption) ?_
  rotate_left
  · (intro V hSw; have q0 := cell_of_row V n 0 _ _ (0, 0) hSw; have q1 := cell_of_row V n 1 _ _ (0, 0) hSw; have q2 := cell_of_row V n 2 _ _ (0, 0) hSw; have q3 := cell_of_row V n 3 _ _ (0, 0) hSw; have q4 := cell_of_row V n 4 _ _ (0, 0) hSw; have q5 := cell_of_row V n 5 _ _ (0, 0) hSw; have q6 := cell_of_row V n 6 _ _ (0, 0) hSw; have q7 := cell_of_row V n 7 _ _ (0, 0) hSw; have q8 := cell_of_row V n 8 _ _ (0, 0) hSw; clear hSw; go_simp; try with_reducible rfl)
  try simp only [Act.put, List.getElem_toArray, List.getElem_cons_succ, List.getElem_cons_zero, List.setIfInBounds_toArray, List.set_cons_zero, List.set_cons_succ]
  refine wpAnyH_ready (rs := [2, 6, 7]) (by kernel_rfl) (by simp) ?_
  refine AllReadyH.cons rfl (fun K hK => ?_) (AllReadyH.cons rfl (fun K hK => ?_) (AllReadyH.cons rfl (fun K hK => ?_) AllReadyH.nil))
  · simp only [List.getElem_toArray, List.getElem_cons_succ, List.getElem_cons_zero]
    rw [if_pos (by rfl)]
    go_simp
    refine (HD1.out V0 HV0.out).mono ?_
    rintro _ V1 ⟨rfl, hsh, hO⟩
    have HV2 := Lib.hid (HV0.out.call hsh hO)
    clear hsh hO
    go_wp2_with fail
    refine hK.out _ _ HV2.out.op (fun hHeld => ?_)
    clear hK K
    try simp only [Act.put, List.getElem_toArray, List.getElem_cons_succ, List.getElem_cons_zero, List.setIfInBounds_toArray, List.set_cons_zero, List.set_cons_succ]
    refine wpAnyH_ready (rs := [5, 6, 7]) (by kernel_rfl) (by simp) ?_
    refine AllReadyH.cons rfl (fun K hK => ?_) (AllReadyH.cons rfl (fun K hK => ?_) (AllReadyH.cons rfl (fun K hK => ?_) AllReadyH.nil))
    · simp only [List.getElem_toArray, List.getElem_cons_succ, List.getElem_cons_zero]
      rw [if_pos (by rfl)]
      go_simp
      refine (HD2.out V1 HV2.out).mono ?_
      rintro _ V3 ⟨rfl, hsh, hO⟩
      have HV4 := Lib.hid (HV2.out.call hsh hO)
      clear hsh hO
      go_wp2_with fail
      refine hK.out _ _ HV4.out.op (fun hHeld => ?_)
      clear hK K
      try simp only [Act.put, List.getElem_toArray, List.getElem_cons_succ, List.getElem_cons_zero, List.setIfInBounds_toArray, List.set_cons_zero, List.set_cons_succ]
      refine wpAnyH_ready (rs := [6, 7]) (by kernel_rfl) (by simp) ?_
      refine AllReadyH.cons rfl (fun K hK => ?_) (AllReadyH.cons rfl (fun K hK => ?_) AllReadyH.nil)
      · simp only [List.getElem_toArray, List.getElem_cons_succ, List.getElem_cons_zero]
        rw [if_pos (by rfl)]
        go_simp
        refine hK.out _ _ (HV4.out.alloc _).op (fun hHeld => ?_)
        clear hK K
        try simp only [Act.put, List.getElem_toArray, List.getElem_cons_succ, List.getElem_cons_zero, List.setIfInBounds_toArray, List.set_cons_zero, List.set_cons_succ]
        obtain ⟨V5, hV5⟩ : ∃ X, X = V3.alloc (.cells #[.int .i64 0, .int .u64 0, .int .u64 0, .int .u64 0] 38) := ⟨_, rfl⟩
        obtain ⟨a7, ha7⟩ : ∃ X, X = V3.heap.size := ⟨_, rfl⟩
        have HV6 : Hid (AW W V5 n T g cap S0 S1 S B _ _) := Lib.hid (by rw [hV5]; exact HV4.out.alloc _)
        have HA8 : Hid (RB V5 n S B a7) := Lib.hid (by rw [hV5, ha7]; exact HV4.out.box)
        rw [← hV5] at hHeld ⊢
        try rw [← ha7]
        clear hV5 ha7
        refine wpAnyH_ready (rs := [7]) (by kernel_rfl) (by simp) ?_
        refine AllReadyH.cons rfl (fun K hK => ?_) AllReadyH.nil
        · simp only [List.getElem_toArray, List.getElem_cons_succ, List.getElem_cons_zero]
          rw [if_pos (by rfl)]
          go_simp
          refine hK.out _ _ (HV6.out.alloc _).op (fun hHeld => ?_)
          clear hK K
          try simp only [Act.put, List.getElem_toArray, List.getElem_cons_succ, List.getElem_cons_zero, List.setIfInBounds_toArray, List.set_cons_zero, List.set_cons_succ]
          obtain ⟨V9, hV9⟩ : ∃ X, X = V5.alloc (.cells #[.int .i64 0, .int .u64 0, .int .u64 0, .int .u64 0] 38) := ⟨_, rfl⟩
          obtain ⟨a11, ha11⟩ : ∃ X, X = V5.heap.size := ⟨_, rfl⟩
          have HV10 : Hid (AW W V9 n T g cap S0 S1 S B _ _) := Lib.hid (by rw [hV9]; exact HV6.out.alloc _)
          have HA12 : Hid (RB V9 n S B a11) := Lib.hid (by rw [hV9, ha11]; exact HV6.out.box)
          have HA13 : Hid (RB V9 n S B a7) := Lib.hid (by rw [hV9]; exact HA8.out.alloc _)
          have hne14 : a11 ≠ a7 := by have := HA8.out.lt; omega
          rw [← hV9] at hHeld ⊢
          try rw [← ha11]
          clear hV9 ha11
          have ne45 : a7 ≠ a11 := by have := hne14; omega
          have c0 := cell_of_row V9 a7 0 _ _ (0, 0) HA13.out.box
          have c1 := cell_of_row V9 a7 1 _ _ (0, 0) HA13.out.box
          have c2 := cell_of_row V9 a7 2 _ _ (0, 0) HA13.out.box
          have c3 := cell_of_row V9 a7 3 _ _ (0, 0) HA13.out.box
          have f3 : ∀ i, V9.frozen? ⟨a7, i, none⟩ = false := fun i => by simp [World.frozen?, HA13.out.box]
          have hs := row_set4 (.int .i64 0) (.int .u64 0) (.int .u64 0) (.int .u64 0) rfl HA13.out.box
          have HS := Lib.hid (And.intro hs.1 (And.intro ((hs.2.1 _ (Ne.symm ne45)).trans HA12.out.box) (And.intro ((hs.2.1 _ (by have := HA13.out.ne; omega)).trans HV10.out.op) (hs.2.2 _ _ HV10.out.bel (by have := HA13.out.ne; have := HV10.out.low; omega)))))
          have lo5 : W.heap.size ≤ a11 := by have := HA12.out.ne; have := HV10.out.low; omega
          have n5 : n ≠ a11 := by have := HA12.out.ne; omega
          clear hs
          refine wpAnyH_ready (rs := [8]) (by kernel_rfl) (by simp) ?_
          refine AllReadyH.cons rfl (fun K hK => ?_) AllReadyH.nil
          simp only [List.getElem_toArray, List.getElem_cons_succ, List.getElem_cons_zero]
          rw [if_pos (by rfl)]
          go_simp
          refine hK.out _ _ HS.out.2.2.1 (fun hHeld => ?_)
          clear hK K
          try simp only [Act.put, List.getElem_toArray, List.getElem_cons_succ, List.getElem_cons_zero, List.setIfInBounds_toArray, List.set_cons_zero, List.set_cons_succ]
          generalize ((((V9.setCell ⟨a7, 0, none⟩ (.int .i64 0)).setCell ⟨a7, 1, none⟩ (.int .u64 0)).setCell ⟨a7, 2, none⟩ (.int .u64 0)).setCell ⟨a7, 3, none⟩ (.int .u64 0)) = V8 at HS hHeld ⊢
          clear c0 c1 c2 c3 f3 HV10 HA13 HA12
          have c0 := cell_of_row V8 a11 0 _ _ (0, 0) HS.out.2.1
          have c1 := cell_of_row V8 a11 1 _ _ (0, 0) HS.out.2.1
          have c2 := cell_of_row V8 a11 2 _ _ (0, 0) HS.out.2.1
          have c3 := cell_of_row V8 a11 3 _ _ (0, 0) HS.out.2.1
          have f3 : ∀ i, V8.frozen? ⟨a11, i, none⟩ = false := fun i => by simp [World.frozen?, HS.out.2.1]
          have hs := row_set4 (.int .i64 7) (.int .u64 0) (.int .u64 0) (.int .u64 0) rfl HS.out.2.1
          have HT := Lib.hid (And.intro hs.1 (And.intro ((hs.2.1 _ ne45).trans HS.out.1) (hs.2.2 _ _ HS.out.2.2.2 lo5)))
          have hop := (hs.2.1 _ n5).trans HS.out.2.2.1
          clear hs
          refine wpAnyH_ready (rs := [9]) (by kernel_rfl) (by simp) ?_
          refine AllReadyH.cons rfl (fun K hK => ?_) AllReadyH.nil
          simp only [List.getElem_toArray, List.getElem_cons_succ, List.getElem_cons_zero]
          rw [if_pos (by rfl)]
          go_simp
          refine hK.out _ _ hop (fun hHeld => ?_)
          clear hK K
          try simp only [Act.put, List.getElem_toArray, List.getElem_cons_succ, List.getElem_cons_zero, List.setIfInBounds_toArray, List.set_cons_zero, List.set_cons_succ]
          generalize ((((V8.setCell ⟨a11, 0, none⟩ (.int .i64 7)).setCell ⟨a11, 1, none⟩ (.int .u64 0)).setCell ⟨a11, 2, none⟩ (.int .u64 0)).setCell ⟨a11, 3, none⟩ (.int .u64 0)) = V9 at HT hHeld hop ⊢
          clear c0 c1 c2 c3 f3 HS hop
          refine wpAnyH_done (by kernel_rfl) ?_ _
          have d0 := cell_of_row V9 a7 0 _ _ (0, 0) HT.out.2.1
          have e0 := cell_of_row V9 a11 0 _ _ (0, 0) HT.out.1
          have d1 := cell_of_row V9 a7 1 _ _ (0, 0) HT.out.2.1
          have e1 := cell_of_row V9 a11 1 _ _ (0, 0) HT.out.1
          have d2 := cell_of_row V9 a7 2 _ _ (0, 0) HT.out.2.1
          have e2 := cell_of_row V9 a11 2 _ _ (0, 0) HT.out.1
          have d3 := cell_of_row V9 a7 3 _ _ (0, 0) HT.out.2.1
          have e3 := cell_of_row V9 a11 3 _ _ (0, 0) HT.out.1
          go_wp2
          go_ret
          exact ⟨rfl, HT.out.2.2⟩
      · simp only [List.getElem_toArray, List.getElem_cons_succ, List.getElem_cons_zero]
        rw [if_pos (by rfl)]
        go_simp
        refine hK.out _ _ (HV4.out.alloc _).op (fun hHeld => ?_)
        clear hK K
        try simp only [Act.put, List.getElem_toArray, List.getElem_cons_succ, List.getElem_cons_zero, List.setIfInBounds_toArray, List.set_cons_zero, List.set_cons_succ]
        obtain ⟨V15, hV15⟩ : ∃ X, X = V3.alloc (.cells #[.int .i64 0, .int .u64 0, .int .u64 0, .int .u64 0] 38) := ⟨_, rfl⟩
        obtain ⟨a17, ha17⟩ : ∃ X, X = V3.heap.size := ⟨_, rfl⟩
        have HV16 : Hid (AW W V15 n T g cap S0 S1 S B _ _) := Lib.hid (by rw [hV15]; exact HV4.out.alloc _)
        have HA18 : Hid (RB V15 n S B a17) := Lib.hid (by rw [hV15, ha17]; exact HV4.out.box)
        rw [← hV15] at hHeld ⊢
        try rw [← ha17]
        clear hV15 ha17
        refine wpAnyH_ready (rs := [6]) (by kernel_rfl) (by simp) ?_
        refine AllReadyH.cons rfl (fun K hK => ?_) AllReadyH.nil
        · simp only [List.getElem_toArray, List.getElem_cons_succ, List.getElem_cons_zero]
          rw [if_pos (by rfl)]
          go_simp
          refine hK.out _ _ (HV16.out.alloc _).op (fun hHeld => ?_)
          clear hK K
          try simp only [Act.put, List.getElem_toArray, List.getElem_cons_succ, List.getElem_cons_zero, List.setIfInBounds_toArray, List.set_cons_zero, List.set_cons_succ]
          obtain ⟨V19, hV19⟩ : ∃ X, X = V15.alloc (.cells #[.int .i64 0, .int .u64 0, .int .u64 0, .int .u64 0] 38) := ⟨_, rfl⟩
          obtain ⟨a21, ha21⟩ : ∃ X, X = V15.heap.size := ⟨_, rfl⟩
          have HV20 : Hid (AW W V19 n T g cap S0 S1 S B _ _) := Lib.hid (by rw [hV19]; exact HV16.out.alloc _)
          have HA22 : Hid (RB V19 n S B a21) := Lib.hid (by rw [hV19, ha21]; exact HV16.out.box)
          have HA23 : Hid (RB V19 n S B a17) := Lib.hid (by rw [hV19]; exact HA18.out.alloc _)
          have hne24 : a21 ≠ a17 := by have := HA18.out.lt; omega
          rw [← hV19] at hHeld ⊢
          try rw [← ha21]
          clear hV19 ha21
          have ne45 : a21 ≠ a17 := by have := hne24; omega
          have c0 := cell_of_row V19 a21 0 _ _ (0, 0) HA22.out.box
          have c1 := cell_of_row V19 a21 1 _ _ (0, 0) HA22.out.box
          have c2 := cell_of_row V19 a21 2 _ _ (0, 0) HA22.out.box
          have c3 := cell_of_row V19 a21 3 _ _ (0, 0) HA22.out.box
          have f3 : ∀ i, V19.frozen? ⟨a21, i, none⟩ = false := fun i => by simp [World.frozen?, HA22.out.box]
          have hs := row_set4 (.int .i64 0) (.int .u64 0) (.int .u64 0) (.int .u64 0) rfl HA22.out.box
          have HS := Lib.hid (And.intro hs.1 (And.intro ((hs.2.1 _ (Ne.symm ne45)).trans HA23.out.box) (And.intro ((hs.2.1 _ (by have := HA22.out.ne; omega)).trans HV20.out.op) (hs.2.2 _ _ HV20.out.bel (by have := HA22.out.ne; have := HV20.out.low; omega)))))
          have lo5 : W.heap.size ≤ a17 := by have := HA23.out.ne; have := HV20.out.low; omega
          have n5 : n ≠ a17 := by have := HA23.out.ne; omega
          clear hs
          refine wpAnyH_ready (rs := [8]) (by kernel_rfl) (by simp) ?_
          refine AllReadyH.cons rfl (fun K hK => ?_) AllReadyH.nil
          simp only [List.getElem_toArray, List.getElem_cons_succ, List.getElem_cons_zero]
          rw [if_pos (by rfl)]
          go_simp
          refine hK.out _ _ HS.out.2.2.1 (fun hHeld => ?_)
          clear hK K
          try simp only [Act.put, List.getElem_toArray, List.getElem_cons_succ, List.getElem_cons_zero, List.setIfInBounds_toArray, List.set_cons_zero, List.set_cons_succ]
          generalize ((((V19.setCell ⟨a21, 0, none⟩ (.int .i64 0)).setCell ⟨a21, 1, none⟩ (.int .u64 0)).setCell ⟨a21, 2, none⟩ (.int .u64 0)).setCell ⟨a21, 3, none⟩ (.int .u64 0)) = V8 at HS hHeld ⊢
          clear c0 c1 c2 c3 f3 HV20 HA22 HA23
          have c0 := cell_of_row V8 a17 0 _ _ (0, 0) HS.out.2.1
          have c1 := cell_of_row V8 a17 1 _ _ (0, 0) HS.out.2.1
          have c2 := cell_of_row V8 a17 2 _ _ (0, 0) HS.out.2.1
          have c3 := cell_of_row V8 a17 3 _ _ (0, 0) HS.out.2.1
          have f3 : ∀ i, V8.frozen? ⟨a17, i, none⟩ = false := fun i => by simp [World.frozen?, HS.out.2.1]
          have hs := row_set4 (.int .i64 7) (.int .u64 0) (.int .u64 0) (.int .u64 0) rfl HS.out.2.1
          have HT := Lib.hid (And.intro hs.1 (And.intro ((hs.2.1 _ ne45).trans HS.out.1) (hs.2.2 _ _ HS.out.2.2.2 lo5)))
          have hop := (hs.2.1 _ n5).trans HS.out.2.2.1
          clear hs
          refine wpAnyH_ready (rs := [9]) (by kernel_rfl) (by simp) ?_
          refine AllReadyH.cons rfl (fun K hK => ?_) AllReadyH.nil
          simp only [List.getElem_toArray, List.getElem_cons_succ, List.getElem_cons_zero]
          rw [if_pos (by rfl)]
          go_simp
          refine hK.out _ _ hop (fun hHeld => ?_)
          clear hK K
          try simp only [Act.put, List.getElem_toArray, List.getElem_cons_succ, List.getElem_cons_zero, List.setIfInBounds_toArray, List.set_cons_zero, List.set_cons_succ]
          generalize ((((V8.setCell ⟨a17, 0, none⟩ (.int .i64 7)).setCell ⟨a17, 1, none⟩ (.int .u64 0)).setCell ⟨a17, 2, none⟩ (.int .u64 0)).setCell ⟨a17, 3, none⟩ (.int .u64 0)) = V9 at HT hHeld hop ⊢
          clear c0 c1 c2 c3 f3 HS hop
          refine wpAnyH_done (by kernel_rfl) ?_ _
          have d0 := cell_of_row V9 a21 0 _ _ (0, 0) HT.out.2.1
          have e0 := cell_of_row V9 a17 0 _ _ (0, 0) HT.out.1
          have d1 := cell_of_row V9 a21 1 _ _ (0, 0) HT.out.2.1
          have e1 := cell_of_row V9 a17 1 _ _ (0, 0) HT.out.1
          have d2 := cell_of_row V9 a21 2 _ _ (0, 0) HT.out.2.1
          have e2 := cell_of_row V9 a17 2 _ _ (0, 0) HT.out.1
          have d3 := cell_of_row V9 a21 3 _ _ (0, 0) HT.out.2.1
          have e3 := cell_of_row V9 a17 3 _ _ (0, 0) HT.out.1
          go_wp2
          go_ret
          exact ⟨rfl, HT.out.2.2⟩
    · simp only [List.getElem_toArray, List.getElem_cons_succ, List.getElem_cons_zero]
      rw [if_pos (by rfl)]
      go_simp
      refine hK.out _ _ (HV2.out.alloc _).op (fun hHeld => ?_)
      clear hK K
      try simp only [Act.put, List.getElem_toArray, List.getElem_cons_succ, List.getElem_cons_zero, List.setIfInBounds_toArray, List.set_cons_zero, List.set_cons_succ]
      obtain ⟨V25, hV25⟩ : ∃ X, X = V1.alloc (.cells #[.int .i64 0, .int .u64 0, .int .u64 0, .int .u64 0] 38) := ⟨_, rfl⟩
      obtain ⟨a27, ha27⟩ : ∃ X, X = V1.heap.size := ⟨_, rfl⟩
      have HV26 : Hid (AW W V25 n T g cap S0 S1 S B _ _) := Lib.hid (by rw [hV25]; exact HV2.out.alloc _)
      have HA28 : Hid (RB V25 n S B a27) := Lib.hid (by rw [hV25, ha27]; exact HV2.out.box)
      rw [← hV25] at hHeld ⊢
      try rw [← ha27]
      clear hV25 ha27
      refine wpAnyH_ready (rs := [5, 7]) (by kernel_rfl) (by simp) ?_
      refine AllReadyH.cons rfl (fun K hK => ?_) (AllReadyH.cons rfl (fun K hK => ?_) AllReadyH.nil)
      · simp only [List.getElem_toArray, List.getElem_cons_succ, List.getElem_cons_zero]
        rw [if_pos (by rfl)]
        go_simp
        refine (HD2.out V25 HV26.out).mono ?_
        rintro _ V29 ⟨rfl, hsh, hO⟩
        have HV30 := Lib.hid (HV26.out.call hsh hO)
        have HA31 := Lib.hid (HA28.out.call hO)
        clear hsh hO
        go_wp2_with fail
        refine hK.out _ _ HV30.out.op (fun hHeld => ?_)
        clear hK K
        try simp only [Act.put, List.getElem_toArray, List.getElem_cons_succ, List.getElem_cons_zero, List.setIfInBounds_toArray, List.set_cons_zero, List.set_cons_succ]
        refine wpAnyH_ready (rs := [7]) (by kernel_rfl) (by simp) ?_
        refine AllReadyH.cons rfl (fun K hK => ?_) AllReadyH.nil
        · simp only [List.getElem_toArray, List.getElem_cons_succ, List.getElem_cons_zero]
          rw [if_pos (by rfl)]
          go_simp
          refine hK.out _ _ (HV30.out.alloc _).op (fun hHeld => ?_)
          clear hK K
          try simp only [Act.put, List.getElem_toArray, List.getElem_cons_succ, List.getElem_cons_zero, List.setIfInBounds_toArray, List.set_cons_zero, List.set_cons_succ]
          obtain ⟨V32, hV32⟩ : ∃ X, X = V29.alloc (.cells #[.int .i64 0, .int .u64 0, .int .u64 0, .int .u64 0] 38) := ⟨_, rfl⟩
          obtain ⟨a34, ha34⟩ : ∃ X, X = V29.heap.size := ⟨_, rfl⟩
          have HV33 : Hid (AW W V32 n T g cap S0 S1 S B _ _) := Lib.hid (by rw [hV32]; exact HV30.out.alloc _)
          have HA35 : Hid (RB V32 n S B a34) := Lib.hid (by rw [hV32, ha34]; exact HV30.out.box)
          have HA36 : Hid (RB V32 n S B a27) := Lib.hid (by rw [hV32]; exact HA31.out.alloc _)
          have hne37 : a34 ≠ a27 := by have := HA31.out.lt; omega
          rw [← hV32] at hHeld ⊢
          try rw [← ha34]
          clear hV32 ha34
          have ne45 : a27 ≠ a34 := by have := hne37; omega
          have c0 := cell_of_row V32 a27 0 _ _ (0, 0) HA36.out.box
          have c1 := cell_of_row V32 a27 1 _ _ (0, 0) HA36.out.box
          have c2 := cell_of_row V32 a27 2 _ _ (0, 0) HA36.out.box
          have c3 := cell_of_row V32 a27 3 _ _ (0, 0) HA36.out.box
          have f3 : ∀ i, V32.frozen? ⟨a27, i, none⟩ = false := fun i => by simp [World.frozen?, HA36.out.box]
          have hs := row_set4 (.int .i64 0) (.int .u64 0) (.int .u64 0) (.int .u64 0) rfl HA36.out.box
          have HS := Lib.hid (And.intro hs.1 (And.intro ((hs.2.1 _ (Ne.symm ne45)).trans HA35.out.box) (And.intro ((hs.2.1 _ (by have := HA36.out.ne; omega)).trans HV33.out.op) (hs.2.2 _ _ HV33.out.bel (by have := HA36.out.ne; have := HV33.out.low; omega)))))
          have lo5 : W.heap.size ≤ a34 := by have := HA35.out.ne; have := HV33.out.low; omega
          have n5 : n ≠ a34 := by have := HA35.out.ne; omega
          clear hs
          refine wpAnyH_ready (rs := [8]) (by kernel_rfl) (by simp) ?_
          refine AllReadyH.cons rfl (fun K hK => ?_) AllReadyH.nil
          simp only [List.getElem_toArray, List.getElem_cons_succ, List.getElem_cons_zero]
          rw [if_pos (by rfl)]
          go_simp
          refine hK.out _ _ HS.out.2.2.1 (fun hHeld => ?_)
          clear hK K
          try simp only [Act.put, List.getElem_toArray, List.getElem_cons_succ, List.getElem_cons_zero, List.setIfInBounds_toArray, List.set_cons_zero, List.set_cons_succ]
          generalize ((((V32.setCell ⟨a27, 0, none⟩ (.int .i64 0)).setCell ⟨a27, 1, none⟩ (.int .u64 0)).setCell ⟨a27, 2, none⟩ (.int .u64 0)).setCell ⟨a27, 3, none⟩ (.int .u64 0)) = V8 at HS hHeld ⊢
          clear c0 c1 c2 c3 f3 HV33 HA36 HA35
          have c0 := cell_of_row V8 a34 0 _ _ (0, 0) HS.out.2.1
          have c1 := cell_of_row V8 a34 1 _ _ (0, 0) HS.out.2.1
          have c2 := cell_of_row V8 a34 2 _ _ (0, 0) HS.out.2.1
          have c3 := cell_of_row V8 a34 3 _ _ (0, 0) HS.out.2.1
          have f3 : ∀ i, V8.frozen? ⟨a34, i, none⟩ = false := fun i => by simp [World.frozen?, HS.out.2.1]
          have hs := row_set4 (.int .i64 7) (.int .u64 0) (.int .u64 0) (.int .u64 0) rfl HS.out.2.1
          have HT := Lib.hid (And.intro hs.1 (And.intro ((hs.2.1 _ ne45).trans HS.out.1) (hs.2.2 _ _ HS.out.2.2.2 lo5)))
          have hop := (hs.2.1 _ n5).trans HS.out.2.2.1
          clear hs
          refine wpAnyH_ready (rs := [9]) (by kernel_rfl) (by simp) ?_
          refine AllReadyH.cons rfl (fun K hK => ?_) AllReadyH.nil
          simp only [List.getElem_toArray, List.getElem_cons_succ, List.getElem_cons_zero]
          rw [if_pos (by rfl)]
          go_simp
          refine hK.out _ _ hop (fun hHeld => ?_)
          clear hK K
          try simp only [Act.put, List.getElem_toArray, List.getElem_cons_succ, List.getElem_cons_zero, List.setIfInBounds_toArray, List.set_cons_zero, List.set_cons_succ]
          generalize ((((V8.setCell ⟨a34, 0, none⟩ (.int .i64 7)).setCell ⟨a34, 1, none⟩ (.int .u64 0)).setCell ⟨a34, 2, none⟩ (.int .u64 0)).setCell ⟨a34, 3, none⟩ (.int .u64 0)) = V9 at HT hHeld hop ⊢
          clear c0 c1 c2 c3 f3 HS hop
          refine wpAnyH_done (by kernel_rfl) ?_ _
          have d0 := cell_of_row V9 a27 0 _ _ (0, 0) HT.out.2.1
          have e0 := cell_of_row V9 a34 0 _ _ (0, 0) HT.out.1
          have d1 := cell_of_row V9 a27 1 _ _ (0, 0) HT.out.2.1
          have e1 := cell_of_row V9 a34 1 _ _ (0, 0) HT.out.1
          have d2 := cell_of_row V9 a27 2 _ _ (0, 0) HT.out.2.1
          have e2 := cell_of_row V9 a34 2 _ _ (0, 0) HT.out.1
          have d3 := cell_of_row V9 a27 3 _ _ (0, 0) HT.out.2.1
          have e3 := cell_of_row V9 a34 3 _ _ (0, 0) HT.out.1
          go_wp2
          go_ret
          exact ⟨rfl, HT.out.2.2⟩
      · simp only [List.getElem_toArray, List.getElem_cons_succ, List.getElem_cons_zero]
        rw [if_pos (by rfl)]
        go_simp
        refine hK.out _ _ (HV26.out.alloc _).op (fun hHeld => ?_)
        clear hK K
        try simp only [Act.put, List.getElem_toArray, List.getElem_cons_succ, List.getElem_cons_zero, List.setIfInBounds_toArray, List.set_cons_zero, List.set_cons_succ]
        obtain ⟨V38, hV38⟩ : ∃ X, X = V25.alloc (.cells #[.int .i64 0, .int .u64 0, .int .u64 0, .int .u64 0] 38) := ⟨_, rfl⟩
        obtain ⟨a40, ha40⟩ : ∃ X, X = V25.heap.size := ⟨_, rfl⟩
        have HV39 : Hid (AW W V38 n T g cap S0 S1 S B _ _) := Lib.hid (by rw [hV38]; exact HV26.out.alloc _)
        have HA41 : Hid (RB V38 n S B a40) := Lib.hid (by rw [hV38, ha40]; exact HV26.out.box)
        have HA42 : Hid (RB V38 n S B a27) := Lib.hid (by rw [hV38]; exact HA28.out.alloc _)
        have hne43 : a40 ≠ a27 := by have := HA28.out.lt; omega
        rw [← hV38] at hHeld ⊢
        try rw [← ha40]
        clear hV38 ha40
        refine wpAnyH_ready (rs := [5]) (by kernel_rfl) (by simp) ?_
        refine AllReadyH.cons rfl (fun K hK => ?_) AllReadyH.nil
        · simp only [List.getElem_toArray, List.getElem_cons_succ, List.getElem_cons_zero]
          rw [if_pos (by rfl)]
          go_simp
          refine (HD2.out V38 HV39.out).mono ?_
          rintro _ V44 ⟨rfl, hsh, hO⟩
          have HV45 := Lib.hid (HV39.out.call hsh hO)
          have HA46 := Lib.hid (HA42.out.call hO)
          have HA47 := Lib.hid (HA41.out.call hO)
          clear hsh hO
          go_wp2_with fail
          refine hK.out _ _ HV45.out.op (fun hHeld => ?_)
          clear hK K
          try simp only [Act.put, List.getElem_toArray, List.getElem_cons_succ, List.getElem_cons_zero, List.setIfInBounds_toArray, List.set_cons_zero, List.set_cons_succ]
          have ne45 : a27 ≠ a40 := by have := hne43; omega
          have c0 := cell_of_row V44 a27 0 _ _ (0, 0) HA46.out.box
          have c1 := cell_of_row V44 a27 1 _ _ (0, 0) HA46.out.box
          have c2 := cell_of_row V44 a27 2 _ _ (0, 0) HA46.out.box
          have c3 := cell_of_row V44 a27 3 _ _ (0, 0) HA46.out.box
          have f3 : ∀ i, V44.frozen? ⟨a27, i, none⟩ = false := fun i => by simp [World.frozen?, HA46.out.box]
          have hs := row_set4 (.int .i64 0) (.int .u64 0) (.int .u64 0) (.int .u64 0) rfl HA46.out.box
          have HS := Lib.hid (And.intro hs.1 (And.intro ((hs.2.1 _ (Ne.symm ne45)).trans HA47.out.box) (And.intro ((hs.2.1 _ (by have := HA46.out.ne; omega)).trans HV45.out.op) (hs.2.2 _ _ HV45.out.bel (by have := HA46.out.ne; have := HV45.out.low; omega)))))
          have lo5 : W.heap.size ≤ a40 := by have := HA47.out.ne; have := HV45.out.low; omega
          have n5 : n ≠ a40 := by have := HA47.out.ne; omega
          clear hs
          refine wpAnyH_ready (rs := [8]) (by kernel_rfl) (by simp) ?_
          refine AllReadyH.cons rfl (fun K hK => ?_) AllReadyH.nil
          simp only [List.getElem_toArray, List.getElem_cons_succ, List.getElem_cons_zero]
          rw [if_pos (by rfl)]
          go_simp
          refine hK.out _ _ HS.out.2.2.1 (fun hHeld => ?_)
          clear hK K
          try simp only [Act.put, List.getElem_toArray, List.getElem_cons_succ, List.getElem_cons_zero, List.setIfInBounds_toArray, List.set_cons_zero, List.set_cons_succ]
          generalize ((((V44.setCell ⟨a27, 0, none⟩ (.int .i64 0)).setCell ⟨a27, 1, none⟩ (.int .u64 0)).setCell ⟨a27, 2, none⟩ (.int .u64 0)).setCell ⟨a27, 3, none⟩ (.int .u64 0)) = V8 at HS hHeld ⊢
          clear c0 c1 c2 c3 f3 HV45 HA46 HA47
          have c0 := cell_of_row V8 a40 0 _ _ (0, 0) HS.out.2.1
          have c1 := cell_of_row V8 a40 1 _ _ (0, 0) HS.out.2.1
          have c2 := cell_of_row V8 a40 2 _ _ (0, 0) HS.out.2.1
          have c3 := cell_of_row V8 a40 3 _ _ (0, 0) HS.out.2.1
          have f3 : ∀ i, V8.frozen? ⟨a40, i, none⟩ = false := fun i => by simp [World.frozen?, HS.out.2.1]
          have hs := row_set4 (.int .i64 7) (.int .u64 0) (.int .u64 0) (.int .u64 0) rfl HS.out.2.1
          have HT := Lib.hid (And.intro hs.1 (And.intro ((hs.2.1 _ ne45).trans HS.out.1) (hs.2.2 _ _ HS.out.2.2.2 lo5)))
          have hop := (hs.2.1 _ n5).trans HS.out.2.2.1
          clear hs
          refine wpAnyH_ready (rs := [9]) (by kernel_rfl) (by simp) ?_
          refine AllReadyH.cons rfl (fun K hK => ?_) AllReadyH.nil
          simp only [List.getElem_toArray, List.getElem_cons_succ, List.getElem_cons_zero]
          rw [if_pos (by rfl)]
          go_simp
          refine hK.out _ _ hop (fun hHeld => ?_)
          clear hK K
          try simp only [Act.put, List.getElem_toArray, List.getElem_cons_succ, List.getElem_cons_zero, List.setIfInBounds_toArray, List.set_cons_zero, List.set_cons_succ]
          generalize ((((V8.setCell ⟨a40, 0, none⟩ (.int .i64 7)).setCell ⟨a40, 1, none⟩ (.int .u64 0)).setCell ⟨a40, 2, none⟩ (.int .u64 0)).setCell ⟨a40, 3, none⟩ (.int .u64 0)) = V9 at HT hHeld hop ⊢
          clear c0 c1 c2 c3 f3 HS hop
          refine wpAnyH_done (by kernel_rfl) ?_ _
          have d0 := cell_of_row V9 a27 0 _ _ (0, 0) HT.out.2.1
          have e0 := cell_of_row V9 a40 0 _ _ (0, 0) HT.out.1
          have d1 := cell_of_row V9 a27 1 _ _ (0, 0) HT.out.2.1
          have e1 := cell_of_row V9 a40 1 _ _ (0, 0) HT.out.1
          have d2 := cell_of_row V9 a27 2 _ _ (0, 0) HT.out.2.1
          have e2 := cell_of_row V9 a40 2 _ _ (0, 0) HT.out.1
          have d3 := cell_of_row V9 a27 3 _ _ (0, 0) HT.out.2.1
          have e3 := cell_of_row V9 a40 3 _ _ (0, 0) HT.out.1
          go_wp2
          go_ret
          exact ⟨rfl, HT.out.2.2⟩
    · simp only [List.getElem_toArray, List.getElem_cons_succ, List.getElem_cons_zero]
      rw [if_pos (by rfl)]
      go_simp
      refine hK.out _ _ (HV2.out.alloc _).op (fun hHeld => ?_)
      clear hK K
      try simp only [Act.put, List.getElem_toArray, List.getElem_cons_succ, List.getElem_cons_zero, List.setIfInBounds_toArray, List.set_cons_zero, List.set_cons_succ]
      obtain ⟨V48, hV48⟩ : ∃ X, X = V1.alloc (.cells #[.int .i64 0, .int .u64 0, .int .u64 0, .int .u64 0] 38) := ⟨_, rfl⟩
      obtain ⟨a50, ha50⟩ : ∃ X, X = V1.heap.size := ⟨_, rfl⟩
      have HV49 : Hid (AW W V48 n T g cap S0 S1 S B _ _) := Lib.hid (by rw [hV48]; exact HV2.out.alloc _)
      have HA51 : Hid (RB V48 n S B a50) := Lib.hid (by rw [hV48, ha50]; exact HV2.out.box)
      rw [← hV48] at hHeld ⊢
      try rw [← ha50]
      clear hV48 ha50
      refine wpAnyH_ready (rs := [5, 6]) (by kernel_rfl) (by simp) ?_
      refine AllReadyH.cons rfl (fun K hK => ?_) (AllReadyH.cons rfl (fun K hK => ?_) AllReadyH.nil)
      · simp only [List.getElem_toArray, List.getElem_cons_succ, List.getElem_cons_zero]
        rw [if_pos (by rfl)]
        go_simp
        refine (HD2.out V48 HV49.out).mono ?_
        rintro _ V52 ⟨rfl, hsh, hO⟩
        have HV53 := Lib.hid (HV49.out.call hsh hO)
        have HA54 := Lib.hid (HA51.out.call hO)
        clear hsh hO
        go_wp2_with fail
        refine hK.out _ _ HV53.out.op (fun hHeld => ?_)
        clear hK K
        try simp only [Act.put, List.getElem_toArray, List.getElem_cons_succ, List.getElem_cons_zero, List.setIfInBounds_toArray, List.set_cons_zero, List.set_cons_succ]
        refine wpAnyH_ready (rs := [6]) (by kernel_rfl) (by simp) ?_
        refine AllReadyH.cons rfl (fun K hK => ?_) AllReadyH.nil
        · simp only [List.getElem_toArray, List.getElem_cons_succ, List.getElem_cons_zero]
          rw [if_pos (by rfl)]
          go_simp
          refine hK.out _ _ (HV53.out.alloc _).op (fun hHeld => ?_)
          clear hK K
          try simp only [Act.put, List.getElem_toArray, List.getElem_cons_succ, List.getElem_cons_zero, List.setIfInBounds_toArray, List.set_cons_zero, List.set_cons_succ]
          obtain ⟨V55, hV55⟩ : ∃ X, X = V52.alloc (.cells #[.int .i64 0, .int .u64 0, .int .u64 0, .int .u64 0] 38) := ⟨_, rfl⟩
          obtain ⟨a57, ha57⟩ : ∃ X, X = V52.heap.size := ⟨_, rfl⟩
          have HV56 : Hid (AW W V55 n T g cap S0 S1 S B _ _) := Lib.hid (by rw [hV55]; exact HV53.out.alloc _)
          have HA58 : Hid (RB V55 n S B a57) := Lib.hid (by rw [hV55, ha57]; exact HV53.out.box)
          have HA59 : Hid (RB V55 n S B a50) := Lib.hid (by rw [hV55]; exact HA54.out.alloc _)
          have hne60 : a57 ≠ a50 := by have := HA54.out.lt; omega
          rw [← hV55] at hHeld ⊢
          try rw [← ha57]
          clear hV55 ha57
          have ne45 : a57 ≠ a50 := by have := hne60; omega
          have c0 := cell_of_row V55 a57 0 _ _ (0, 0) HA58.out.box
          have c1 := cell_of_row V55 a57 1 _ _ (0, 0) HA58.out.box
          have c2 := cell_of_row V55 a57 2 _ _ (0, 0) HA58.out.box
          have c3 := cell_of_row V55 a57 3 _ _ (0, 0) HA58.out.box
          have f3 : ∀ i, V55.frozen? ⟨a57, i, none⟩ = false := fun i => by simp [World.frozen?, HA58.out.box]
          have hs := row_set4 (.int .i64 0) (.int .u64 0) (.int .u64 0) (.int .u64 0) rfl HA58.out.box
          have HS := Lib.hid (And.intro hs.1 (And.intro ((hs.2.1 _ (Ne.symm ne45)).trans HA59.out.box) (And.intro ((hs.2.1 _ (by have := HA58.out.ne; omega)).trans HV56.out.op) (hs.2.2 _ _ HV56.out.bel (by have := HA58.out.ne; have := HV56.out.low; omega)))))
          have lo5 : W.heap.size ≤ a50 := by have := HA59.out.ne; have := HV56.out.low; omega
          have n5 : n ≠ a50 := by have := HA59.out.ne; omega
          clear hs
          refine wpAnyH_ready (rs := [8]) (by kernel_rfl) (by simp) ?_
          refine AllReadyH.cons rfl (fun K hK => ?_) AllReadyH.nil
          simp only [List.getElem_toArray, List.getElem_cons_succ, List.getElem_cons_zero]
          rw [if_pos (by rfl)]
          go_simp
          refine hK.out _ _ HS.out.2.2.1 (fun hHeld => ?_)
          clear hK K
          try simp only [Act.put, List.getElem_toArray, List.getElem_cons_succ, List.getElem_cons_zero, List.setIfInBounds_toArray, List.set_cons_zero, List.set_cons_succ]
          generalize ((((V55.setCell ⟨a57, 0, none⟩ (.int .i64 0)).setCell ⟨a57, 1, none⟩ (.int .u64 0)).setCell ⟨a57, 2, none⟩ (.int .u64 0)).setCell ⟨a57, 3, none⟩ (.int .u64 0)) = V8 at HS hHeld ⊢
          clear c0 c1 c2 c3 f3 HV56 HA58 HA59
          have c0 := cell_of_row V8 a50 0 _ _ (0, 0) HS.out.2.1
          have c1 := cell_of_row V8 a50 1 _ _ (0, 0) HS.out.2.1
          have c2 := cell_of_row V8 a50 2 _ _ (0, 0) HS.out.2.1
          have c3 := cell_of_row V8 a50 3 _ _ (0, 0) HS.out.2.1
          have f3 : ∀ i, V8.frozen? ⟨a50, i, none⟩ = false := fun i => by simp [World.frozen?, HS.out.2.1]
          have hs := row_set4 (.int .i64 7) (.int .u64 0) (.int .u64 0) (.int .u64 0) rfl HS.out.2.1
          have HT := Lib.hid (And.intro hs.1 (And.intro ((hs.2.1 _ ne45).trans HS.out.1) (hs.2.2 _ _ HS.out.2.2.2 lo5)))
          have hop := (hs.2.1 _ n5).trans HS.out.2.2.1
          clear hs
          refine wpAnyH_ready (rs := [9]) (by kernel_rfl) (by simp) ?_
          refine AllReadyH.cons rfl (fun K hK => ?_) AllReadyH.nil
          simp only [List.getElem_toArray, List.getElem_cons_succ, List.getElem_cons_zero]
          rw [if_pos (by rfl)]
          go_simp
          refine hK.out _ _ hop (fun hHeld => ?_)
          clear hK K
          try simp only [Act.put, List.getElem_toArray, List.getElem_cons_succ, List.getElem_cons_zero, List.setIfInBounds_toArray, List.set_cons_zero, List.set_cons_succ]
          generalize ((((V8.setCell ⟨a50, 0, none⟩ (.int .i64 7)).setCell ⟨a50, 1, none⟩ (.int .u64 0)).setCell ⟨a50, 2, none⟩ (.int .u64 0)).setCell ⟨a50, 3, none⟩ (.int .u64 0)) = V9 at HT hHeld hop ⊢
          clear c0 c1 c2 c3 f3 HS hop
          refine wpAnyH_done (by kernel_rfl) ?_ _
          have d0 := cell_of_row V9 a57 0 _ _ (0, 0) HT.out.2.1
          have e0 := cell_of_row V9 a50 0 _ _ (0, 0) HT.out.1
          have d1 := cell_of_row V9 a57 1 _ _ (0, 0) HT.out.2.1
          have e1 := cell_of_row V9 a50 1 _ _ (0, 0) HT.out.1
          have d2 := cell_of_row V9 a57 2 _ _ (0, 0) HT.out.2.1
          have e2 := cell_of_row V9 a50 2 _ _ (0, 0) HT.out.1
          have d3 := cell_of_row V9 a57 3 _ _ (0, 0) HT.out.2.1
          have e3 := cell_of_row V9 a50 3 _ _ (0, 0) HT.out.1
          go_wp2
          go_ret
          exact ⟨rfl, HT.out.2.2⟩
      · simp only [List.getElem_toArray, List.getElem_cons_succ, List.getElem_cons_zero]
        rw [if_pos (by rfl)]
        go_simp
        refine hK.out _ _ (HV49.out.alloc _).op (fun hHeld => ?_)
        clear hK K
        try simp only [Act.put, List.getElem_toArray, List.getElem_cons_succ, List.getElem_cons_zero, List.setIfInBounds_toArray, List.set_cons_zero, List.set_cons_succ]
        obtain ⟨V61, hV61⟩ : ∃ X, X = V48.alloc (.cells #[.int .i64 0, .int .u64 0, .int .u64 0, .int .u64 0] 38) := ⟨_, rfl⟩
        obtain ⟨a63, ha63⟩ : ∃ X, X = V48.heap.size := ⟨_, rfl⟩
        have HV62 : Hid (AW W V61 n T g cap S0 S1 S B _ _) := Lib.hid (by rw [hV61]; exact HV49.out.alloc _)
        have HA64 : Hid (RB V61 n S B a63) := Lib.hid (by rw [hV61, ha63]; exact HV49.out.box)
        have HA65 : Hid (RB V61 n S B a50) := Lib.hid (by rw [hV61]; exact HA51.out.alloc _)
        have hne66 : a63 ≠ a50 := by have := HA51.out.lt; omega
        rw [← hV61] at hHeld ⊢
        try rw [← ha63]
        clear hV61 ha63
        refine wpAnyH_ready (rs := [5]) (by kernel_rfl) (by simp) ?_
        refine AllReadyH.cons rfl (fun K hK => ?_) AllReadyH.nil
        · simp only [List.getElem_toArray, List.getElem_cons_succ, List.getElem_cons_zero]
          rw [if_pos (by rfl)]
          go_simp
          refine (HD2.out V61 HV62.out).mono ?_
          rintro _ V67 ⟨rfl, hsh, hO⟩
          have HV68 := Lib.hid (HV62.out.call hsh hO)
          have HA69 := Lib.hid (HA64.out.call hO)
          have HA70 := Lib.hid (HA65.out.call hO)
          clear hsh hO
          go_wp2_with fail
          refine hK.out _ _ HV68.out.op (fun hHeld => ?_)
          clear hK K
          try simp only [Act.put, List.getElem_toArray, List.getElem_cons_succ, List.getElem_cons_zero, List.setIfInBounds_toArray, List.set_cons_zero, List.set_cons_succ]
          have ne45 : a63 ≠ a50 := by have := hne66; omega
          have c0 := cell_of_row V67 a63 0 _ _ (0, 0) HA69.out.box
          have c1 := cell_of_row V67 a63 1 _ _ (0, 0) HA69.out.box
          have c2 := cell_of_row V67 a63 2 _ _ (0, 0) HA69.out.box
          have c3 := cell_of_row V67 a63 3 _ _ (0, 0) HA69.out.box
          have f3 : ∀ i, V67.frozen? ⟨a63, i, none⟩ = false := fun i => by simp [World.frozen?, HA69.out.box]
          have hs := row_set4 (.int .i64 0) (.int .u64 0) (.int .u64 0) (.int .u64 0) rfl HA69.out.box
          have HS := Lib.hid (And.intro hs.1 (And.intro ((hs.2.1 _ (Ne.symm ne45)).trans HA70.out.box) (And.intro ((hs.2.1 _ (by have := HA69.out.ne; omega)).trans HV68.out.op) (hs.2.2 _ _ HV68.out.bel (by have := HA69.out.ne; have := HV68.out.low; omega)))))
          have lo5 : W.heap.size ≤ a50 := by have := HA70.out.ne; have := HV68.out.low; omega
          have n5 : n ≠ a50 := by have := HA70.out.ne; omega
          clear hs
          refine wpAnyH_ready (rs := [8]) (by kernel_rfl) (by simp) ?_
          refine AllReadyH.cons rfl (fun K hK => ?_) AllReadyH.nil
          simp only [List.getElem_toArray, List.getElem_cons_succ, List.getElem_cons_zero]
          rw [if_pos (by rfl)]
          go_simp
          refine hK.out _ _ HS.out.2.2.1 (fun hHeld => ?_)
          clear hK K
          try simp only [Act.put, List.getElem_toArray, List.getElem_cons_succ, List.getElem_cons_zero, List.setIfInBounds_toArray, List.set_cons_zero, List.set_cons_succ]
          generalize ((((V67.setCell ⟨a63, 0, none⟩ (.int .i64 0)).setCell ⟨a63, 1, none⟩ (.int .u64 0)).setCell ⟨a63, 2, none⟩ (.int .u64 0)).setCell ⟨a63, 3, none⟩ (.int .u64 0)) = V8 at HS hHeld ⊢
          clear c0 c1 c2 c3 f3 HV68 HA69 HA70
          have c0 := cell_of_row V8 a50 0 _ _ (0, 0) HS.out.2.1
          have c1 := cell_of_row V8 a50 1 _ _ (0, 0) HS.out.2.1
          have c2 := cell_of_row V8 a50 2 _ _ (0, 0) HS.out.2.1
          have c3 := cell_of_row V8 a50 3 _ _ (0, 0) HS.out.2.1
          have f3 : ∀ i, V8.frozen? ⟨a50, i, none⟩ = false := fun i => by simp [World.frozen?, HS.out.2.1]
          have hs := row_set4 (.int .i64 7) (.int .u64 0) (.int .u64 0) (.int .u64 0) rfl HS.out.2.1
          have HT := Lib.hid (And.intro hs.1 (And.intro ((hs.2.1 _ ne45).trans HS.out.1) (hs.2.2 _ _ HS.out.2.2.2 lo5)))
          have hop := (hs.2.1 _ n5).trans HS.out.2.2.1
          clear hs
          refine wpAnyH_ready (rs := [9]) (by kernel_rfl) (by simp) ?_
          refine AllReadyH.cons rfl (fun K hK => ?_) AllReadyH.nil
          simp only [List.getElem_toArray, List.getElem_cons_succ, List.getElem_cons_zero]
          rw [if_pos (by rfl)]
          go_simp
          refine hK.out _ _ hop (fun hHeld => ?_)
          clear hK K
          try simp only [Act.put, List.getElem_toArray, List.getElem_cons_succ, List.getElem_cons_zero, List.setIfInBounds_toArray, List.set_cons_zero, List.set_cons_succ]
          generalize ((((V8.setCell ⟨a50, 0, none⟩ (.int .i64 7)).setCell ⟨a50, 1, none⟩ (.int .u64 0)).setCell ⟨a50, 2, none⟩ (.int .u64 0)).setCell ⟨a50, 3, none⟩ (.int .u64 0)) = V9 at HT hHeld hop ⊢
          clear c0 c1 c2 c3 f3 HS hop
          refine wpAnyH_done (by kernel_rfl) ?_ _
          have d0 := cell_of_row V9 a63 0 _ _ (0, 0) HT.out.2.1
          have e0 := cell_of_row V9 a50 0 _ _ (0, 0) HT.out.1
          have d1 := cell_of_row V9 a63 1 _ _ (0, 0) HT.out.2.1
          have e1 := cell_of_row V9 a50 1 _ _ (0, 0) HT.out.1
          have d2 := cell_of_row V9 a63 2 _ _ (0, 0) HT.out.2.1
          have e2 := cell_of_row V9 a50 2 _ _ (0, 0) HT.out.1
          have d3 := cell_of_row V9 a63 3 _ _ (0, 0) HT.out.2.1
          have e3 := cell_of_row V9 a50 3 _ _ (0, 0) HT.out.1
          go_wp2
          go_ret
          exact ⟨rfl, HT.out.2.2⟩
  · simp only [List.getElem_toArray, List.getElem_cons_succ, List.getElem_cons_zero]
    rw [if_pos (by rfl)]
    go_simp
    refine hK.out _ _ (HV0.out.alloc _).op (fun hHeld => ?_)
    clear hK K
    try simp only [Act.put, List.getElem_toArray, List.getElem_cons_succ, List.getElem_cons_zero, List.setIfInBounds_toArray, List.set_cons_zero, List.set_cons_succ]
    obtain ⟨V71, hV71⟩ : ∃ X, X = V0.alloc (.cells #[.int .i64 0, .int .u64 0, .int .u64 0, .int .u64 0] 38) := ⟨_, rfl⟩
    obtain ⟨a73, ha73⟩ : ∃ X, X = V0.heap.size := ⟨_, rfl⟩
    have HV72 : Hid (AW W V71 n T g cap S0 S1 S B _ _) := Lib.hid (by rw [hV71]; exact HV0.out.alloc _)
    have HA74 : Hid (RB V71 n S B a73) := Lib.hid (by rw [hV71, ha73]; exact HV0.out.box)
    rw [← hV71] at hHeld ⊢
    try rw [← ha73]
    clear hV71 ha73
    refine wpAnyH_ready (rs := [2, 7]) (by kernel_rfl) (by simp) ?_
    refine AllReadyH.cons rfl (fun K hK => ?_) (AllReadyH.cons rfl (fun K hK => ?_) AllReadyH.nil)
    · simp only [List.getElem_toArray, List.getElem_cons_succ, List.getElem_cons_zero]
      rw [if_pos (by rfl)]
      go_simp
      refine (HD1.out V71 HV72.out).mono ?_
      rintro _ V75 ⟨rfl, hsh, hO⟩
      have HV76 := Lib.hid (HV72.out.call hsh hO)
      have HA77 := Lib.hid (HA74.out.call hO)
      clear hsh hO
      go_wp2_with fail
      refine hK.out _ _ HV76.out.op (fun hHeld => ?_)
      clear hK K
      try simp only [Act.put, List.getElem_toArray, List.getElem_cons_succ, List.getElem_cons_zero, List.setIfInBounds_toArray, List.set_cons_zero, List.set_cons_succ]
      refine wpAnyH_ready (rs := [5, 7]) (by kernel_rfl) (by simp) ?_
      refine AllReadyH.cons rfl (fun K hK => ?_) (AllReadyH.cons rfl (fun K hK => ?_) AllReadyH.nil)
      · simp only [List.getElem_toArray, List.getElem_cons_succ, List.getElem_cons_zero]
        rw [if_pos (by rfl)]
        go_simp
        refine (HD2.out V75 HV76.out).mono ?_
        rintro _ V78 ⟨rfl, hsh, hO⟩
        have HV79 := Lib.hid (HV76.out.call hsh hO)
        have HA80 := Lib.hid (HA77.out.call hO)
        clear hsh hO
        go_wp2_with fail
        refine hK.out _ _ HV79.out.op (fun hHeld => ?_)
        clear hK K
        try simp only [Act.put, List.getElem_toArray, List.getElem_cons_succ, List.getElem_cons_zero, List.setIfInBounds_toArray, List.set_cons_zero, List.set_cons_succ]
        refine wpAnyH_ready (rs := [7]) (by kernel_rfl) (by simp) ?_
        refine AllReadyH.cons rfl (fun K hK => ?_) AllReadyH.nil
        · simp only [List.getElem_toArray, List.getElem_cons_succ, List.getElem_cons_zero]
          rw [if_pos (by rfl)]
          go_simp
          refine hK.out _ _ (HV79.out.alloc _).op (fun hHeld => ?_)
          clear hK K
          try simp only [Act.put, List.getElem_toArray, List.getElem_cons_succ, List.getElem_cons_zero, List.setIfInBounds_toArray, List.set_cons_zero, List.set_cons_succ]
          obtain ⟨V81, hV81⟩ : ∃ X, X = V78.alloc (.cells #[.int .i64 0, .int .u64 0, .int .u64 0, .int .u64 0] 38) := ⟨_, rfl⟩
          obtain ⟨a83, ha83⟩ : ∃ X, X = V78.heap.size := ⟨_, rfl⟩
          have HV82 : Hid (AW W V81 n T g cap S0 S1 S B _ _) := Lib.hid (by rw [hV81]; exact HV79.out.alloc _)
          have HA84 : Hid (RB V81 n S B a83) := Lib.hid (by rw [hV81, ha83]; exact HV79.out.box)
          have HA85 : Hid (RB V81 n S B a73) := Lib.hid (by rw [hV81]; exact HA80.out.alloc _)
          have hne86 : a83 ≠ a73 := by have := HA80.out.lt; omega
          rw [← hV81] at hHeld ⊢
          try rw [← ha83]
          clear hV81 ha83
          have ne45 : a73 ≠ a83 := by have := hne86; omega
          have c0 := cell_of_row V81 a73 0 _ _ (0, 0) HA85.out.box
          have c1 := cell_of_row V81 a73 1 _ _ (0, 0) HA85.out.box
          have c2 := cell_of_row V81 a73 2 _ _ (0, 0) HA85.out.box
          have c3 := cell_of_row V81 a73 3 _ _ (0, 0) HA85.out.box
          have f3 : ∀ i, V81.frozen? ⟨a73, i, none⟩ = false := fun i => by simp [World.frozen?, HA85.out.box]
          have hs := row_set4 (.int .i64 0) (.int .u64 0) (.int .u64 0) (.int .u64 0) rfl HA85.out.box
          have HS := Lib.hid (And.intro hs.1 (And.intro ((hs.2.1 _ (Ne.symm ne45)).trans HA84.out.box) (And.intro ((hs.2.1 _ (by have := HA85.out.ne; omega)).trans HV82.out.op) (hs.2.2 _ _ HV82.out.bel (by have := HA85.out.ne; have := HV82.out.low; omega)))))
          have lo5 : W.heap.size ≤ a83 := by have := HA84.out.ne; have := HV82.out.low; omega
          have n5 : n ≠ a83 := by have := HA84.out.ne; omega
          clear hs
          refine wpAnyH_ready (rs := [8]) (by kernel_rfl) (by simp) ?_
          refine AllReadyH.cons rfl (fun K hK => ?_) AllReadyH.nil
          simp only [List.getElem_toArray, List.getElem_cons_succ, List.getElem_cons_zero]
          rw [if_pos (by rfl)]
          go_simp
          refine hK.out _ _ HS.out.2.2.1 (fun hHeld => ?_)
          clear hK K
          try simp only [Act.put, List.getElem_toArray, List.getElem_cons_succ, List.getElem_cons_zero, List.setIfInBounds_toArray, List.set_cons_zero, List.set_cons_succ]
          generalize ((((V81.setCell ⟨a73, 0, none⟩ (.int .i64 0)).setCell ⟨a73, 1, none⟩ (.int .u64 0)).setCell ⟨a73, 2, none⟩ (.int .u64 0)).setCell ⟨a73, 3, none⟩ (.int .u64 0)) = V8 at HS hHeld ⊢
          clear c0 c1 c2 c3 f3 HV82 HA85 HA84
          have c0 := cell_of_row V8 a83 0 _ _ (0, 0) HS.out.2.1
          have c1 := cell_of_row V8 a83 1 _ _ (0, 0) HS.out.2.1
          have c2 := cell_of_row V8 a83 2 _ _ (0, 0) HS.out.2.1
          have c3 := cell_of_row V8 a83 3 _ _ (0, 0) HS.out.2.1
          have f3 : ∀ i, V8.frozen? ⟨a83, i, none⟩ = false := fun i => by simp [World.frozen?, HS.out.2.1]
          have hs := row_set4 (.int .i64 7) (.int .u64 0) (.int .u64 0) (.int .u64 0) rfl HS.out.2.1
          have HT := Lib.hid (And.intro hs.1 (And.intro ((hs.2.1 _ ne45).trans HS.out.1) (hs.2.2 _ _ HS.out.2.2.2 lo5)))
          have hop := (hs.2.1 _ n5).trans HS.out.2.2.1
          clear hs
          refine wpAnyH_ready (rs := [9]) (by kernel_rfl) (by simp) ?_
          refine AllReadyH.cons rfl (fun K hK => ?_) AllReadyH.nil
          simp only [List.getElem_toArray, List.getElem_cons_succ, List.getElem_cons_zero]
          rw [if_pos (by rfl)]
          go_simp
          refine hK.out _ _ hop (fun hHeld => ?_)
          clear hK K
          try simp only [Act.put, List.getElem_toArray, List.getElem_cons_succ, List.getElem_cons_zero, List.setIfInBounds_toArray, List.set_cons_zero, List.set_cons_succ]
          generalize ((((V8.setCell ⟨a83, 0, none⟩ (.int .i64 7)).setCell ⟨a83, 1, none⟩ (.int .u64 0)).setCell ⟨a83, 2, none⟩ (.int .u64 0)).setCell ⟨a83, 3, none⟩ (.int .u64 0)) = V9 at HT hHeld hop ⊢
          clear c0 c1 c2 c3 f3 HS hop
          refine wpAnyH_done (by kernel_rfl) ?_ _
          have d0 := cell_of_row V9 a73 0 _ _ (0, 0) HT.out.2.1
          have e0 := cell_of_row V9 a83 0 _ _ (0, 0) HT.out.1
          have d1 := cell_of_row V9 a73 1 _ _ (0, 0) HT.out.2.1
          have e1 := cell_of_row V9 a83 1 _ _ (0, 0) HT.out.1
          have d2 := cell_of_row V9 a73 2 _ _ (0, 0) HT.out.2.1
          have e2 := cell_of_row V9 a83 2 _ _ (0, 0) HT.out.1
          have d3 := cell_of_row V9 a73 3 _ _ (0, 0) HT.out.2.1
          have e3 := cell_of_row V9 a83 3 _ _ (0, 0) HT.out.1
          go_wp2
          go_ret
          exact ⟨rfl, HT.out.2.2⟩
      · simp only [List.getElem_toArray, List.getElem_cons_succ, List.getElem_cons_zero]
        rw [if_pos (by rfl)]
        go_simp
        refine hK.out _ _ (HV76.out.alloc _).op (fun hHeld => ?_)
        clear hK K
        try simp only [Act.put, List.getElem_toArray, List.getElem_cons_succ, List.getElem_cons_zero, List.setIfInBounds_toArray, List.set_cons_zero, List.set_cons_succ]
        obtain ⟨V87, hV87⟩ : ∃ X, X = V75.alloc (.cells #[.int .i64 0, .int .u64 0, .int .u64 0, .int .u64 0] 38) := ⟨_, rfl⟩
        obtain ⟨a89, ha89⟩ : ∃ X, X = V75.heap.size := ⟨_, rfl⟩
        have HV88 : Hid (AW W V87 n T g cap S0 S1 S B _ _) := Lib.hid (by rw [hV87]; exact HV76.out.alloc _)
        have HA90 : Hid (RB V87 n S B a89) := Lib.hid (by rw [hV87, ha89]; exact HV76.out.box)
        have HA91 : Hid (RB V87 n S B a73) := Lib.hid (by rw [hV87]; exact HA77.out.alloc _)
        have hne92 : a89 ≠ a73 := by have := HA77.out.lt; omega
        rw [← hV87] at hHeld ⊢
        try rw [← ha89]
        clear hV87 ha89
        refine wpAnyH_ready (rs := [5]) (by kernel_rfl) (by simp) ?_
        refine AllReadyH.cons rfl (fun K hK => ?_) AllReadyH.nil
        · simp only [List.getElem_toArray, List.getElem_cons_succ, List.getElem_cons_zero]
          rw [if_pos (by rfl)]
          go_simp
          refine (HD2.out V87 HV88.out).mono ?_
          rintro _ V93 ⟨rfl, hsh, hO⟩
          have HV94 := Lib.hid (HV88.out.call hsh hO)
          have HA95 := Lib.hid (HA91.out.call hO)
          have HA96 := Lib.hid (HA90.out.call hO)
          clear hsh hO
          go_wp2_with fail
          refine hK.out _ _ HV94.out.op (fun hHeld => ?_)
          clear hK K
          try simp only [Act.put, List.getElem_toArray, List.getElem_cons_succ, List.getElem_cons_zero, List.setIfInBounds_toArray, List.set_cons_zero, List.set_cons_succ]
          have ne45 : a73 ≠ a89 := by have := hne92; omega
          have c0 := cell_of_row V93 a73 0 _ _ (0, 0) HA95.out.box
          have c1 := cell_of_row V93 a73 1 _ _ (0, 0) HA95.out.box
          have c2 := cell_of_row V93 a73 2 _ _ (0, 0) HA95.out.box
          have c3 := cell_of_row V93 a73 3 _ _ (0, 0) HA95.out.box
          have f3 : ∀ i, V93.frozen? ⟨a73, i, none⟩ = false := fun i => by simp [World.frozen?, HA95.out.box]
          have hs := row_set4 (.int .i64 0) (.int .u64 0) (.int .u64 0) (.int .u64 0) rfl HA95.out.box
          have HS := Lib.hid (And.intro hs.1 (And.intro ((hs.2.1 _ (Ne.symm ne45)).trans HA96.out.box) (And.intro ((hs.2.1 _ (by have := HA95.out.ne; omega)).trans HV94.out.op) (hs.2.2 _ _ HV94.out.bel (by have := HA95.out.ne; have := HV94.out.low; omega)))))
          have lo5 : W.heap.size ≤ a89 := by have := HA96.out.ne; have := HV94.out.low; omega
          have n5 : n ≠ a89 := by have := HA96.out.ne; omega
          clear hs
          refine wpAnyH_ready (rs := [8]) (by kernel_rfl) (by simp) ?_
          refine AllReadyH.cons rfl (fun K hK => ?_) AllReadyH.nil
          simp only [List.getElem_toArray, List.getElem_cons_succ, List.getElem_cons_zero]
          rw [if_pos (by rfl)]
          go_simp
          refine hK.out _ _ HS.out.2.2.1 (fun hHeld => ?_)
          clear hK K
          try simp only [Act.put, List.getElem_toArray, List.getElem_cons_succ, List.getElem_cons_zero, List.setIfInBounds_toArray, List.set_cons_zero, List.set_cons_succ]
          generalize ((((V93.setCell ⟨a73, 0, none⟩ (.int .i64 0)).setCell ⟨a73, 1, none⟩ (.int .u64 0)).setCell ⟨a73, 2, none⟩ (.int .u64 0)).setCell ⟨a73, 3, none⟩ (.int .u64 0)) = V8 at HS hHeld ⊢
          clear c0 c1 c2 c3 f3 HV94 HA95 HA96
          have c0 := cell_of_row V8 a89 0 _ _ (0, 0) HS.out.2.1
          have c1 := cell_of_row V8 a89 1 _ _ (0, 0) HS.out.2.1
          have c2 := cell_of_row V8 a89 2 _ _ (0, 0) HS.out.2.1
          have c3 := cell_of_row V8 a89 3 _ _ (0, 0) HS.out.2.1
          have f3 : ∀ i, V8.frozen? ⟨a89, i, none⟩ = false := fun i => by simp [World.frozen?, HS.out.2.1]
          have hs := row_set4 (.int .i64 7) (.int .u64 0) (.int .u64 0) (.int .u64 0) rfl HS.out.2.1
          have HT := Lib.hid (And.intro hs.1 (And.intro ((hs.2.1 _ ne45).trans HS.out.1) (hs.2.2 _ _ HS.out.2.2.2 lo5)))
          have hop := (hs.2.1 _ n5).trans HS.out.2.2.1
          clear hs
          refine wpAnyH_ready (rs := [9]) (by kernel_rfl) (by simp) ?_
          refine AllReadyH.cons rfl (fun K hK => ?_) AllReadyH.nil
          simp only [List.getElem_toArray, List.getElem_cons_succ, List.getElem_cons_zero]
          rw [if_pos (by rfl)]
          go_simp
          refine hK.out _ _ hop (fun hHeld => ?_)
          clear hK K
          try simp only [Act.put, List.getElem_toArray, List.getElem_cons_succ, List.getElem_cons_zero, List.setIfInBounds_toArray, List.set_cons_zero, List.set_cons_succ]
          generalize ((((V8.setCell ⟨a89, 0, none⟩ (.int .i64 7)).setCell ⟨a89, 1, none⟩ (.int .u64 0)).setCell ⟨a89, 2, none⟩ (.int .u64 0)).setCell ⟨a89, 3, none⟩ (.int .u64 0)) = V9 at HT hHeld hop ⊢
          clear c0 c1 c2 c3 f3 HS hop
          refine wpAnyH_done (by kernel_rfl) ?_ _
          have d0 := cell_of_row V9 a73 0 _ _ (0, 0) HT.out.2.1
          have e0 := cell_of_row V9 a89 0 _ _ (0, 0) HT.out.1
          have d1 := cell_of_row V9 a73 1 _ _ (0, 0) HT.out.2.1
          have e1 := cell_of_row V9 a89 1 _ _ (0, 0) HT.out.1
          have d2 := cell_of_row V9 a73 2 _ _ (0, 0) HT.out.2.1
          have e2 := cell_of_row V9 a89 2 _ _ (0, 0) HT.out.1
          have d3 := cell_of_row V9 a73 3 _ _ (0, 0) HT.out.2.1
          have e3 := cell_of_row V9 a89 3 _ _ (0, 0) HT.out.1
          go_wp2
          go_ret
          exact ⟨rfl, HT.out.2.2⟩
    · simp only [List.getElem_toArray, List.getElem_cons_succ, List.getElem_cons_zero]
      rw [if_pos (by rfl)]
      go_simp
      refine hK.out _ _ (HV72.out.alloc _).op (fun hHeld => ?_)
      clear hK K
      try simp only [Act.put, List.getElem_toArray, List.getElem_cons_succ, List.getElem_cons_zero, List.setIfInBounds_toArray, List.set_cons_zero, List.set_cons_succ]
      obtain ⟨V97, hV97⟩ : ∃ X, X = V71.alloc (.cells #[.int .i64 0, .int .u64 0, .int .u64 0, .int .u64 0] 38) := ⟨_, rfl⟩
      obtain ⟨a99, ha99⟩ : ∃ X, X = V71.heap.size := ⟨_, rfl⟩
      have HV98 : Hid (AW W V97 n T g cap S0 S1 S B _ _) := Lib.hid (by rw [hV97]; exact HV72.out.alloc _)
      have HA100 : Hid (RB V97 n S B a99) := Lib.hid (by rw [hV97, ha99]; exact HV72.out.box)
      have HA101 : Hid (RB V97 n S B a73) := Lib.hid (by rw [hV97]; exact HA74.out.alloc _)
      have hne102 : a99 ≠ a73 := by have := HA74.out.lt; omega
      rw [← hV97] at hHeld ⊢
      try rw [← ha99]
      clear hV97 ha99
      refine wpAnyH_ready (rs := [2]) (by kernel_rfl) (by simp) ?_
      refine AllReadyH.cons rfl (fun K hK => ?_) AllReadyH.nil
      · simp only [List.getElem_toArray, List.getElem_cons_succ, List.getElem_cons_zero]
        rw [if_pos (by rfl)]
        go_simp
        refine (HD1.out V97 HV98.out).mono ?_
        rintro _ V103 ⟨rfl, hsh, hO⟩
        have HV104 := Lib.hid (HV98.out.call hsh hO)
        have HA105 := Lib.hid (HA101.out.call hO)
        have HA106 := Lib.hid (HA100.out.call hO)
        clear hsh hO
        go_wp2_with fail
        refine hK.out _ _ HV104.out.op (fun hHeld => ?_)
        clear hK K
        try simp only [Act.put, List.getElem_toArray, List.getElem_cons_succ, List.getElem_cons_zero, List.setIfInBounds_toArray, List.set_cons_zero, List.set_cons_succ]
        refine wpAnyH_ready (rs := [5]) (by kernel_rfl) (by simp) ?_
        refine AllReadyH.cons rfl (fun K hK => ?_) AllReadyH.nil
        · simp only [List.getElem_toArray, List.getElem_cons_succ, List.getElem_cons_zero]
          rw [if_pos (by rfl)]
          go_simp
          refine (HD2.out V103 HV104.out).mono ?_
          rintro _ V107 ⟨rfl, hsh, hO⟩
          have HV108 := Lib.hid (HV104.out.call hsh hO)
          have HA109 := Lib.hid (HA105.out.call hO)
          have HA110 := Lib.hid (HA106.out.call hO)
          clear hsh hO
          go_wp2_with fail
          refine hK.out _ _ HV108.out.op (fun hHeld => ?_)
          clear hK K
          try simp only [Act.put, List.getElem_toArray, List.getElem_cons_succ, List.getElem_cons_zero, List.setIfInBounds_toArray, List.set_cons_zero, List.set_cons_succ]
          have ne45 : a73 ≠ a99 := by have := hne102; omega
          have c0 := cell_of_row V107 a73 0 _ _ (0, 0) HA109.out.box
          have c1 := cell_of_row V107 a73 1 _ _ (0, 0) HA109.out.box
          have c2 := cell_of_row V107 a73 2 _ _ (0, 0) HA109.out.box
          have c3 := cell_of_row V107 a73 3 _ _ (0, 0) HA109.out.box
          have f3 : ∀ i, V107.frozen? ⟨a73, i, none⟩ = false := fun i => by simp [World.frozen?, HA109.out.box]
          have hs := row_set4 (.int .i64 0) (.int .u64 0) (.int .u64 0) (.int .u64 0) rfl HA109.out.box
          have HS := Lib.hid (And.intro hs.1 (And.intro ((hs.2.1 _ (Ne.symm ne45)).trans HA110.out.box) (And.intro ((hs.2.1 _ (by have := HA109.out.ne; omega)).trans HV108.out.op) (hs.2.2 _ _ HV108.out.bel (by have := HA109.out.ne; have := HV108.out.low; omega)))))
          have lo5 : W.heap.size ≤ a99 := by have := HA110.out.ne; have := HV108.out.low; omega
          have n5 : n ≠ a99 := by have := HA110.out.ne; omega
          clear hs
          refine wpAnyH_ready (rs := [8]) (by kernel_rfl) (by simp) ?_
          refine AllReadyH.cons rfl (fun K hK => ?_) AllReadyH.nil
          simp only [List.getElem_toArray, List.getElem_cons_succ, List.getElem_cons_zero]
          rw [if_pos (by rfl)]
          go_simp
          refine hK.out _ _ HS.out.2.2.1 (fun hHeld => ?_)
          clear hK K
          try simp only [Act.put, List.getElem_toArray, List.getElem_cons_succ, List.getElem_cons_zero, List.setIfInBounds_toArray, List.set_cons_zero, List.set_cons_succ]
          generalize ((((V107.setCell ⟨a73, 0, none⟩ (.int .i64 0)).setCell ⟨a73, 1, none⟩ (.int .u64 0)).setCell ⟨a73, 2, none⟩ (.int .u64 0)).setCell ⟨a73, 3, none⟩ (.int .u64 0)) = V8 at HS hHeld ⊢
          clear c0 c1 c2 c3 f3 HV108 HA109 HA110
          have c0 := cell_of_row V8 a99 0 _ _ (0, 0) HS.out.2.1
          have c1 := cell_of_row V8 a99 1 _ _ (0, 0) HS.out.2.1
          have c2 := cell_of_row V8 a99 2 _ _ (0, 0) HS.out.2.1
          have c3 := cell_of_row V8 a99 3 _ _ (0, 0) HS.out.2.1
          have f3 : ∀ i, V8.frozen? ⟨a99, i, none⟩ = false := fun i => by simp [World.frozen?, HS.out.2.1]
          have hs := row_set4 (.int .i64 7) (.int .u64 0) (.int .u64 0) (.int .u64 0) rfl HS.out.2.1
          have HT := Lib.hid (And.intro hs.1 (And.intro ((hs.2.1 _ ne45).trans HS.out.1) (hs.2.2 _ _ HS.out.2.2.2 lo5)))
          have hop := (hs.2.1 _ n5).trans HS.out.2.2.1
          clear hs
          refine wpAnyH_ready (rs := [9]) (by kernel_rfl) (by simp) ?_
          refine AllReadyH.cons rfl (fun K hK => ?_) AllReadyH.nil
          simp only [List.getElem_toArray, List.getElem_cons_succ, List.getElem_cons_zero]
          rw [if_pos (by rfl)]
          go_simp
          refine hK.out _ _ hop (fun hHeld => ?_)
          clear hK K
          try simp only [Act.put, List.getElem_toArray, List.getElem_cons_succ, List.getElem_cons_zero, List.setIfInBounds_toArray, List.set_cons_zero, List.set_cons_succ]
          generalize ((((V8.setCell ⟨a99, 0, none⟩ (.int .i64 7)).setCell ⟨a99, 1, none⟩ (.int .u64 0)).setCell ⟨a99, 2, none⟩ (.int .u64 0)).setCell ⟨a99, 3, none⟩ (.int .u64 0)) = V9 at HT hHeld hop ⊢
          clear c0 c1 c2 c3 f3 HS hop
          refine wpAnyH_done (by kernel_rfl) ?_ _
          have d0 := cell_of_row V9 a73 0 _ _ (0, 0) HT.out.2.1
          have e0 := cell_of_row V9 a99 0 _ _ (0, 0) HT.out.1
          have d1 := cell_of_row V9 a73 1 _ _ (0, 0) HT.out.2.1
          have e1 := cell_of_row V9 a99 1 _ _ (0, 0) HT.out.1
          have d2 := cell_of_row V9 a73 2 _ _ (0, 0) HT.out.2.1
          have e2 := cell_of_row V9 a99 2 _ _ (0, 0) HT.out.1
          have d3 := cell_of_row V9 a73 3 _ _ (0, 0) HT.out.2.1
          have e3 := cell_of_row V9 a99 3 _ _ (0, 0) HT.out.1
          go_wp2
          go_ret
          exact ⟨rfl, HT.out.2.2⟩
  · simp only [List.getElem_toArray, List.getElem_cons_succ, List.getElem_cons_zero]
    rw [if_pos (by rfl)]
    go_simp
    refine hK.out _ _ (HV0.out.alloc _).op (fun hHeld => ?_)
    clear hK K
    try simp only [Act.put, List.getElem_toArray, List.getElem_cons_succ, List.getElem_cons_zero, List.setIfInBounds_toArray, List.set_cons_zero, List.set_cons_succ]
    obtain ⟨V111, hV111⟩ : ∃ X, X = V0.alloc (.cells #[.int .i64 0, .int .u64 0, .int .u64 0, .int .u64 0] 38) := ⟨_, rfl⟩
    obtain ⟨a113, ha113⟩ : ∃ X, X = V0.heap.size := ⟨_, rfl⟩
    have HV112 : Hid (AW W V111 n T g cap S0 S1 S B _ _) := Lib.hid (by rw [hV111]; exact HV0.out.alloc _)
    have HA114 : Hid (RB V111 n S B a113) := Lib.hid (by rw [hV111, ha113]; exact HV0.out.box)
    rw [← hV111] at hHeld ⊢
    try rw [← ha113]
    clear hV111 ha113
    refine wpAnyH_ready (rs := [2, 6]) (by kernel_rfl) (by simp) ?_
    refine AllReadyH.cons rfl (fun K hK => ?_) (AllReadyH.cons rfl (fun K hK => ?_) AllReadyH.nil)
    · simp only [List.getElem_toArray, List.getElem_cons_succ, List.getElem_cons_zero]
      rw [if_pos (by rfl)]
      go_simp
      refine (HD1.out V111 HV112.out).mono ?_
      rintro _ V115 ⟨rfl, hsh, hO⟩
      have HV116 := Lib.hid (HV112.out.call hsh hO)
      have HA117 := Lib.hid (HA114.out.call hO)
      clear hsh hO
      go_wp2_with fail
      refine hK.out _ _ HV116.out.op (fun hHeld => ?_)
      clear hK K
      try simp only [Act.put, List.getElem_toArray, List.getElem_cons_succ, List.getElem_cons_zero, List.setIfInBounds_toArray, List.set_cons_zero, List.set_cons_succ]
      refine wpAnyH_ready (rs := [5, 6]) (by kernel_rfl) (by simp) ?_
      refine AllReadyH.cons rfl (fun K hK => ?_) (AllReadyH.cons rfl (fun K hK => ?_) AllReadyH.nil)
      · simp only [List.getElem_toArray, List.getElem_cons_succ, List.getElem_cons_zero]
        rw [if_pos (by rfl)]
        go_simp
        refine (HD2.out V115 HV116.out).mono ?_
        rintro _ V118 ⟨rfl, hsh, hO⟩
        have HV119 := Lib.hid (HV116.out.call hsh hO)
        have HA120 := Lib.hid (HA117.out.call hO)
        clear hsh hO
        go_wp2_with fail
        refine hK.out _ _ HV119.out.op (fun hHeld => ?_)
        clear hK K
        try simp only [Act.put, List.getElem_toArray, List.getElem_cons_succ, List.getElem_cons_zero, List.setIfInBounds_toArray, List.set_cons_zero, List.set_cons_succ]
        refine wpAnyH_ready (rs := [6]) (by kernel_rfl) (by simp) ?_
        refine AllReadyH.cons rfl (fun K hK => ?_) AllReadyH.nil
        · simp only [List.getElem_toArray, List.getElem_cons_succ, List.getElem_cons_zero]
          rw [if_pos (by rfl)]
          go_simp
          refine hK.out _ _ (HV119.out.alloc _).op (fun hHeld => ?_)
          clear hK K
          try simp only [Act.put, List.getElem_toArray, List.getElem_cons_succ, List.getElem_cons_zero, List.setIfInBounds_toArray, List.set_cons_zero, List.set_cons_succ]
          obtain ⟨V121, hV121⟩ : ∃ X, X = V118.alloc (.cells #[.int .i64 0, .int .u64 0, .int .u64 0, .int .u64 0] 38) := ⟨_, rfl⟩
          obtain ⟨a123, ha123⟩ : ∃ X, X = V118.heap.size := ⟨_, rfl⟩
          have HV122 : Hid (AW W V121 n T g cap S0 S1 S B _ _) := Lib.hid (by rw [hV121]; exact HV119.out.alloc _)
          have HA124 : Hid (RB V121 n S B a123) := Lib.hid (by rw [hV121, ha123]; exact HV119.out.box)
          have HA125 : Hid (RB V121 n S B a113) := Lib.hid (by rw [hV121]; exact HA120.out.alloc _)
          have hne126 : a123 ≠ a113 := by have := HA120.out.lt; omega
          rw [← hV121] at hHeld ⊢
          try rw [← ha123]
          clear hV121 ha123
          have ne45 : a123 ≠ a113 := by have := hne126; omega
          have c0 := cell_of_row V121 a123 0 _ _ (0, 0) HA124.out.box
          have c1 := cell_of_row V121 a123 1 _ _ (0, 0) HA124.out.box
          have c2 := cell_of_row V121 a123 2 _ _ (0, 0) HA124.out.box
          have c3 := cell_of_row V121 a123 3 _ _ (0, 0) HA124.out.box
          have f3 : ∀ i, V121.frozen? ⟨a123, i, none⟩ = false := fun i => by simp [World.frozen?, HA124.out.box]
          have hs := row_set4 (.int .i64 0) (.int .u64 0) (.int .u64 0) (.int .u64 0) rfl HA124.out.box
          have HS := Lib.hid (And.intro hs.1 (And.intro ((hs.2.1 _ (Ne.symm ne45)).trans HA125.out.box) (And.intro ((hs.2.1 _ (by have := HA124.out.ne; omega)).trans HV122.out.op) (hs.2.2 _ _ HV122.out.bel (by have := HA124.out.ne; have := HV122.out.low; omega)))))
          have lo5 : W.heap.size ≤ a113 := by have := HA125.out.ne; have := HV122.out.low; omega
          have n5 : n ≠ a113 := by have := HA125.out.ne; omega
          clear hs
          refine wpAnyH_ready (rs := [8]) (by kernel_rfl) (by simp) ?_
          refine AllReadyH.cons rfl (fun K hK => ?_) AllReadyH.nil
          simp only [List.getElem_toArray, List.getElem_cons_succ, List.getElem_cons_zero]
          rw [if_pos (by rfl)]
          go_simp
          refine hK.out _ _ HS.out.2.2.1 (fun hHeld => ?_)
          clear hK K
          try simp only [Act.put, List.getElem_toArray, List.getElem_cons_succ, List.getElem_cons_zero, List.setIfInBounds_toArray, List.set_cons_zero, List.set_cons_succ]
          generalize ((((V121.setCell ⟨a123, 0, none⟩ (.int .i64 0)).setCell ⟨a123, 1, none⟩ (.int .u64 0)).setCell ⟨a123, 2, none⟩ (.int .u64 0)).setCell ⟨a123, 3, none⟩ (.int .u64 0)) = V8 at HS hHeld ⊢
          clear c0 c1 c2 c3 f3 HV122 HA124 HA125
          have c0 := cell_of_row V8 a113 0 _ _ (0, 0) HS.out.2.1
          have c1 := cell_of_row V8 a113 1 _ _ (0, 0) HS.out.2.1
          have c2 := cell_of_row V8 a113 2 _ _ (0, 0) HS.out.2.1
          have c3 := cell_of_row V8 a113 3 _ _ (0, 0) HS.out.2.1
          have f3 : ∀ i, V8.frozen? ⟨a113, i, none⟩ = false := fun i => by simp [World.frozen?, HS.out.2.1]
          have hs := row_set4 (.int .i64 7) (.int .u64 0) (.int .u64 0) (.int .u64 0) rfl HS.out.2.1
          have HT := Lib.hid (And.intro hs.1 (And.intro ((hs.2.1 _ ne45).trans HS.out.1) (hs.2.2 _ _ HS.out.2.2.2 lo5)))
          have hop := (hs.2.1 _ n5).trans HS.out.2.2.1
          clear hs
          refine wpAnyH_ready (rs := [9]) (by kernel_rfl) (by simp) ?_
          refine AllReadyH.cons rfl (fun K hK => ?_) AllReadyH.nil
          simp only [List.getElem_toArray, List.getElem_cons_succ, List.getElem_cons_zero]
          rw [if_pos (by rfl)]
          go_simp
          refine hK.out _ _ hop (fun hHeld => ?_)
          clear hK K
          try simp only [Act.put, List.getElem_toArray, List.getElem_cons_succ, List.getElem_cons_zero, List.setIfInBounds_toArray, List.set_cons_zero, List.set_cons_succ]
          generalize ((((V8.setCell ⟨a113, 0, none⟩ (.int .i64 7)).setCell ⟨a113, 1, none⟩ (.int .u64 0)).setCell ⟨a113, 2, none⟩ (.int .u64 0)).setCell ⟨a113, 3, none⟩ (.int .u64 0)) = V9 at HT hHeld hop ⊢
          clear c0 c1 c2 c3 f3 HS hop
          refine wpAnyH_done (by kernel_rfl) ?_ _
          have d0 := cell_of_row V9 a123 0 _ _ (0, 0) HT.out.2.1
          have e0 := cell_of_row V9 a113 0 _ _ (0, 0) HT.out.1
          have d1 := cell_of_row V9 a123 1 _ _ (0, 0) HT.out.2.1
          have e1 := cell_of_row V9 a113 1 _ _ (0, 0) HT.out.1
          have d2 := cell_of_row V9 a123 2 _ _ (0, 0) HT.out.2.1
          have e2 := cell_of_row V9 a113 2 _ _ (0, 0) HT.out.1
          have d3 := cell_of_row V9 a123 3 _ _ (0, 0) HT.out.2.1
          have e3 := cell_of_row V9 a113 3 _ _ (0, 0) HT.out.1
          go_wp2
          go_ret
          exact ⟨rfl, HT.out.2.2⟩
      · simp only [List.getElem_toArray, List.getElem_cons_succ, List.getElem_cons_zero]
        rw [if_pos (by rfl)]
        go_simp
        refine hK.out _ _ (HV116.out.alloc _).op (fun hHeld => ?_)
        clear hK K
        try simp only [Act.put, List.getElem_toArray, List.getElem_cons_succ, List.getElem_cons_zero, List.setIfInBounds_toArray, List.set_cons_zero, List.set_cons_succ]
        obtain ⟨V127, hV127⟩ : ∃ X, X = V115.alloc (.cells #[.int .i64 0, .int .u64 0, .int .u64 0, .int .u64 0] 38) := ⟨_, rfl⟩
        obtain ⟨a129, ha129⟩ : ∃ X, X = V115.heap.size := ⟨_, rfl⟩
        have HV128 : Hid (AW W V127 n T g cap S0 S1 S B _ _) := Lib.hid (by rw [hV127]; exact HV116.out.alloc _)
        have HA130 : Hid (RB V127 n S B a129) := Lib.hid (by rw [hV127, ha129]; exact HV116.out.box)
        have HA131 : Hid (RB V127 n S B a113) := Lib.hid (by rw [hV127]; exact HA117.out.alloc _)
        have hne132 : a129 ≠ a113 := by have := HA117.out.lt; omega
        rw [← hV127] at hHeld ⊢
        try rw [← ha129]
        clear hV127 ha129
        refine wpAnyH_ready (rs := [5]) (by kernel_rfl) (by simp) ?_
        refine AllReadyH.cons rfl (fun K hK => ?_) AllReadyH.nil
        · simp only [List.getElem_toArray, List.getElem_cons_succ, List.getElem_cons_zero]
          rw [if_pos (by rfl)]
          go_simp
          refine (HD2.out V127 HV128.out).mono ?_
          rintro _ V133 ⟨rfl, hsh, hO⟩
          have HV134 := Lib.hid (HV128.out.call hsh hO)
          have HA135 := Lib.hid (HA130.out.call hO)
          have HA136 := Lib.hid (HA131.out.call hO)
          clear hsh hO
          go_wp2_with fail
          refine hK.out _ _ HV134.out.op (fun hHeld => ?_)
          clear hK K
          try simp only [Act.put, List.getElem_toArray, List.getElem_cons_succ, List.getElem_cons_zero, List.setIfInBounds_toArray, List.set_cons_zero, List.set_cons_succ]
          have ne45 : a129 ≠ a113 := by have := hne132; omega
          have c0 := cell_of_row V133 a129 0 _ _ (0, 0) HA135.out.box
          have c1 := cell_of_row V133 a129 1 _ _ (0, 0) HA135.out.box
          have c2 := cell_of_row V133 a129 2 _ _ (0, 0) HA135.out.box
          have c3 := cell_of_row V133 a129 3 _ _ (0, 0) HA135.out.box
          have f3 : ∀ i, V133.frozen? ⟨a129, i, none⟩ = false := fun i => by simp [World.frozen?, HA135.out.box]
          have hs := row_set4 (.int .i64 0) (.int .u64 0) (.int .u64 0) (.int .u64 0) rfl HA135.out.box
          have HS := Lib.hid (And.intro hs.1 (And.intro ((hs.2.1 _ (Ne.symm ne45)).trans HA136.out.box) (And.intro ((hs.2.1 _ (by have := HA135.out.ne; omega)).trans HV134.out.op) (hs.2.2 _ _ HV134.out.bel (by have := HA135.out.ne; have := HV134.out.low; omega)))))
          have lo5 : W.heap.size ≤ a113 := by have := HA136.out.ne; have := HV134.out.low; omega
          have n5 : n ≠ a113 := by have := HA136.out.ne; omega
          clear hs
          refine wpAnyH_ready (rs := [8]) (by kernel_rfl) (by simp) ?_
          refine AllReadyH.cons rfl (fun K hK => ?_) AllReadyH.nil
          simp only [List.getElem_toArray, List.getElem_cons_succ, List.getElem_cons_zero]
          rw [if_pos (by rfl)]
          go_simp
          refine hK.out _ _ HS.out.2.2.1 (fun hHeld => ?_)
          clear hK K
          try simp only [Act.put, List.getElem_toArray, List.getElem_cons_succ, List.getElem_cons_zero, List.setIfInBounds_toArray, List.set_cons_zero, List.set_cons_succ]
          generalize ((((V133.setCell ⟨a129, 0, none⟩ (.int .i64 0)).setCell ⟨a129, 1, none⟩ (.int .u64 0)).setCell ⟨a129, 2, none⟩ (.int .u64 0)).setCell ⟨a129, 3, none⟩ (.int .u64 0)) = V8 at HS hHeld ⊢
          clear c0 c1 c2 c3 f3 HV134 HA135 HA136
          have c0 := cell_of_row V8 a113 0 _ _ (0, 0) HS.out.2.1
          have c1 := cell_of_row V8 a113 1 _ _ (0, 0) HS.out.2.1
          have c2 := cell_of_row V8 a113 2 _ _ (0, 0) HS.out.2.1
          have c3 := cell_of_row V8 a113 3 _ _ (0, 0) HS.out.2.1
          have f3 : ∀ i, V8.frozen? ⟨a113, i, none⟩ = false := fun i => by simp [World.frozen?, HS.out.2.1]
          have hs := row_set4 (.int .i64 7) (.int .u64 0) (.int .u64 0) (.int .u64 0) rfl HS.out.2.1
          have HT := Lib.hid (And.intro hs.1 (And.intro ((hs.2.1 _ ne45).trans HS.out.1) (hs.2.2 _ _ HS.out.2.2.2 lo5)))
          have hop := (hs.2.1 _ n5).trans HS.out.2.2.1
          clear hs
          refine wpAnyH_ready (rs := [9]) (by kernel_rfl) (by simp) ?_
          refine AllReadyH.cons rfl (fun K hK => ?_) AllReadyH.nil
          simp only [List.getElem_toArray, List.getElem_cons_succ, List.getElem_cons_zero]
          rw [if_pos (by rfl)]
          go_simp
          refine hK.out _ _ hop (fun hHeld => ?_)
          clear hK K
          try simp only [Act.put, List.getElem_toArray, List.getElem_cons_succ, List.getElem_cons_zero, List.setIfInBounds_toArray, List.set_cons_zero, List.set_cons_succ]
          generalize ((((V8.setCell ⟨a113, 0, none⟩ (.int .i64 7)).setCell ⟨a113, 1, none⟩ (.int .u64 0)).setCell ⟨a113, 2, none⟩ (.int .u64 0)).setCell ⟨a113, 3, none⟩ (.int .u64 0)) = V9 at HT hHeld hop ⊢
          clear c0 c1 c2 c3 f3 HS hop
          refine wpAnyH_done (by kernel_rfl) ?_ _
          have d0 := cell_of_row V9 a129 0 _ _ (0, 0) HT.out.2.1
          have e0 := cell_of_row V9 a113 0 _ _ (0, 0) HT.out.1
          have d1 := cell_of_row V9 a129 1 _ _ (0, 0) HT.out.2.1
          have e1 := cell_of_row V9 a113 1 _ _ (0, 0) HT.out.1
          have d2 := cell_of_row V9 a129 2 _ _ (0, 0) HT.out.2.1
          have e2 := cell_of_row V9 a113 2 _ _ (0, 0) HT.out.1
          have d3 := cell_of_row V9 a129 3 _ _ (0, 0) HT.out.2.1
          have e3 := cell_of_row V9 a113 3 _ _ (0, 0) HT.out.1
          go_wp2
          go_ret
          exact ⟨rfl, HT.out.2.2⟩
    · simp only [List.getElem_toArray, List.getElem_cons_succ, List.getElem_cons_zero]
      rw [if_pos (by rfl)]
      go_simp
      refine hK.out _ _ (HV112.out.alloc _).op (fun hHeld => ?_)
      clear hK K
      try simp only [Act.put, List.getElem_toArray, List.getElem_cons_succ, List.getElem_cons_zero, List.setIfInBounds_toArray, List.set_cons_zero, List.set_cons_succ]
      obtain ⟨V137, hV137⟩ : ∃ X, X = V111.alloc (.cells #[.int .i64 0, .int .u64 0, .int .u64 0, .int .u64 0] 38) := ⟨_, rfl⟩
      obtain ⟨a139, ha139⟩ : ∃ X, X = V111.heap.size := ⟨_, rfl⟩
      have HV138 : Hid (AW W V137 n T g cap S0 S1 S B _ _) := Lib.hid (by rw [hV137]; exact HV112.out.alloc _)
      have HA140 : Hid (RB V137 n S B a139) := Lib.hid (by rw [hV137, ha139]; exact HV112.out.box)
      have HA141 : Hid (RB V137 n S B a113) := Lib.hid (by rw [hV137]; exact HA114.out.alloc _)
      have hne142 : a139 ≠ a113 := by have := HA114.out.lt; omega
      rw [← hV137] at hHeld ⊢
      try rw [← ha139]
      clear hV137 ha139
      refine wpAnyH_ready (rs := [2]) (by kernel_rfl) (by simp) ?_
      refine AllReadyH.cons rfl (fun K hK => ?_) AllReadyH.nil
      · simp only [List.getElem_toArray, List.getElem_cons_succ, List.getElem_cons_zero]
        rw [if_pos (by rfl)]
        go_simp
        refine (HD1.out V137 HV138.out).mono ?_
        rintro _ V143 ⟨rfl, hsh, hO⟩
        have HV144 := Lib.hid (HV138.out.call hsh hO)
        have HA145 := Lib.hid (HA140.out.call hO)
        have HA146 := Lib.hid (HA141.out.call hO)
        clear hsh hO
        go_wp2_with fail
        refine hK.out _ _ HV144.out.op (fun hHeld => ?_)
        clear hK K
        try simp only [Act.put, List.getElem_toArray, List.getElem_cons_succ, List.getElem_cons_zero, List.setIfInBounds_toArray, List.set_cons_zero, List.set_cons_succ]
        refine wpAnyH_ready (rs := [5]) (by kernel_rfl) (by simp) ?_
        refine AllReadyH.cons rfl (fun K hK => ?_) AllReadyH.nil
        · simp only [List.getElem_toArray, List.getElem_cons_succ, List.getElem_cons_zero]
          rw [if_pos (by rfl)]
          go_simp
          refine (HD2.out V143 HV144.out).mono ?_
          rintro _ V147 ⟨rfl, hsh, hO⟩
          have HV148 := Lib.hid (HV144.out.call hsh hO)
          have HA149 := Lib.hid (HA145.out.call hO)
          have HA150 := Lib.hid (HA146.out.call hO)
          clear hsh hO
          go_wp2_with fail
          refine hK.out _ _ HV148.out.op (fun hHeld => ?_)
          clear hK K
          try simp only [Act.put, List.getElem_toArray, List.getElem_cons_succ, List.getElem_cons_zero, List.setIfInBounds_toArray, List.set_cons_zero, List.set_cons_succ]
          have ne45 : a139 ≠ a113 := by have := hne142; omega
          have c0 := cell_of_row V147 a139 0 _ _ (0, 0) HA149.out.box
          have c1 := cell_of_row V147 a139 1 _ _ (0, 0) HA149.out.box
          have c2 := cell_of_row V147 a139 2 _ _ (0, 0) HA149.out.box
          have c3 := cell_of_row V147 a139 3 _ _ (0, 0) HA149.out.box
          have f3 : ∀ i, V147.frozen? ⟨a139, i, none⟩ = false := fun i => by simp [World.frozen?, HA149.out.box]
          have hs := row_set4 (.int .i64 0) (.int .u64 0) (.int .u64 0) (.int .u64 0) rfl HA149.out.box
          have HS := Lib.hid (And.intro hs.1 (And.intro ((hs.2.1 _ (Ne.symm ne45)).trans HA150.out.box) (And.intro ((hs.2.1 _ (by have := HA149.out.ne; omega)).trans HV148.out.op) (hs.2.2 _ _ HV148.out.bel (by have := HA149.out.ne; have := HV148.out.low; omega)))))
          have lo5 : W.heap.size ≤ a113 := by have := HA150.out.ne; have := HV148.out.low; omega
          have n5 : n ≠ a113 := by have := HA150.out.ne; omega
          clear hs
          refine wpAnyH_ready (rs := [8]) (by kernel_rfl) (by simp) ?_
          refine AllReadyH.cons rfl (fun K hK => ?_) AllReadyH.nil
          simp only [List.getElem_toArray, List.getElem_cons_succ, List.getElem_cons_zero]
          rw [if_pos (by rfl)]
          go_simp
          refine hK.out _ _ HS.out.2.2.1 (fun hHeld => ?_)
          clear hK K
          try simp only [Act.put, List.getElem_toArray, List.getElem_cons_succ, List.getElem_cons_zero, List.setIfInBounds_toArray, List.set_cons_zero, List.set_cons_succ]
          generalize ((((V147.setCell ⟨a139, 0, none⟩ (.int .i64 0)).setCell ⟨a139, 1, none⟩ (.int .u64 0)).setCell ⟨a139, 2, none⟩ (.int .u64 0)).setCell ⟨a139, 3, none⟩ (.int .u64 0)) = V8 at HS hHeld ⊢
          clear c0 c1 c2 c3 f3 HV148 HA149 HA150
          have c0 := cell_of_row V8 a113 0 _ _ (0, 0) HS.out.2.1
          have c1 := cell_of_row V8 a113 1 _ _ (0, 0) HS.out.2.1
          have c2 := cell_of_row V8 a113 2 _ _ (0, 0) HS.out.2.1
          have c3 := cell_of_row V8 a113 3 _ _ (0, 0) HS.out.2.1
          have f3 : ∀ i, V8.frozen? ⟨a113, i, none⟩ = false := fun i => by simp [World.frozen?, HS.out.2.1]
          have hs := row_set4 (.int .i64 7) (.int .u64 0) (.int .u64 0) (.int .u64 0) rfl HS.out.2.1
          have HT := Lib.hid (And.intro hs.1 (And.intro ((hs.2.1 _ ne45).trans HS.out.1) (hs.2.2 _ _ HS.out.2.2.2 lo5)))
          have hop := (hs.2.1 _ n5).trans HS.out.2.2.1
          clear hs
          refine wpAnyH_ready (rs := [9]) (by kernel_rfl) (by simp) ?_
          refine AllReadyH.cons rfl (fun K hK => ?_) AllReadyH.nil
          simp only [List.getElem_toArray, List.getElem_cons_succ, List.getElem_cons_zero]
          rw [if_pos (by rfl)]
          go_simp
          refine hK.out _ _ hop (fun hHeld => ?_)
          clear hK K
          try simp only [Act.put, List.getElem_toArray, List.getElem_cons_succ, List.getElem_cons_zero, List.setIfInBounds_toArray, List.set_cons_zero, List.set_cons_succ]
          generalize ((((V8.setCell ⟨a113, 0, none⟩ (.int .i64 7)).setCell ⟨a113, 1, none⟩ (.int .u64 0)).setCell ⟨a113, 2, none⟩ (.int .u64 0)).setCell ⟨a113, 3, none⟩ (.int .u64 0)) = V9 at HT hHeld hop ⊢
          clear c0 c1 c2 c3 f3 HS hop
          refine wpAnyH_done (by kernel_rfl) ?_ _
          have d0 := cell_of_row V9 a139 0 _ _ (0, 0) HT.out.2.1
          have e0 := cell_of_row V9 a113 0 _ _ (0, 0) HT.out.1
          have d1 := cell_of_row V9 a139 1 _ _ (0, 0) HT.out.2.1
          have e1 := cell_of_row V9 a113 1 _ _ (0, 0) HT.out.1
          have d2 := cell_of_row V9 a139 2 _ _ (0, 0) HT.out.2.1
          have e2 := cell_of_row V9 a113 2 _ _ (0, 0) HT.out.1
          have d3 := cell_of_row V9 a139 3 _ _ (0, 0) HT.out.2.1
          have e3 := cell_of_row V9 a113 3 _ _ (0, 0) HT.out.1
          go_wp2
          go_ret
          exact ⟨rfl, HT.out.2.2⟩
end Go.Proofs.YtlpnecmcncekcaaGreat.Mk
