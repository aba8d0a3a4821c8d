import Derived.Test.YtlpnecmcncekcaaGreatShs
/- A shard's change, for each of its four closures. -/
namespace Go.Proofs.YtlpnecmcncekcaaGreat.Mk
open Go Go.RowKit Go.MuLone

/-- what stands behind a change -/
def chgL (st who : Int) (k : K3) (l : List Ms) (clock : Nat) (P : List Ms × Nat) : List Ms × Nat := if chgR st who k l = 0 then P else (l, clock)
theorem look_chg (k : K3) (B : Nat) (l : List Ms) (clock : Nat) (st who : Int) : ∃ (e : En) (b : Bool), (∀ V, MapIs V B l clock → (Instr.lookup 94 (.map (some B)) k.val true).run Tryz.prog V = .ok (.tuple #[.agg e.cells, .bool b]) V) ∧ chgR st who k l = if b = true then (if e.st ≠ st then 10 else if st = 2 ∧ e.ow ≠ who then 9 else 0) else 8 := by
  refine ⟨(entM k l).getD en0, (entM k l).isSome, fun V h => look_ent k B l clock V h, ?_⟩
  unfold chgR
  cases entM k l <;> rfl

set_option maxRecDepth 20000 in
set_option maxHeartbeats 4000000 in
theorem chgClaim (S B Kb Sb Wb : Nat) (room who : Int) (l : List Ms) (clock : Nat) (k : K3) (W : World) (h : ShIs W S B room l clock 0)
    (hK : W.heap[Kb]? = some (.cells #[.int .i64 k.c, .int .i64 k.f, .int .u64 k.s] 41 (0, 0))) (hS : W.heap[Sb]? = some (.cells #[.pointer (some ⟨S, 0, none⟩)] 68 (0, 0))) (hW : W.heap[Wb]? = some (.cells #[.int .i64 who] 3 (0, 0))) :
    Calls Tryz.prog 50 #[.pointer (some ⟨S, 0, none⟩), k.val, .int .i64 1, .int .i64 who, .func (.func 81) #[] #[.pointer (some ⟨Kb, 0, none⟩), .pointer (some ⟨Wb, 0, none⟩), .pointer (some ⟨Sb, 0, none⟩)]] W fun e w' => e = .returned (.int .i64 (chgR 1 who k l)) ∧ ShIs w' S B room (chgL 1 who k l clock (putM k ⟨k, 2, who⟩ l clock)).1 (chgL 1 who k l clock (putM k ⟨k, 2, who⟩ l clock)).2 0 ∧ Only2 S B W w' := by
  have hno : (Kb ≠ S ∧ Kb ≠ B) ∧ (Sb ≠ S ∧ Sb ≠ B) ∧ (Wb ≠ S ∧ Wb ≠ B) := by
    have h9 : W.heap[B]? = some (.map (l.map toM).toArray clock) := h.map
    have h8 := h.box
    refine ⟨⟨fun e => ?_, fun e => ?_⟩, ⟨fun e => ?_, fun e => ?_⟩, ⟨fun e => ?_, fun e => ?_⟩⟩
    · rw [e, h8] at hK; injection hK with hK; cases hK
    · rw [e, h9] at hK; injection hK with hK; cases hK
    · rw [e, h8] at hS; injection hS with hS; cases hS
    · rw [e, h9] at hS; injection hS with hS; cases hS
    · rw [e, h8] at hW; injection hW with hW; cases hW
    · rw [e, h9] at hW; injection hW with hW; cases hW
  have HB := Lib.hid (show (W.heap[Kb]? = some (.cells #[.int .i64 k.c, .int .i64 k.f, .int .u64 k.s] 41 (0, 0)) ∧ W.heap[Sb]? = some (.cells #[.pointer (some ⟨S, 0, none⟩)] 68 (0, 0)) ∧ W.heap[Wb]? = some (.cells #[.int .i64 who] 3 (0, 0))) from ⟨hK, hS, hW⟩)
  have HC := Lib.hid (show ∀ V, ShIs V S B room l clock 1 → Only2 S B W V → Calls Tryz.prog 81 #[.pointer (some ⟨Kb, 0, none⟩), .pointer (some ⟨Wb, 0, none⟩), .pointer (some ⟨Sb, 0, none⟩)] V fun e w' => e = .returned (.tuple #[]) ∧ ShIs w' S B room (putM k ⟨k, 2, who⟩ l clock).1 (putM k ⟨k, 2, who⟩ l clock).2 1 ∧ Only2 S B V w' from fun V hV hO => by
    have hB : (V.heap[Kb]? = some (.cells #[.int .i64 k.c, .int .i64 k.f, .int .u64 k.s] 41 (0, 0)) ∧ V.heap[Sb]? = some (.cells #[.pointer (some ⟨S, 0, none⟩)] 68 (0, 0)) ∧ V.heap[Wb]? = some (.cells #[.int .i64 who] 3 (0, 0))) := ⟨box_off HB.out.1 hO hno.1.1 hno.1.2, box_off HB.out.2.1 hO hno.2.1.1 hno.2.1.2, box_off HB.out.2.2 hO hno.2.2.1 hno.2.2.2⟩
    exact claim1_any S B Kb Sb Wb room who l clock k V hV hB.1 hB.2.1 hB.2.2)
  clear hno hK hS hW HB
  obtain ⟨e, b, hlk, hRd⟩ := look_chg k B l clock 1 who
  have hLd : chgL 1 who k l clock (putM k ⟨k, 2, who⟩ l clock) = if chgR 1 who k l = 0 then (putM k ⟨k, 2, who⟩ l clock) else (l, clock) := rfl
  generalize chgR 1 who k l = r at hRd hLd ⊢
  generalize chgL 1 who k l clock (putM k ⟨k, 2, who⟩ l clock) = L at hLd ⊢
  obtain ⟨PL, hPL⟩ : ∃ PL, PL = putM k ⟨k, 2, who⟩ l clock := ⟨_, rfl⟩
  rw [← hPL] at hLd
  have HC2 := Lib.hid (show ∀ V, ShIs V S B room l clock 1 → Only2 S B W V → Calls Tryz.prog 81 #[.pointer (some ⟨Kb, 0, none⟩), .pointer (some ⟨Wb, 0, none⟩), .pointer (some ⟨Sb, 0, none⟩)] V fun e w' => e = .returned (.tuple #[]) ∧ ShIs w' S B room PL.1 PL.2 1 ∧ Only2 S B V w' by rw [hPL]; exact HC.out)
  clear HC hPL
  obtain ⟨ek, est, eow⟩ := e
  obtain ⟨ec, ef, es⟩ := ek
  have HRd := Lib.hid (And.intro hRd hLd)
  clear hRd hLd
  obtain ⟨kc, kf, ks⟩ := k
  unfold K3.val En.cells at hlk
  dsimp only at hlk
  have HLk := Lib.hid hlk
  clear hlk
  have hS := h.ltS
  have hB := h.ltB
  obtain ⟨W0, hW0⟩ : ∃ X, X = W.alloc (.cells #[.int .i64 kc, .int .i64 kf, .int .u64 ks] 41) := ⟨_, rfl⟩
  have hK : W0.heap[W.heap.size]? = some (.cells #[.int .i64 kc, .int .i64 kf, .int .u64 ks] 41 (0, 0)) := by rw [hW0]; exact heap_alloc_new _ _
  have h0 : ShIs W0 S B room l clock 0 := by rw [hW0]; exact h.new _
  have hO : Only2 S B W W0 := by rw [hW0]; exact (Only2.refl S B W).alloc _
  obtain ⟨c0, -, -, f0⟩ := h0.cells
  unfold K3.val
  go_enter_defers Tryz.func50, Tryz.ntmps50
  go_upto_region 3 with fail
  rw [← hW0]
  clear hW0
  go_wp2_with fail
  refine (lock_free muLib ⟨S, 0, none⟩ _ c0 f0).mono ?_
  rintro _ w1 ⟨rfl, hw⟩
  have h1 : ShIs w1 S B room l clock 1 := by rw [hw]; exact h0.lock 1
  have hK1 : w1.heap[W.heap.size]? = some (.cells #[.int .i64 kc, .int .i64 kf, .int .u64 ks] 41 (0, 0)) := by rw [hw]; exact (Below.heap_setCell _ _ _ _ (fun e => by have : W.heap.size = S := e; omega)).trans hK
  have hO1 : Only2 S B W w1 := by rw [hw]; exact hO.setS 0 _
  have H1 := Lib.hid h1
  have HK1 := Lib.hid hK1
  have HO1 := Lib.hid hO1
  have HO0 := Lib.hid (And.intro hS hB)
  clear hw h0 hK hO c0 f0 h1 hK1 hO1 h hS hB W0
  go_upto_region 5 with fail
  refine Code.wp_mono (noP_le _) ?_
  refine wp_region_held_drew (S := (fun V => ShIs V S B room l clock 1 ∧ V.heap[W.heap.size]? = some (.cells #[.int .i64 kc, .int .i64 kf, .int .u64 ks] 41 (0, 0)))) (by kernel_rfl) ⟨⟨H1.out.box, H1.out.map⟩, HK1.out⟩ (fun hHeld => ?_)
  refine wpAnyH_take (i := 0) (oi := _) (v := ?_) rfl (by kernel_rfl) (by kernel_rfl) (by kernel_rfl) (fun _ _ _ h => h) (Or.inl ⟨by rfl, ?_⟩) (by assumption) ?_
  rotate_left
  · (intro W hSw; (try dsimp only at hSw); go_simp; try with_reducible rfl)
  try simp only [Act.put, List.getElem_toArray, List.getElem_cons_zero, List.setIfInBounds_toArray, List.set_cons_zero, List.set_cons_succ]
  refine wpAnyH_take (i := 1) (oi := _) (v := ?_) rfl (by kernel_rfl) (by kernel_rfl) (by kernel_rfl) (fun _ _ _ h => h) (Or.inl ⟨by rfl, ?_⟩) (by assumption) ?_
  rotate_left
  · (intro W hSw; (try dsimp only at hSw); go_simp; try with_reducible rfl)
  try simp only [Act.put, List.getElem_toArray, List.getElem_cons_succ, List.getElem_cons_zero, List.setIfInBounds_toArray, List.set_cons_zero, List.set_cons_succ]
  refine wpAnyH_take (i := 2) (oi := _) (v := ?_) rfl (by kernel_rfl) (by kernel_rfl) (by kernel_rfl) (fun _ _ _ h => h) (Or.inl ⟨by rfl, ?_⟩) (by assumption) ?_
  rotate_left
  · (intro W hSw; (try dsimp only at hSw); go_simp; try with_reducible rfl)
  try simp only [Act.put, List.getElem_toArray, List.getElem_cons_succ, List.getElem_cons_zero, List.setIfInBounds_toArray, List.set_cons_zero, List.set_cons_succ]
  refine wpAnyH_take (i := 3) (oi := _) (v := ?_) rfl (by kernel_rfl) (by kernel_rfl) (by kernel_rfl) (fun _ _ _ h => h) (Or.inl ⟨by rfl, ?_⟩) (by assumption) ?_
  rotate_left
  · (intro V hSw; have hq := (hSw.1.cells).2.2.1; clear hSw; go_simp; try with_reducible rfl)
  try simp only [Act.put, List.getElem_toArray, List.getElem_cons_succ, List.getElem_cons_zero, List.setIfInBounds_toArray, List.set_cons_zero, List.set_cons_succ]
  refine wpAnyH_take (i := 4) (oi := _) (v := ?_) rfl (by kernel_rfl) (by kernel_rfl) (by kernel_rfl) (fun _ _ _ h => h) (Or.inl ⟨by rfl, ?_⟩) (by assumption) ?_
  rotate_left
  · (intro V hSw; have q0 := cell_of_row V W.heap.size 0 _ _ (0, 0) hSw.2; have q1 := cell_of_row V W.heap.size 1 _ _ (0, 0) hSw.2; have q2 := cell_of_row V W.heap.size 2 _ _ (0, 0) hSw.2; clear hSw; go_simp; try with_reducible rfl)
  try simp only [Act.put, List.getElem_toArray, List.getElem_cons_succ, List.getElem_cons_zero, List.setIfInBounds_toArray, List.set_cons_zero, List.set_cons_succ]
  refine wpAnyH_take (i := 5) (oi := _) (v := ?_) rfl (by kernel_rfl) (by kernel_rfl) (by kernel_rfl) (fun _ _ _ h => h) (Or.inl ⟨by rfl, ?_⟩) (by assumption) ?_
  rotate_left
  · (intro V hSw; have hq := HLk.out V hSw.1.map; clear hSw; go_simp; try with_reducible rfl)
  try simp only [Act.put, List.getElem_toArray, List.getElem_cons_succ, List.getElem_cons_zero, List.setIfInBounds_toArray, List.set_cons_zero, List.set_cons_succ]
  refine wpAnyH_take (i := 6) (oi := _) (v := ?_) rfl (by kernel_rfl) (by kernel_rfl) (by kernel_rfl) (fun _ _ _ h => h) (Or.inl ⟨by rfl, ?_⟩) (by assumption) ?_
  rotate_left
  · (intro W hSw; (try dsimp only at hSw); go_simp; try with_reducible rfl)
  try simp only [Act.put, List.getElem_toArray, List.getElem_cons_succ, List.getElem_cons_zero, List.setIfInBounds_toArray, List.set_cons_zero, List.set_cons_succ]
  refine wpAnyH_take (i := 7) (oi := _) (v := ?_) rfl (by kernel_rfl) (by kernel_rfl) (by kernel_rfl) (fun _ _ _ h => h) (Or.inl ⟨by rfl, ?_⟩) (by assumption) ?_
  rotate_left
  · (intro W hSw; (try dsimp only at hSw); go_simp; try with_reducible rfl)
  try simp only [Act.put, List.getElem_toArray, List.getElem_cons_succ, List.getElem_cons_zero, List.setIfInBounds_toArray, List.set_cons_zero, List.set_cons_succ]
  refine wpAnyH_take (i := 8) (oi := _) (v := ?_) rfl (by kernel_rfl) (by kernel_rfl) (by kernel_rfl) (fun _ _ _ h => h) (Or.inl ⟨by rfl, ?_⟩) (by assumption) ?_
  rotate_left
  · (intro W hSw; (try dsimp only at hSw); go_simp; try with_reducible rfl)
  try simp only [Act.put, List.getElem_toArray, List.getElem_cons_succ, List.getElem_cons_zero, List.setIfInBounds_toArray, List.set_cons_zero, List.set_cons_succ]
  refine wpAnyH_ready (rs := [9]) (by kernel_rfl) (by simp) ?_
  refine AllReadyH.cons rfl (fun K hK => ?_) AllReadyH.nil
  simp only [List.getElem_toArray, List.getElem_cons_succ, List.getElem_cons_zero]
  rw [if_pos (by rfl)]
  go_simp
  refine hK.out _ _ ⟨hHeld.1.new _, (Below.heap_alloc _ _ _ (Array.getElem?_eq_some_iff.1 hHeld.2).1).trans hHeld.2⟩ (fun hHeld => ?_)
  clear hK K
  try simp only [Act.put, List.getElem_toArray, List.getElem_cons_succ, List.getElem_cons_zero, List.setIfInBounds_toArray, List.set_cons_zero, List.set_cons_succ]
  refine wpAnyH_ready (rs := [10]) (by kernel_rfl) (by simp) ?_
  refine AllReadyH.cons rfl (fun K hK => ?_) AllReadyH.nil
  simp only [List.getElem_toArray, List.getElem_cons_succ, List.getElem_cons_zero]
  rw [if_pos (by rfl)]
  go_simp
  refine hK.out _ _ ⟨⟨(H1.out.new _).box, (H1.out.new _).map⟩, (Below.heap_alloc _ _ _ (Array.getElem?_eq_some_iff.1 HK1.out).1).trans HK1.out⟩ (fun hHeld => ?_)
  clear hK K
  try simp only [Act.put, List.getElem_toArray, List.getElem_cons_succ, List.getElem_cons_zero, List.setIfInBounds_toArray, List.set_cons_zero, List.set_cons_succ]
  refine wpAnyH_take (i := 11) (oi := _) (v := ?_) rfl (by kernel_rfl) (by kernel_rfl) (by kernel_rfl) (fun _ _ _ h => h) (Or.inl ⟨by rfl, ?_⟩) (by assumption) ?_
  rotate_left
  · (intro W hSw; (try dsimp only at hSw); go_simp; try with_reducible rfl)
  try simp only [Act.put, List.getElem_toArray, List.getElem_cons_succ, List.getElem_cons_zero, List.setIfInBounds_toArray, List.set_cons_zero, List.set_cons_succ]
  refine wpAnyH_done (by kernel_rfl) ?_ _
  simp only [NoP]
  obtain ⟨w2, hw2⟩ : ∃ X, X = (w1.alloc (.cells #[.int .i64 ec, .int .i64 ef, .int .u64 es, .int .i64 est, .int .i64 eow] 54)).drew := ⟨_, rfl⟩
  rw [← hw2]
  have H2 := Lib.hid (show ShIs w2 S B room l clock 1 by rw [hw2]; exact ⟨(H1.out.new _).box, (H1.out.new _).map⟩)
  have HK2 := Lib.hid (show w2.heap[W.heap.size]? = some (.cells #[.int .i64 kc, .int .i64 kf, .int .u64 ks] 41 (0, 0)) by rw [hw2]; exact (Below.heap_alloc _ _ _ (Array.getElem?_eq_some_iff.1 HK1.out).1).trans HK1.out)
  have HE2 := Lib.hid (show w2.heap[w1.heap.size]? = some (.cells #[.int .i64 ec, .int .i64 ef, .int .u64 es, .int .i64 est, .int .i64 eow] 54 (0, 0)) by rw [hw2]; exact heap_alloc_new w1 _)
  have HO2 := Lib.hid (show Only2 S B W w2 by rw [hw2]; exact (HO1.out.alloc _).drew)
  have hEK : W.heap.size < w1.heap.size := (Array.getElem?_eq_some_iff.1 HK1.out).1
  obtain ⟨Ea, hEa⟩ : ∃ Ea, Ea = w1.heap.size := ⟨_, rfl⟩
  rw [← hEa] at HE2 hEK ⊢
  clear hw2 hEa H1 HK1 HO1 HLk
  have c3 : w2.cell? ⟨Ea, 3, none⟩ = some (.int .i64 est) := cell_of_row w2 Ea 3 _ _ (0, 0) HE2.out
  have c4 : w2.cell? ⟨Ea, 4, none⟩ = some (.int .i64 eow) := cell_of_row w2 Ea 4 _ _ (0, 0) HE2.out
  cases b with
  | false =>
    have HX : Hid (r = 8 ∧ L = (l, clock)) := Lib.hid (by rw [HRd.out.2, HRd.out.1]; exact ⟨rfl, rfl⟩)
    clear HRd
    go_wp2_with fail
    refine leaves_cons (f := 47) (args := #[.pointer (some ⟨S, 0, none⟩)]) (by simp) (by simp [go_sem]) ?_
    refine (unlock_deferred muLib ⟨S, 0, none⟩ .returning _ H2.out.cells.1 H2.out.cells.2.2.2).mono ?_
    rintro _ u' w9 ⟨rfl, rfl, hw9⟩
    have H9 := H2.out.lock 0
    have HO9 := HO2.out.setS 0 (.int .i32 0)
    rw [← hw9] at H9 HO9
    exact ⟨_, results_tmp rfl _ _ _, by rw [HX.out.1]; rfl, by rw [HX.out.2]; exact H9, HO9⟩
  | true =>
    by_cases hst : est = 1
    · subst hst
      have hst : True := trivial
      have HX : Hid (r = 0 ∧ L = PL) := Lib.hid (by rw [HRd.out.2, HRd.out.1]; simp)
      clear HRd
      go_wp2_with fail
      refine (HC2.out w2 H2.out HO2.out).mono ?_
      rintro _ w3 ⟨rfl, h3, hO3⟩
      have H3 := Lib.hid h3
      have HO3 := Lib.hid (HO2.out.trans hO3)
      clear h3 hO3
      go_wp2_with fail
      refine leaves_cons (f := 47) (args := #[.pointer (some ⟨S, 0, none⟩)]) (by simp) (by simp [go_sem]) ?_
      refine (unlock_deferred muLib ⟨S, 0, none⟩ .returning _ H3.out.cells.1 H3.out.cells.2.2.2).mono ?_
      rintro _ u' w9 ⟨rfl, rfl, hw9⟩
      have H9 := H3.out.lock 0
      have HO9 := HO3.out.setS 0 (.int .i32 0)
      rw [← hw9] at H9 HO9
      exact ⟨_, results_tmp rfl _ _ _, by rw [HX.out.1]; rfl, by rw [HX.out.2]; exact H9, HO9⟩
    · have HX : Hid (r = 10 ∧ L = (l, clock)) := Lib.hid (by rw [HRd.out.2, HRd.out.1]; simp [hst])
      clear HRd
      go_wp2_with fail
      refine leaves_cons (f := 47) (args := #[.pointer (some ⟨S, 0, none⟩)]) (by simp) (by simp [go_sem]) ?_
      refine (unlock_deferred muLib ⟨S, 0, none⟩ .returning _ H2.out.cells.1 H2.out.cells.2.2.2).mono ?_
      rintro _ u' w9 ⟨rfl, rfl, hw9⟩
      have H9 := H2.out.lock 0
      have HO9 := HO2.out.setS 0 (.int .i32 0)
      rw [← hw9] at H9 HO9
      exact ⟨_, results_tmp rfl _ _ _, by rw [HX.out.1]; rfl, by rw [HX.out.2]; exact H9, HO9⟩

set_option maxRecDepth 20000 in
set_option maxHeartbeats 4000000 in
theorem chgRelease (S B Kb Sb : Nat) (room who : Int) (l : List Ms) (clock : Nat) (k : K3) (W : World) (h : ShIs W S B room l clock 0)
    (hK : W.heap[Kb]? = some (.cells #[.int .i64 k.c, .int .i64 k.f, .int .u64 k.s] 41 (0, 0))) (hS : W.heap[Sb]? = some (.cells #[.pointer (some ⟨S, 0, none⟩)] 68 (0, 0))) :
    Calls Tryz.prog 50 #[.pointer (some ⟨S, 0, none⟩), k.val, .int .i64 2, .int .i64 who, .func (.func 82) #[] #[.pointer (some ⟨Kb, 0, none⟩), .pointer (some ⟨Sb, 0, none⟩)]] W fun e w' => e = .returned (.int .i64 (chgR 2 who k l)) ∧ ShIs w' S B room (chgL 2 who k l clock (putM k ⟨k, 1, 0⟩ l clock)).1 (chgL 2 who k l clock (putM k ⟨k, 1, 0⟩ l clock)).2 0 ∧ Only2 S B W w' := by
  have hno : (Kb ≠ S ∧ Kb ≠ B) ∧ (Sb ≠ S ∧ Sb ≠ B) := by
    have h9 : W.heap[B]? = some (.map (l.map toM).toArray clock) := h.map
    have h8 := h.box
    refine ⟨⟨fun e => ?_, fun e => ?_⟩, ⟨fun e => ?_, fun e => ?_⟩⟩
    · rw [e, h8] at hK; injection hK with hK; cases hK
    · rw [e, h9] at hK; injection hK with hK; cases hK
    · rw [e, h8] at hS; injection hS with hS; cases hS
    · rw [e, h9] at hS; injection hS with hS; cases hS
  have HB := Lib.hid (show (W.heap[Kb]? = some (.cells #[.int .i64 k.c, .int .i64 k.f, .int .u64 k.s] 41 (0, 0)) ∧ W.heap[Sb]? = some (.cells #[.pointer (some ⟨S, 0, none⟩)] 68 (0, 0))) from ⟨hK, hS⟩)
  have HC := Lib.hid (show ∀ V, ShIs V S B room l clock 1 → Only2 S B W V → Calls Tryz.prog 82 #[.pointer (some ⟨Kb, 0, none⟩), .pointer (some ⟨Sb, 0, none⟩)] V fun e w' => e = .returned (.tuple #[]) ∧ ShIs w' S B room (putM k ⟨k, 1, 0⟩ l clock).1 (putM k ⟨k, 1, 0⟩ l clock).2 1 ∧ Only2 S B V w' from fun V hV hO => by
    have hB : (V.heap[Kb]? = some (.cells #[.int .i64 k.c, .int .i64 k.f, .int .u64 k.s] 41 (0, 0)) ∧ V.heap[Sb]? = some (.cells #[.pointer (some ⟨S, 0, none⟩)] 68 (0, 0))) := ⟨box_off HB.out.1 hO hno.1.1 hno.1.2, box_off HB.out.2 hO hno.2.1 hno.2.2⟩
    exact release1_any S B Kb Sb room l clock k V hV hB.1 hB.2)
  clear hno hK hS HB
  obtain ⟨e, b, hlk, hRd⟩ := look_chg k B l clock 2 who
  have hLd : chgL 2 who k l clock (putM k ⟨k, 1, 0⟩ l clock) = if chgR 2 who k l = 0 then (putM k ⟨k, 1, 0⟩ l clock) else (l, clock) := rfl
  generalize chgR 2 who k l = r at hRd hLd ⊢
  generalize chgL 2 who k l clock (putM k ⟨k, 1, 0⟩ l clock) = L at hLd ⊢
  obtain ⟨PL, hPL⟩ : ∃ PL, PL = putM k ⟨k, 1, 0⟩ l clock := ⟨_, rfl⟩
  rw [← hPL] at hLd
  have HC2 := Lib.hid (show ∀ V, ShIs V S B room l clock 1 → Only2 S B W V → Calls Tryz.prog 82 #[.pointer (some ⟨Kb, 0, none⟩), .pointer (some ⟨Sb, 0, none⟩)] V fun e w' => e = .returned (.tuple #[]) ∧ ShIs w' S B room PL.1 PL.2 1 ∧ Only2 S B V w' by rw [hPL]; exact HC.out)
  clear HC hPL
  obtain ⟨ek, est, eow⟩ := e
  obtain ⟨ec, ef, es⟩ := ek
  have HRd := Lib.hid (And.intro hRd hLd)
  clear hRd hLd
  obtain ⟨kc, kf, ks⟩ := k
  unfold K3.val En.cells at hlk
  dsimp only at hlk
  have HLk := Lib.hid hlk
  clear hlk
  have hS := h.ltS
  have hB := h.ltB
  obtain ⟨W0, hW0⟩ : ∃ X, X = W.alloc (.cells #[.int .i64 kc, .int .i64 kf, .int .u64 ks] 41) := ⟨_, rfl⟩
  have hK : W0.heap[W.heap.size]? = some (.cells #[.int .i64 kc, .int .i64 kf, .int .u64 ks] 41 (0, 0)) := by rw [hW0]; exact heap_alloc_new _ _
  have h0 : ShIs W0 S B room l clock 0 := by rw [hW0]; exact h.new _
  have hO : Only2 S B W W0 := by rw [hW0]; exact (Only2.refl S B W).alloc _
  obtain ⟨c0, -, -, f0⟩ := h0.cells
  unfold K3.val
  go_enter_defers Tryz.func50, Tryz.ntmps50
  go_upto_region 3 with fail
  rw [← hW0]
  clear hW0
  go_wp2_with fail
  refine (lock_free muLib ⟨S, 0, none⟩ _ c0 f0).mono ?_
  rintro _ w1 ⟨rfl, hw⟩
  have h1 : ShIs w1 S B room l clock 1 := by rw [hw]; exact h0.lock 1
  have hK1 : w1.heap[W.heap.size]? = some (.cells #[.int .i64 kc, .int .i64 kf, .int .u64 ks] 41 (0, 0)) := by rw [hw]; exact (Below.heap_setCell _ _ _ _ (fun e => by have : W.heap.size = S := e; omega)).trans hK
  have hO1 : Only2 S B W w1 := by rw [hw]; exact hO.setS 0 _
  have H1 := Lib.hid h1
  have HK1 := Lib.hid hK1
  have HO1 := Lib.hid hO1
  have HO0 := Lib.hid (And.intro hS hB)
  clear hw h0 hK hO c0 f0 h1 hK1 hO1 h hS hB W0
  go_upto_region 5 with fail
  refine Code.wp_mono (noP_le _) ?_
  refine wp_region_held_drew (S := (fun V => ShIs V S B room l clock 1 ∧ V.heap[W.heap.size]? = some (.cells #[.int .i64 kc, .int .i64 kf, .int .u64 ks] 41 (0, 0)))) (by kernel_rfl) ⟨⟨H1.out.box, H1.out.map⟩, HK1.out⟩ (fun hHeld => ?_)
  refine wpAnyH_take (i := 0) (oi := _) (v := ?_) rfl (by kernel_rfl) (by kernel_rfl) (by kernel_rfl) (fun _ _ _ h => h) (Or.inl ⟨by rfl, ?_⟩) (by assumption) ?_
  rotate_left
  · (intro W hSw; (try dsimp only at hSw); go_simp; try with_reducible rfl)
  try simp only [Act.put, List.getElem_toArray, List.getElem_cons_zero, List.setIfInBounds_toArray, List.set_cons_zero, List.set_cons_succ]
  refine wpAnyH_take (i := 1) (oi := _) (v := ?_) rfl (by kernel_rfl) (by kernel_rfl) (by kernel_rfl) (fun _ _ _ h => h) (Or.inl ⟨by rfl, ?_⟩) (by assumption) ?_
  rotate_left
  · (intro W hSw; (try dsimp only at hSw); go_simp; try with_reducible rfl)
  try simp only [Act.put, List.getElem_toArray, List.getElem_cons_succ, List.getElem_cons_zero, List.setIfInBounds_toArray, List.set_cons_zero, List.set_cons_succ]
  refine wpAnyH_take (i := 2) (oi := _) (v := ?_) rfl (by kernel_rfl) (by kernel_rfl) (by kernel_rfl) (fun _ _ _ h => h) (Or.inl ⟨by rfl, ?_⟩) (by assumption) ?_
  rotate_left
  · (intro W hSw; (try dsimp only at hSw); go_simp; try with_reducible rfl)
  try simp only [Act.put, List.getElem_toArray, List.getElem_cons_succ, List.getElem_cons_zero, List.setIfInBounds_toArray, List.set_cons_zero, List.set_cons_succ]
  refine wpAnyH_take (i := 3) (oi := _) (v := ?_) rfl (by kernel_rfl) (by kernel_rfl) (by kernel_rfl) (fun _ _ _ h => h) (Or.inl ⟨by rfl, ?_⟩) (by assumption) ?_
  rotate_left
  · (intro V hSw; have hq := (hSw.1.cells).2.2.1; clear hSw; go_simp; try with_reducible rfl)
  try simp only [Act.put, List.getElem_toArray, List.getElem_cons_succ, List.getElem_cons_zero, List.setIfInBounds_toArray, List.set_cons_zero, List.set_cons_succ]
  refine wpAnyH_take (i := 4) (oi := _) (v := ?_) rfl (by kernel_rfl) (by kernel_rfl) (by kernel_rfl) (fun _ _ _ h => h) (Or.inl ⟨by rfl, ?_⟩) (by assumption) ?_
  rotate_left
  · (intro V hSw; have q0 := cell_of_row V W.heap.size 0 _ _ (0, 0) hSw.2; have q1 := cell_of_row V W.heap.size 1 _ _ (0, 0) hSw.2; have q2 := cell_of_row V W.heap.size 2 _ _ (0, 0) hSw.2; clear hSw; go_simp; try with_reducible rfl)
  try simp only [Act.put, List.getElem_toArray, List.getElem_cons_succ, List.getElem_cons_zero, List.setIfInBounds_toArray, List.set_cons_zero, List.set_cons_succ]
  refine wpAnyH_take (i := 5) (oi := _) (v := ?_) rfl (by kernel_rfl) (by kernel_rfl) (by kernel_rfl) (fun _ _ _ h => h) (Or.inl ⟨by rfl, ?_⟩) (by assumption) ?_
  rotate_left
  · (intro V hSw; have hq := HLk.out V hSw.1.map; clear hSw; go_simp; try with_reducible rfl)
  try simp only [Act.put, List.getElem_toArray, List.getElem_cons_succ, List.getElem_cons_zero, List.setIfInBounds_toArray, List.set_cons_zero, List.set_cons_succ]
  refine wpAnyH_take (i := 6) (oi := _) (v := ?_) rfl (by kernel_rfl) (by kernel_rfl) (by kernel_rfl) (fun _ _ _ h => h) (Or.inl ⟨by rfl, ?_⟩) (by assumption) ?_
  rotate_left
  · (intro W hSw; (try dsimp only at hSw); go_simp; try with_reducible rfl)
  try simp only [Act.put, List.getElem_toArray, List.getElem_cons_succ, List.getElem_cons_zero, List.setIfInBounds_toArray, List.set_cons_zero, List.set_cons_succ]
  refine wpAnyH_take (i := 7) (oi := _) (v := ?_) rfl (by kernel_rfl) (by kernel_rfl) (by kernel_rfl) (fun _ _ _ h => h) (Or.inl ⟨by rfl, ?_⟩) (by assumption) ?_
  rotate_left
  · (intro W hSw; (try dsimp only at hSw); go_simp; try with_reducible rfl)
  try simp only [Act.put, List.getElem_toArray, List.getElem_cons_succ, List.getElem_cons_zero, List.setIfInBounds_toArray, List.set_cons_zero, List.set_cons_succ]
  refine wpAnyH_take (i := 8) (oi := _) (v := ?_) rfl (by kernel_rfl) (by kernel_rfl) (by kernel_rfl) (fun _ _ _ h => h) (Or.inl ⟨by rfl, ?_⟩) (by assumption) ?_
  rotate_left
  · (intro W hSw; (try dsimp only at hSw); go_simp; try with_reducible rfl)
  try simp only [Act.put, List.getElem_toArray, List.getElem_cons_succ, List.getElem_cons_zero, List.setIfInBounds_toArray, List.set_cons_zero, List.set_cons_succ]
  refine wpAnyH_ready (rs := [9]) (by kernel_rfl) (by simp) ?_
  refine AllReadyH.cons rfl (fun K hK => ?_) AllReadyH.nil
  simp only [List.getElem_toArray, List.getElem_cons_succ, List.getElem_cons_zero]
  rw [if_pos (by rfl)]
  go_simp
  refine hK.out _ _ ⟨hHeld.1.new _, (Below.heap_alloc _ _ _ (Array.getElem?_eq_some_iff.1 hHeld.2).1).trans hHeld.2⟩ (fun hHeld => ?_)
  clear hK K
  try simp only [Act.put, List.getElem_toArray, List.getElem_cons_succ, List.getElem_cons_zero, List.setIfInBounds_toArray, List.set_cons_zero, List.set_cons_succ]
  refine wpAnyH_ready (rs := [10]) (by kernel_rfl) (by simp) ?_
  refine AllReadyH.cons rfl (fun K hK => ?_) AllReadyH.nil
  simp only [List.getElem_toArray, List.getElem_cons_succ, List.getElem_cons_zero]
  rw [if_pos (by rfl)]
  go_simp
  refine hK.out _ _ ⟨⟨(H1.out.new _).box, (H1.out.new _).map⟩, (Below.heap_alloc _ _ _ (Array.getElem?_eq_some_iff.1 HK1.out).1).trans HK1.out⟩ (fun hHeld => ?_)
  clear hK K
  try simp only [Act.put, List.getElem_toArray, List.getElem_cons_succ, List.getElem_cons_zero, List.setIfInBounds_toArray, List.set_cons_zero, List.set_cons_succ]
  refine wpAnyH_take (i := 11) (oi := _) (v := ?_) rfl (by kernel_rfl) (by kernel_rfl) (by kernel_rfl) (fun _ _ _ h => h) (Or.inl ⟨by rfl, ?_⟩) (by assumption) ?_
  rotate_left
  · (intro W hSw; (try dsimp only at hSw); go_simp; try with_reducible rfl)
  try simp only [Act.put, List.getElem_toArray, List.getElem_cons_succ, List.getElem_cons_zero, List.setIfInBounds_toArray, List.set_cons_zero, List.set_cons_succ]
  refine wpAnyH_done (by kernel_rfl) ?_ _
  simp only [NoP]
  obtain ⟨w2, hw2⟩ : ∃ X, X = (w1.alloc (.cells #[.int .i64 ec, .int .i64 ef, .int .u64 es, .int .i64 est, .int .i64 eow] 54)).drew := ⟨_, rfl⟩
  rw [← hw2]
  have H2 := Lib.hid (show ShIs w2 S B room l clock 1 by rw [hw2]; exact ⟨(H1.out.new _).box, (H1.out.new _).map⟩)
  have HK2 := Lib.hid (show w2.heap[W.heap.size]? = some (.cells #[.int .i64 kc, .int .i64 kf, .int .u64 ks] 41 (0, 0)) by rw [hw2]; exact (Below.heap_alloc _ _ _ (Array.getElem?_eq_some_iff.1 HK1.out).1).trans HK1.out)
  have HE2 := Lib.hid (show w2.heap[w1.heap.size]? = some (.cells #[.int .i64 ec, .int .i64 ef, .int .u64 es, .int .i64 est, .int .i64 eow] 54 (0, 0)) by rw [hw2]; exact heap_alloc_new w1 _)
  have HO2 := Lib.hid (show Only2 S B W w2 by rw [hw2]; exact (HO1.out.alloc _).drew)
  have hEK : W.heap.size < w1.heap.size := (Array.getElem?_eq_some_iff.1 HK1.out).1
  obtain ⟨Ea, hEa⟩ : ∃ Ea, Ea = w1.heap.size := ⟨_, rfl⟩
  rw [← hEa] at HE2 hEK ⊢
  clear hw2 hEa H1 HK1 HO1 HLk
  have c3 : w2.cell? ⟨Ea, 3, none⟩ = some (.int .i64 est) := cell_of_row w2 Ea 3 _ _ (0, 0) HE2.out
  have c4 : w2.cell? ⟨Ea, 4, none⟩ = some (.int .i64 eow) := cell_of_row w2 Ea 4 _ _ (0, 0) HE2.out
  cases b with
  | false =>
    have HX : Hid (r = 8 ∧ L = (l, clock)) := Lib.hid (by rw [HRd.out.2, HRd.out.1]; exact ⟨rfl, rfl⟩)
    clear HRd
    go_wp2_with fail
    refine leaves_cons (f := 47) (args := #[.pointer (some ⟨S, 0, none⟩)]) (by simp) (by simp [go_sem]) ?_
    refine (unlock_deferred muLib ⟨S, 0, none⟩ .returning _ H2.out.cells.1 H2.out.cells.2.2.2).mono ?_
    rintro _ u' w9 ⟨rfl, rfl, hw9⟩
    have H9 := H2.out.lock 0
    have HO9 := HO2.out.setS 0 (.int .i32 0)
    rw [← hw9] at H9 HO9
    exact ⟨_, results_tmp rfl _ _ _, by rw [HX.out.1]; rfl, by rw [HX.out.2]; exact H9, HO9⟩
  | true =>
    by_cases hst : est = 2
    · subst hst
      have hst : True := trivial
      by_cases hwh : eow = who
      · subst hwh
        have hwh : True := trivial
        have HX : Hid (r = 0 ∧ L = PL) := Lib.hid (by rw [HRd.out.2, HRd.out.1]; simp)
        clear HRd
        go_wp2_with fail
        refine (HC2.out w2 H2.out HO2.out).mono ?_
        rintro _ w3 ⟨rfl, h3, hO3⟩
        have H3 := Lib.hid h3
        have HO3 := Lib.hid (HO2.out.trans hO3)
        clear h3 hO3
        go_wp2_with fail
        refine leaves_cons (f := 47) (args := #[.pointer (some ⟨S, 0, none⟩)]) (by simp) (by simp [go_sem]) ?_
        refine (unlock_deferred muLib ⟨S, 0, none⟩ .returning _ H3.out.cells.1 H3.out.cells.2.2.2).mono ?_
        rintro _ u' w9 ⟨rfl, rfl, hw9⟩
        have H9 := H3.out.lock 0
        have HO9 := HO3.out.setS 0 (.int .i32 0)
        rw [← hw9] at H9 HO9
        exact ⟨_, results_tmp rfl _ _ _, by rw [HX.out.1]; rfl, by rw [HX.out.2]; exact H9, HO9⟩
      · have HX : Hid (r = 9 ∧ L = (l, clock)) := Lib.hid (by rw [HRd.out.2, HRd.out.1]; simp [hwh])
        clear HRd
        go_wp2_with fail
        refine leaves_cons (f := 47) (args := #[.pointer (some ⟨S, 0, none⟩)]) (by simp) (by simp [go_sem]) ?_
        refine (unlock_deferred muLib ⟨S, 0, none⟩ .returning _ H2.out.cells.1 H2.out.cells.2.2.2).mono ?_
        rintro _ u' w9 ⟨rfl, rfl, hw9⟩
        have H9 := H2.out.lock 0
        have HO9 := HO2.out.setS 0 (.int .i32 0)
        rw [← hw9] at H9 HO9
        exact ⟨_, results_tmp rfl _ _ _, by rw [HX.out.1]; rfl, by rw [HX.out.2]; exact H9, HO9⟩
    · have HX : Hid (r = 10 ∧ L = (l, clock)) := Lib.hid (by rw [HRd.out.2, HRd.out.1]; simp [hst])
      clear HRd
      go_wp2_with fail
      refine leaves_cons (f := 47) (args := #[.pointer (some ⟨S, 0, none⟩)]) (by simp) (by simp [go_sem]) ?_
      refine (unlock_deferred muLib ⟨S, 0, none⟩ .returning _ H2.out.cells.1 H2.out.cells.2.2.2).mono ?_
      rintro _ u' w9 ⟨rfl, rfl, hw9⟩
      have H9 := H2.out.lock 0
      have HO9 := HO2.out.setS 0 (.int .i32 0)
      rw [← hw9] at H9 HO9
      exact ⟨_, results_tmp rfl _ _ _, by rw [HX.out.1]; rfl, by rw [HX.out.2]; exact H9, HO9⟩

set_option maxRecDepth 20000 in
set_option maxHeartbeats 4000000 in
theorem chgComplete (S B Kb Sb : Nat) (room who : Int) (l : List Ms) (clock : Nat) (k : K3) (W : World) (h : ShIs W S B room l clock 0)
    (hK : W.heap[Kb]? = some (.cells #[.int .i64 k.c, .int .i64 k.f, .int .u64 k.s] 41 (0, 0))) (hS : W.heap[Sb]? = some (.cells #[.pointer (some ⟨S, 0, none⟩)] 68 (0, 0))) :
    Calls Tryz.prog 50 #[.pointer (some ⟨S, 0, none⟩), k.val, .int .i64 2, .int .i64 who, .func (.func 83) #[] #[.pointer (some ⟨Kb, 0, none⟩), .pointer (some ⟨Sb, 0, none⟩)]] W fun e w' => e = .returned (.int .i64 (chgR 2 who k l)) ∧ ShIs w' S B room (chgL 2 who k l clock (putM k ⟨k, 3, 0⟩ l clock)).1 (chgL 2 who k l clock (putM k ⟨k, 3, 0⟩ l clock)).2 0 ∧ Only2 S B W w' := by
  have hno : (Kb ≠ S ∧ Kb ≠ B) ∧ (Sb ≠ S ∧ Sb ≠ B) := by
    have h9 : W.heap[B]? = some (.map (l.map toM).toArray clock) := h.map
    have h8 := h.box
    refine ⟨⟨fun e => ?_, fun e => ?_⟩, ⟨fun e => ?_, fun e => ?_⟩⟩
    · rw [e, h8] at hK; injection hK with hK; cases hK
    · rw [e, h9] at hK; injection hK with hK; cases hK
    · rw [e, h8] at hS; injection hS with hS; cases hS
    · rw [e, h9] at hS; injection hS with hS; cases hS
  have HB := Lib.hid (show (W.heap[Kb]? = some (.cells #[.int .i64 k.c, .int .i64 k.f, .int .u64 k.s] 41 (0, 0)) ∧ W.heap[Sb]? = some (.cells #[.pointer (some ⟨S, 0, none⟩)] 68 (0, 0))) from ⟨hK, hS⟩)
  have HC := Lib.hid (show ∀ V, ShIs V S B room l clock 1 → Only2 S B W V → Calls Tryz.prog 83 #[.pointer (some ⟨Kb, 0, none⟩), .pointer (some ⟨Sb, 0, none⟩)] V fun e w' => e = .returned (.tuple #[]) ∧ ShIs w' S B room (putM k ⟨k, 3, 0⟩ l clock).1 (putM k ⟨k, 3, 0⟩ l clock).2 1 ∧ Only2 S B V w' from fun V hV hO => by
    have hB : (V.heap[Kb]? = some (.cells #[.int .i64 k.c, .int .i64 k.f, .int .u64 k.s] 41 (0, 0)) ∧ V.heap[Sb]? = some (.cells #[.pointer (some ⟨S, 0, none⟩)] 68 (0, 0))) := ⟨box_off HB.out.1 hO hno.1.1 hno.1.2, box_off HB.out.2 hO hno.2.1 hno.2.2⟩
    exact complete1_any S B Kb Sb room l clock k V hV hB.1 hB.2)
  clear hno hK hS HB
  obtain ⟨e, b, hlk, hRd⟩ := look_chg k B l clock 2 who
  have hLd : chgL 2 who k l clock (putM k ⟨k, 3, 0⟩ l clock) = if chgR 2 who k l = 0 then (putM k ⟨k, 3, 0⟩ l clock) else (l, clock) := rfl
  generalize chgR 2 who k l = r at hRd hLd ⊢
  generalize chgL 2 who k l clock (putM k ⟨k, 3, 0⟩ l clock) = L at hLd ⊢
  obtain ⟨PL, hPL⟩ : ∃ PL, PL = putM k ⟨k, 3, 0⟩ l clock := ⟨_, rfl⟩
  rw [← hPL] at hLd
  have HC2 := Lib.hid (show ∀ V, ShIs V S B room l clock 1 → Only2 S B W V → Calls Tryz.prog 83 #[.pointer (some ⟨Kb, 0, none⟩), .pointer (some ⟨Sb, 0, none⟩)] V fun e w' => e = .returned (.tuple #[]) ∧ ShIs w' S B room PL.1 PL.2 1 ∧ Only2 S B V w' by rw [hPL]; exact HC.out)
  clear HC hPL
  obtain ⟨ek, est, eow⟩ := e
  obtain ⟨ec, ef, es⟩ := ek
  have HRd := Lib.hid (And.intro hRd hLd)
  clear hRd hLd
  obtain ⟨kc, kf, ks⟩ := k
  unfold K3.val En.cells at hlk
  dsimp only at hlk
  have HLk := Lib.hid hlk
  clear hlk
  have hS := h.ltS
  have hB := h.ltB
  obtain ⟨W0, hW0⟩ : ∃ X, X = W.alloc (.cells #[.int .i64 kc, .int .i64 kf, .int .u64 ks] 41) := ⟨_, rfl⟩
  have hK : W0.heap[W.heap.size]? = some (.cells #[.int .i64 kc, .int .i64 kf, .int .u64 ks] 41 (0, 0)) := by rw [hW0]; exact heap_alloc_new _ _
  have h0 : ShIs W0 S B room l clock 0 := by rw [hW0]; exact h.new _
  have hO : Only2 S B W W0 := by rw [hW0]; exact (Only2.refl S B W).alloc _
  obtain ⟨c0, -, -, f0⟩ := h0.cells
  unfold K3.val
  go_enter_defers Tryz.func50, Tryz.ntmps50
  go_upto_region 3 with fail
  rw [← hW0]
  clear hW0
  go_wp2_with fail
  refine (lock_free muLib ⟨S, 0, none⟩ _ c0 f0).mono ?_
  rintro _ w1 ⟨rfl, hw⟩
  have h1 : ShIs w1 S B room l clock 1 := by rw [hw]; exact h0.lock 1
  have hK1 : w1.heap[W.heap.size]? = some (.cells #[.int .i64 kc, .int .i64 kf, .int .u64 ks] 41 (0, 0)) := by rw [hw]; exact (Below.heap_setCell _ _ _ _ (fun e => by have : W.heap.size = S := e; omega)).trans hK
  have hO1 : Only2 S B W w1 := by rw [hw]; exact hO.setS 0 _
  have H1 := Lib.hid h1
  have HK1 := Lib.hid hK1
  have HO1 := Lib.hid hO1
  have HO0 := Lib.hid (And.intro hS hB)
  clear hw h0 hK hO c0 f0 h1 hK1 hO1 h hS hB W0
  go_upto_region 5 with fail
  refine Code.wp_mono (noP_le _) ?_
  refine wp_region_held_drew (S := (fun V => ShIs V S B room l clock 1 ∧ V.heap[W.heap.size]? = some (.cells #[.int .i64 kc, .int .i64 kf, .int .u64 ks] 41 (0, 0)))) (by kernel_rfl) ⟨⟨H1.out.box, H1.out.map⟩, HK1.out⟩ (fun hHeld => ?_)
  refine wpAnyH_take (i := 0) (oi := _) (v := ?_) rfl (by kernel_rfl) (by kernel_rfl) (by kernel_rfl) (fun _ _ _ h => h) (Or.inl ⟨by rfl, ?_⟩) (by assumption) ?_
  rotate_left
  · (intro W hSw; (try dsimp only at hSw); go_simp; try with_reducible rfl)
  try simp only [Act.put, List.getElem_toArray, List.getElem_cons_zero, List.setIfInBounds_toArray, List.set_cons_zero, List.set_cons_succ]
  refine wpAnyH_take (i := 1) (oi := _) (v := ?_) rfl (by kernel_rfl) (by kernel_rfl) (by kernel_rfl) (fun _ _ _ h => h) (Or.inl ⟨by rfl, ?_⟩) (by assumption) ?_
  rotate_left
  · (intro W hSw; (try dsimp only at hSw); go_simp; try with_reducible rfl)
  try simp only [Act.put, List.getElem_toArray, List.getElem_cons_succ, List.getElem_cons_zero, List.setIfInBounds_toArray, List.set_cons_zero, List.set_cons_succ]
  refine wpAnyH_take (i := 2) (oi := _) (v := ?_) rfl (by kernel_rfl) (by kernel_rfl) (by kernel_rfl) (fun _ _ _ h => h) (Or.inl ⟨by rfl, ?_⟩) (by assumption) ?_
  rotate_left
  · (intro W hSw; (try dsimp only at hSw); go_simp; try with_reducible rfl)
  try simp only [Act.put, List.getElem_toArray, List.getElem_cons_succ, List.getElem_cons_zero, List.setIfInBounds_toArray, List.set_cons_zero, List.set_cons_succ]
  refine wpAnyH_take (i := 3) (oi := _) (v := ?_) rfl (by kernel_rfl) (by kernel_rfl) (by kernel_rfl) (fun _ _ _ h => h) (Or.inl ⟨by rfl, ?_⟩) (by assumption) ?_
  rotate_left
  · (intro V hSw; have hq := (hSw.1.cells).2.2.1; clear hSw; go_simp; try with_reducible rfl)
  try simp only [Act.put, List.getElem_toArray, List.getElem_cons_succ, List.getElem_cons_zero, List.setIfInBounds_toArray, List.set_cons_zero, List.set_cons_succ]
  refine wpAnyH_take (i := 4) (oi := _) (v := ?_) rfl (by kernel_rfl) (by kernel_rfl) (by kernel_rfl) (fun _ _ _ h => h) (Or.inl ⟨by rfl, ?_⟩) (by assumption) ?_
  rotate_left
  · (intro V hSw; have q0 := cell_of_row V W.heap.size 0 _ _ (0, 0) hSw.2; have q1 := cell_of_row V W.heap.size 1 _ _ (0, 0) hSw.2; have q2 := cell_of_row V W.heap.size 2 _ _ (0, 0) hSw.2; clear hSw; go_simp; try with_reducible rfl)
  try simp only [Act.put, List.getElem_toArray, List.getElem_cons_succ, List.getElem_cons_zero, List.setIfInBounds_toArray, List.set_cons_zero, List.set_cons_succ]
  refine wpAnyH_take (i := 5) (oi := _) (v := ?_) rfl (by kernel_rfl) (by kernel_rfl) (by kernel_rfl) (fun _ _ _ h => h) (Or.inl ⟨by rfl, ?_⟩) (by assumption) ?_
  rotate_left
  · (intro V hSw; have hq := HLk.out V hSw.1.map; clear hSw; go_simp; try with_reducible rfl)
  try simp only [Act.put, List.getElem_toArray, List.getElem_cons_succ, List.getElem_cons_zero, List.setIfInBounds_toArray, List.set_cons_zero, List.set_cons_succ]
  refine wpAnyH_take (i := 6) (oi := _) (v := ?_) rfl (by kernel_rfl) (by kernel_rfl) (by kernel_rfl) (fun _ _ _ h => h) (Or.inl ⟨by rfl, ?_⟩) (by assumption) ?_
  rotate_left
  · (intro W hSw; (try dsimp only at hSw); go_simp; try with_reducible rfl)
  try simp only [Act.put, List.getElem_toArray, List.getElem_cons_succ, List.getElem_cons_zero, List.setIfInBounds_toArray, List.set_cons_zero, List.set_cons_succ]
  refine wpAnyH_take (i := 7) (oi := _) (v := ?_) rfl (by kernel_rfl) (by kernel_rfl) (by kernel_rfl) (fun _ _ _ h => h) (Or.inl ⟨by rfl, ?_⟩) (by assumption) ?_
  rotate_left
  · (intro W hSw; (try dsimp only at hSw); go_simp; try with_reducible rfl)
  try simp only [Act.put, List.getElem_toArray, List.getElem_cons_succ, List.getElem_cons_zero, List.setIfInBounds_toArray, List.set_cons_zero, List.set_cons_succ]
  refine wpAnyH_take (i := 8) (oi := _) (v := ?_) rfl (by kernel_rfl) (by kernel_rfl) (by kernel_rfl) (fun _ _ _ h => h) (Or.inl ⟨by rfl, ?_⟩) (by assumption) ?_
  rotate_left
  · (intro W hSw; (try dsimp only at hSw); go_simp; try with_reducible rfl)
  try simp only [Act.put, List.getElem_toArray, List.getElem_cons_succ, List.getElem_cons_zero, List.setIfInBounds_toArray, List.set_cons_zero, List.set_cons_succ]
  refine wpAnyH_ready (rs := [9]) (by kernel_rfl) (by simp) ?_
  refine AllReadyH.cons rfl (fun K hK => ?_) AllReadyH.nil
  simp only [List.getElem_toArray, List.getElem_cons_succ, List.getElem_cons_zero]
  rw [if_pos (by rfl)]
  go_simp
  refine hK.out _ _ ⟨hHeld.1.new _, (Below.heap_alloc _ _ _ (Array.getElem?_eq_some_iff.1 hHeld.2).1).trans hHeld.2⟩ (fun hHeld => ?_)
  clear hK K
  try simp only [Act.put, List.getElem_toArray, List.getElem_cons_succ, List.getElem_cons_zero, List.setIfInBounds_toArray, List.set_cons_zero, List.set_cons_succ]
  refine wpAnyH_ready (rs := [10]) (by kernel_rfl) (by simp) ?_
  refine AllReadyH.cons rfl (fun K hK => ?_) AllReadyH.nil
  simp only [List.getElem_toArray, List.getElem_cons_succ, List.getElem_cons_zero]
  rw [if_pos (by rfl)]
  go_simp
  refine hK.out _ _ ⟨⟨(H1.out.new _).box, (H1.out.new _).map⟩, (Below.heap_alloc _ _ _ (Array.getElem?_eq_some_iff.1 HK1.out).1).trans HK1.out⟩ (fun hHeld => ?_)
  clear hK K
  try simp only [Act.put, List.getElem_toArray, List.getElem_cons_succ, List.getElem_cons_zero, List.setIfInBounds_toArray, List.set_cons_zero, List.set_cons_succ]
  refine wpAnyH_take (i := 11) (oi := _) (v := ?_) rfl (by kernel_rfl) (by kernel_rfl) (by kernel_rfl) (fun _ _ _ h => h) (Or.inl ⟨by rfl, ?_⟩) (by assumption) ?_
  rotate_left
  · (intro W hSw; (try dsimp only at hSw); go_simp; try with_reducible rfl)
  try simp only [Act.put, List.getElem_toArray, List.getElem_cons_succ, List.getElem_cons_zero, List.setIfInBounds_toArray, List.set_cons_zero, List.set_cons_succ]
  refine wpAnyH_done (by kernel_rfl) ?_ _
  simp only [NoP]
  obtain ⟨w2, hw2⟩ : ∃ X, X = (w1.alloc (.cells #[.int .i64 ec, .int .i64 ef, .int .u64 es, .int .i64 est, .int .i64 eow] 54)).drew := ⟨_, rfl⟩
  rw [← hw2]
  have H2 := Lib.hid (show ShIs w2 S B room l clock 1 by rw [hw2]; exact ⟨(H1.out.new _).box, (H1.out.new _).map⟩)
  have HK2 := Lib.hid (show w2.heap[W.heap.size]? = some (.cells #[.int .i64 kc, .int .i64 kf, .int .u64 ks] 41 (0, 0)) by rw [hw2]; exact (Below.heap_alloc _ _ _ (Array.getElem?_eq_some_iff.1 HK1.out).1).trans HK1.out)
  have HE2 := Lib.hid (show w2.heap[w1.heap.size]? = some (.cells #[.int .i64 ec, .int .i64 ef, .int .u64 es, .int .i64 est, .int .i64 eow] 54 (0, 0)) by rw [hw2]; exact heap_alloc_new w1 _)
  have HO2 := Lib.hid (show Only2 S B W w2 by rw [hw2]; exact (HO1.out.alloc _).drew)
  have hEK : W.heap.size < w1.heap.size := (Array.getElem?_eq_some_iff.1 HK1.out).1
  obtain ⟨Ea, hEa⟩ : ∃ Ea, Ea = w1.heap.size := ⟨_, rfl⟩
  rw [← hEa] at HE2 hEK ⊢
  clear hw2 hEa H1 HK1 HO1 HLk
  have c3 : w2.cell? ⟨Ea, 3, none⟩ = some (.int .i64 est) := cell_of_row w2 Ea 3 _ _ (0, 0) HE2.out
  have c4 : w2.cell? ⟨Ea, 4, none⟩ = some (.int .i64 eow) := cell_of_row w2 Ea 4 _ _ (0, 0) HE2.out
  cases b with
  | false =>
    have HX : Hid (r = 8 ∧ L = (l, clock)) := Lib.hid (by rw [HRd.out.2, HRd.out.1]; exact ⟨rfl, rfl⟩)
    clear HRd
    go_wp2_with fail
    refine leaves_cons (f := 47) (args := #[.pointer (some ⟨S, 0, none⟩)]) (by simp) (by simp [go_sem]) ?_
    refine (unlock_deferred muLib ⟨S, 0, none⟩ .returning _ H2.out.cells.1 H2.out.cells.2.2.2).mono ?_
    rintro _ u' w9 ⟨rfl, rfl, hw9⟩
    have H9 := H2.out.lock 0
    have HO9 := HO2.out.setS 0 (.int .i32 0)
    rw [← hw9] at H9 HO9
    exact ⟨_, results_tmp rfl _ _ _, by rw [HX.out.1]; rfl, by rw [HX.out.2]; exact H9, HO9⟩
  | true =>
    by_cases hst : est = 2
    · subst hst
      have hst : True := trivial
      by_cases hwh : eow = who
      · subst hwh
        have hwh : True := trivial
        have HX : Hid (r = 0 ∧ L = PL) := Lib.hid (by rw [HRd.out.2, HRd.out.1]; simp)
        clear HRd
        go_wp2_with fail
        refine (HC2.out w2 H2.out HO2.out).mono ?_
        rintro _ w3 ⟨rfl, h3, hO3⟩
        have H3 := Lib.hid h3
        have HO3 := Lib.hid (HO2.out.trans hO3)
        clear h3 hO3
        go_wp2_with fail
        refine leaves_cons (f := 47) (args := #[.pointer (some ⟨S, 0, none⟩)]) (by simp) (by simp [go_sem]) ?_
        refine (unlock_deferred muLib ⟨S, 0, none⟩ .returning _ H3.out.cells.1 H3.out.cells.2.2.2).mono ?_
        rintro _ u' w9 ⟨rfl, rfl, hw9⟩
        have H9 := H3.out.lock 0
        have HO9 := HO3.out.setS 0 (.int .i32 0)
        rw [← hw9] at H9 HO9
        exact ⟨_, results_tmp rfl _ _ _, by rw [HX.out.1]; rfl, by rw [HX.out.2]; exact H9, HO9⟩
      · have HX : Hid (r = 9 ∧ L = (l, clock)) := Lib.hid (by rw [HRd.out.2, HRd.out.1]; simp [hwh])
        clear HRd
        go_wp2_with fail
        refine leaves_cons (f := 47) (args := #[.pointer (some ⟨S, 0, none⟩)]) (by simp) (by simp [go_sem]) ?_
        refine (unlock_deferred muLib ⟨S, 0, none⟩ .returning _ H2.out.cells.1 H2.out.cells.2.2.2).mono ?_
        rintro _ u' w9 ⟨rfl, rfl, hw9⟩
        have H9 := H2.out.lock 0
        have HO9 := HO2.out.setS 0 (.int .i32 0)
        rw [← hw9] at H9 HO9
        exact ⟨_, results_tmp rfl _ _ _, by rw [HX.out.1]; rfl, by rw [HX.out.2]; exact H9, HO9⟩
    · have HX : Hid (r = 10 ∧ L = (l, clock)) := Lib.hid (by rw [HRd.out.2, HRd.out.1]; simp [hst])
      clear HRd
      go_wp2_with fail
      refine leaves_cons (f := 47) (args := #[.pointer (some ⟨S, 0, none⟩)]) (by simp) (by simp [go_sem]) ?_
      refine (unlock_deferred muLib ⟨S, 0, none⟩ .returning _ H2.out.cells.1 H2.out.cells.2.2.2).mono ?_
      rintro _ u' w9 ⟨rfl, rfl, hw9⟩
      have H9 := H2.out.lock 0
      have HO9 := HO2.out.setS 0 (.int .i32 0)
      rw [← hw9] at H9 HO9
      exact ⟨_, results_tmp rfl _ _ _, by rw [HX.out.1]; rfl, by rw [HX.out.2]; exact H9, HO9⟩

set_option maxRecDepth 20000 in
set_option maxHeartbeats 4000000 in
theorem chgExpire (S B Kb Sb : Nat) (room : Int) (l : List Ms) (clock : Nat) (k : K3) (W : World) (h : ShIs W S B room l clock 0)
    (hK : W.heap[Kb]? = some (.cells #[.int .i64 k.c, .int .i64 k.f, .int .u64 k.s] 41 (0, 0))) (hS : W.heap[Sb]? = some (.cells #[.pointer (some ⟨S, 0, none⟩)] 68 (0, 0))) :
    Calls Tryz.prog 50 #[.pointer (some ⟨S, 0, none⟩), k.val, .int .i64 3, .int .i64 0, .func (.func 51) #[] #[.pointer (some ⟨Sb, 0, none⟩), .pointer (some ⟨Kb, 0, none⟩)]] W fun e w' => e = .returned (.int .i64 (chgR 3 0 k l)) ∧ ShIs w' S B room (chgL 3 0 k l clock ((delM k l, clock))).1 (chgL 3 0 k l clock ((delM k l, clock))).2 0 ∧ Only2 S B W w' := by
  have hno : (Kb ≠ S ∧ Kb ≠ B) ∧ (Sb ≠ S ∧ Sb ≠ B) := by
    have h9 : W.heap[B]? = some (.map (l.map toM).toArray clock) := h.map
    have h8 := h.box
    refine ⟨⟨fun e => ?_, fun e => ?_⟩, ⟨fun e => ?_, fun e => ?_⟩⟩
    · rw [e, h8] at hK; injection hK with hK; cases hK
    · rw [e, h9] at hK; injection hK with hK; cases hK
    · rw [e, h8] at hS; injection hS with hS; cases hS
    · rw [e, h9] at hS; injection hS with hS; cases hS
  have HB := Lib.hid (show (W.heap[Kb]? = some (.cells #[.int .i64 k.c, .int .i64 k.f, .int .u64 k.s] 41 (0, 0)) ∧ W.heap[Sb]? = some (.cells #[.pointer (some ⟨S, 0, none⟩)] 68 (0, 0))) from ⟨hK, hS⟩)
  have HC := Lib.hid (show ∀ V, ShIs V S B room l clock 1 → Only2 S B W V → Calls Tryz.prog 51 #[.pointer (some ⟨Sb, 0, none⟩), .pointer (some ⟨Kb, 0, none⟩)] V fun e w' => e = .returned (.tuple #[]) ∧ ShIs w' S B room ((delM k l, clock)).1 ((delM k l, clock)).2 1 ∧ Only2 S B V w' from fun V hV hO => by
    have hB : (V.heap[Kb]? = some (.cells #[.int .i64 k.c, .int .i64 k.f, .int .u64 k.s] 41 (0, 0)) ∧ V.heap[Sb]? = some (.cells #[.pointer (some ⟨S, 0, none⟩)] 68 (0, 0))) := ⟨box_off HB.out.1 hO hno.1.1 hno.1.2, box_off HB.out.2 hO hno.2.1 hno.2.2⟩
    exact expire1_any S B Kb Sb room l clock k V hV hB.1 hB.2)
  clear hno hK hS HB
  obtain ⟨e, b, hlk, hRd⟩ := look_chg k B l clock 3 0
  have hLd : chgL 3 0 k l clock ((delM k l, clock)) = if chgR 3 0 k l = 0 then ((delM k l, clock)) else (l, clock) := rfl
  generalize chgR 3 0 k l = r at hRd hLd ⊢
  generalize chgL 3 0 k l clock ((delM k l, clock)) = L at hLd ⊢
  obtain ⟨PL, hPL⟩ : ∃ PL, PL = (delM k l, clock) := ⟨_, rfl⟩
  rw [← hPL] at hLd
  have HC2 := Lib.hid (show ∀ V, ShIs V S B room l clock 1 → Only2 S B W V → Calls Tryz.prog 51 #[.pointer (some ⟨Sb, 0, none⟩), .pointer (some ⟨Kb, 0, none⟩)] V fun e w' => e = .returned (.tuple #[]) ∧ ShIs w' S B room PL.1 PL.2 1 ∧ Only2 S B V w' by rw [hPL]; exact HC.out)
  clear HC hPL
  obtain ⟨ek, est, eow⟩ := e
  obtain ⟨ec, ef, es⟩ := ek
  have HRd := Lib.hid (And.intro hRd hLd)
  clear hRd hLd
  obtain ⟨kc, kf, ks⟩ := k
  unfold K3.val En.cells at hlk
  dsimp only at hlk
  have HLk := Lib.hid hlk
  clear hlk
  have hS := h.ltS
  have hB := h.ltB
  obtain ⟨W0, hW0⟩ : ∃ X, X = W.alloc (.cells #[.int .i64 kc, .int .i64 kf, .int .u64 ks] 41) := ⟨_, rfl⟩
  have hK : W0.heap[W.heap.size]? = some (.cells #[.int .i64 kc, .int .i64 kf, .int .u64 ks] 41 (0, 0)) := by rw [hW0]; exact heap_alloc_new _ _
  have h0 : ShIs W0 S B room l clock 0 := by rw [hW0]; exact h.new _
  have hO : Only2 S B W W0 := by rw [hW0]; exact (Only2.refl S B W).alloc _
  obtain ⟨c0, -, -, f0⟩ := h0.cells
  unfold K3.val
  go_enter_defers Tryz.func50, Tryz.ntmps50
  go_upto_region 3 with fail
  rw [← hW0]
  clear hW0
  go_wp2_with fail
  refine (lock_free muLib ⟨S, 0, none⟩ _ c0 f0).mono ?_
  rintro _ w1 ⟨rfl, hw⟩
  have h1 : ShIs w1 S B room l clock 1 := by rw [hw]; exact h0.lock 1
  have hK1 : w1.heap[W.heap.size]? = some (.cells #[.int .i64 kc, .int .i64 kf, .int .u64 ks] 41 (0, 0)) := by rw [hw]; exact (Below.heap_setCell _ _ _ _ (fun e => by have : W.heap.size = S := e; omega)).trans hK
  have hO1 : Only2 S B W w1 := by rw [hw]; exact hO.setS 0 _
  have H1 := Lib.hid h1
  have HK1 := Lib.hid hK1
  have HO1 := Lib.hid hO1
  have HO0 := Lib.hid (And.intro hS hB)
  clear hw h0 hK hO c0 f0 h1 hK1 hO1 h hS hB W0
  go_upto_region 5 with fail
  refine Code.wp_mono (noP_le _) ?_
  refine wp_region_held_drew (S := (fun V => ShIs V S B room l clock 1 ∧ V.heap[W.heap.size]? = some (.cells #[.int .i64 kc, .int .i64 kf, .int .u64 ks] 41 (0, 0)))) (by kernel_rfl) ⟨⟨H1.out.box, H1.out.map⟩, HK1.out⟩ (fun hHeld => ?_)
  refine wpAnyH_take (i := 0) (oi := _) (v := ?_) rfl (by kernel_rfl) (by kernel_rfl) (by kernel_rfl) (fun _ _ _ h => h) (Or.inl ⟨by rfl, ?_⟩) (by assumption) ?_
  rotate_left
  · (intro W hSw; (try dsimp only at hSw); go_simp; try with_reducible rfl)
  try simp only [Act.put, List.getElem_toArray, List.getElem_cons_zero, List.setIfInBounds_toArray, List.set_cons_zero, List.set_cons_succ]
  refine wpAnyH_take (i := 1) (oi := _) (v := ?_) rfl (by kernel_rfl) (by kernel_rfl) (by kernel_rfl) (fun _ _ _ h => h) (Or.inl ⟨by rfl, ?_⟩) (by assumption) ?_
  rotate_left
  · (intro W hSw; (try dsimp only at hSw); go_simp; try with_reducible rfl)
  try simp only [Act.put, List.getElem_toArray, List.getElem_cons_succ, List.getElem_cons_zero, List.setIfInBounds_toArray, List.set_cons_zero, List.set_cons_succ]
  refine wpAnyH_take (i := 2) (oi := _) (v := ?_) rfl (by kernel_rfl) (by kernel_rfl) (by kernel_rfl) (fun _ _ _ h => h) (Or.inl ⟨by rfl, ?_⟩) (by assumption) ?_
  rotate_left
  · (intro W hSw; (try dsimp only at hSw); go_simp; try with_reducible rfl)
  try simp only [Act.put, List.getElem_toArray, List.getElem_cons_succ, List.getElem_cons_zero, List.setIfInBounds_toArray, List.set_cons_zero, List.set_cons_succ]
  refine wpAnyH_take (i := 3) (oi := _) (v := ?_) rfl (by kernel_rfl) (by kernel_rfl) (by kernel_rfl) (fun _ _ _ h => h) (Or.inl ⟨by rfl, ?_⟩) (by assumption) ?_
  rotate_left
  · (intro V hSw; have hq := (hSw.1.cells).2.2.1; clear hSw; go_simp; try with_reducible rfl)
  try simp only [Act.put, List.getElem_toArray, List.getElem_cons_succ, List.getElem_cons_zero, List.setIfInBounds_toArray, List.set_cons_zero, List.set_cons_succ]
  refine wpAnyH_take (i := 4) (oi := _) (v := ?_) rfl (by kernel_rfl) (by kernel_rfl) (by kernel_rfl) (fun _ _ _ h => h) (Or.inl ⟨by rfl, ?_⟩) (by assumption) ?_
  rotate_left
  · (intro V hSw; have q0 := cell_of_row V W.heap.size 0 _ _ (0, 0) hSw.2; have q1 := cell_of_row V W.heap.size 1 _ _ (0, 0) hSw.2; have q2 := cell_of_row V W.heap.size 2 _ _ (0, 0) hSw.2; clear hSw; go_simp; try with_reducible rfl)
  try simp only [Act.put, List.getElem_toArray, List.getElem_cons_succ, List.getElem_cons_zero, List.setIfInBounds_toArray, List.set_cons_zero, List.set_cons_succ]
  refine wpAnyH_take (i := 5) (oi := _) (v := ?_) rfl (by kernel_rfl) (by kernel_rfl) (by kernel_rfl) (fun _ _ _ h => h) (Or.inl ⟨by rfl, ?_⟩) (by assumption) ?_
  rotate_left
  · (intro V hSw; have hq := HLk.out V hSw.1.map; clear hSw; go_simp; try with_reducible rfl)
  try simp only [Act.put, List.getElem_toArray, List.getElem_cons_succ, List.getElem_cons_zero, List.setIfInBounds_toArray, List.set_cons_zero, List.set_cons_succ]
  refine wpAnyH_take (i := 6) (oi := _) (v := ?_) rfl (by kernel_rfl) (by kernel_rfl) (by kernel_rfl) (fun _ _ _ h => h) (Or.inl ⟨by rfl, ?_⟩) (by assumption) ?_
  rotate_left
  · (intro W hSw; (try dsimp only at hSw); go_simp; try with_reducible rfl)
  try simp only [Act.put, List.getElem_toArray, List.getElem_cons_succ, List.getElem_cons_zero, List.setIfInBounds_toArray, List.set_cons_zero, List.set_cons_succ]
  refine wpAnyH_take (i := 7) (oi := _) (v := ?_) rfl (by kernel_rfl) (by kernel_rfl) (by kernel_rfl) (fun _ _ _ h => h) (Or.inl ⟨by rfl, ?_⟩) (by assumption) ?_
  rotate_left
  · (intro W hSw; (try dsimp only at hSw); go_simp; try with_reducible rfl)
  try simp only [Act.put, List.getElem_toArray, List.getElem_cons_succ, List.getElem_cons_zero, List.setIfInBounds_toArray, List.set_cons_zero, List.set_cons_succ]
  refine wpAnyH_take (i := 8) (oi := _) (v := ?_) rfl (by kernel_rfl) (by kernel_rfl) (by kernel_rfl) (fun _ _ _ h => h) (Or.inl ⟨by rfl, ?_⟩) (by assumption) ?_
  rotate_left
  · (intro W hSw; (try dsimp only at hSw); go_simp; try with_reducible rfl)
  try simp only [Act.put, List.getElem_toArray, List.getElem_cons_succ, List.getElem_cons_zero, List.setIfInBounds_toArray, List.set_cons_zero, List.set_cons_succ]
  refine wpAnyH_ready (rs := [9]) (by kernel_rfl) (by simp) ?_
  refine AllReadyH.cons rfl (fun K hK => ?_) AllReadyH.nil
  simp only [List.getElem_toArray, List.getElem_cons_succ, List.getElem_cons_zero]
  rw [if_pos (by rfl)]
  go_simp
  refine hK.out _ _ ⟨hHeld.1.new _, (Below.heap_alloc _ _ _ (Array.getElem?_eq_some_iff.1 hHeld.2).1).trans hHeld.2⟩ (fun hHeld => ?_)
  clear hK K
  try simp only [Act.put, List.getElem_toArray, List.getElem_cons_succ, List.getElem_cons_zero, List.setIfInBounds_toArray, List.set_cons_zero, List.set_cons_succ]
  refine wpAnyH_ready (rs := [10]) (by kernel_rfl) (by simp) ?_
  refine AllReadyH.cons rfl (fun K hK => ?_) AllReadyH.nil
  simp only [List.getElem_toArray, List.getElem_cons_succ, List.getElem_cons_zero]
  rw [if_pos (by rfl)]
  go_simp
  refine hK.out _ _ ⟨⟨(H1.out.new _).box, (H1.out.new _).map⟩, (Below.heap_alloc _ _ _ (Array.getElem?_eq_some_iff.1 HK1.out).1).trans HK1.out⟩ (fun hHeld => ?_)
  clear hK K
  try simp only [Act.put, List.getElem_toArray, List.getElem_cons_succ, List.getElem_cons_zero, List.setIfInBounds_toArray, List.set_cons_zero, List.set_cons_succ]
  refine wpAnyH_take (i := 11) (oi := _) (v := ?_) rfl (by kernel_rfl) (by kernel_rfl) (by kernel_rfl) (fun _ _ _ h => h) (Or.inl ⟨by rfl, ?_⟩) (by assumption) ?_
  rotate_left
  · (intro W hSw; (try dsimp only at hSw); go_simp; try with_reducible rfl)
  try simp only [Act.put, List.getElem_toArray, List.getElem_cons_succ, List.getElem_cons_zero, List.setIfInBounds_toArray, List.set_cons_zero, List.set_cons_succ]
  refine wpAnyH_done (by kernel_rfl) ?_ _
  simp only [NoP]
  obtain ⟨w2, hw2⟩ : ∃ X, X = (w1.alloc (.cells #[.int .i64 ec, .int .i64 ef, .int .u64 es, .int .i64 est, .int .i64 eow] 54)).drew := ⟨_, rfl⟩
  rw [← hw2]
  have H2 := Lib.hid (show ShIs w2 S B room l clock 1 by rw [hw2]; exact ⟨(H1.out.new _).box, (H1.out.new _).map⟩)
  have HK2 := Lib.hid (show w2.heap[W.heap.size]? = some (.cells #[.int .i64 kc, .int .i64 kf, .int .u64 ks] 41 (0, 0)) by rw [hw2]; exact (Below.heap_alloc _ _ _ (Array.getElem?_eq_some_iff.1 HK1.out).1).trans HK1.out)
  have HE2 := Lib.hid (show w2.heap[w1.heap.size]? = some (.cells #[.int .i64 ec, .int .i64 ef, .int .u64 es, .int .i64 est, .int .i64 eow] 54 (0, 0)) by rw [hw2]; exact heap_alloc_new w1 _)
  have HO2 := Lib.hid (show Only2 S B W w2 by rw [hw2]; exact (HO1.out.alloc _).drew)
  have hEK : W.heap.size < w1.heap.size := (Array.getElem?_eq_some_iff.1 HK1.out).1
  obtain ⟨Ea, hEa⟩ : ∃ Ea, Ea = w1.heap.size := ⟨_, rfl⟩
  rw [← hEa] at HE2 hEK ⊢
  clear hw2 hEa H1 HK1 HO1 HLk
  have c3 : w2.cell? ⟨Ea, 3, none⟩ = some (.int .i64 est) := cell_of_row w2 Ea 3 _ _ (0, 0) HE2.out
  have c4 : w2.cell? ⟨Ea, 4, none⟩ = some (.int .i64 eow) := cell_of_row w2 Ea 4 _ _ (0, 0) HE2.out
  cases b with
  | false =>
    have HX : Hid (r = 8 ∧ L = (l, clock)) := Lib.hid (by rw [HRd.out.2, HRd.out.1]; exact ⟨rfl, rfl⟩)
    clear HRd
    go_wp2_with fail
    refine leaves_cons (f := 47) (args := #[.pointer (some ⟨S, 0, none⟩)]) (by simp) (by simp [go_sem]) ?_
    refine (unlock_deferred muLib ⟨S, 0, none⟩ .returning _ H2.out.cells.1 H2.out.cells.2.2.2).mono ?_
    rintro _ u' w9 ⟨rfl, rfl, hw9⟩
    have H9 := H2.out.lock 0
    have HO9 := HO2.out.setS 0 (.int .i32 0)
    rw [← hw9] at H9 HO9
    exact ⟨_, results_tmp rfl _ _ _, by rw [HX.out.1]; rfl, by rw [HX.out.2]; exact H9, HO9⟩
  | true =>
    by_cases hst : est = 3
    · subst hst
      have hst : True := trivial
      have HX : Hid (r = 0 ∧ L = PL) := Lib.hid (by rw [HRd.out.2, HRd.out.1]; simp)
      clear HRd
      go_wp2_with fail
      refine (HC2.out w2 H2.out HO2.out).mono ?_
      rintro _ w3 ⟨rfl, h3, hO3⟩
      have H3 := Lib.hid h3
      have HO3 := Lib.hid (HO2.out.trans hO3)
      clear h3 hO3
      go_wp2_with fail
      refine leaves_cons (f := 47) (args := #[.pointer (some ⟨S, 0, none⟩)]) (by simp) (by simp [go_sem]) ?_
      refine (unlock_deferred muLib ⟨S, 0, none⟩ .returning _ H3.out.cells.1 H3.out.cells.2.2.2).mono ?_
      rintro _ u' w9 ⟨rfl, rfl, hw9⟩
      have H9 := H3.out.lock 0
      have HO9 := HO3.out.setS 0 (.int .i32 0)
      rw [← hw9] at H9 HO9
      exact ⟨_, results_tmp rfl _ _ _, by rw [HX.out.1]; rfl, by rw [HX.out.2]; exact H9, HO9⟩
    · have HX : Hid (r = 10 ∧ L = (l, clock)) := Lib.hid (by rw [HRd.out.2, HRd.out.1]; simp [hst])
      clear HRd
      go_wp2_with fail
      refine leaves_cons (f := 47) (args := #[.pointer (some ⟨S, 0, none⟩)]) (by simp) (by simp [go_sem]) ?_
      refine (unlock_deferred muLib ⟨S, 0, none⟩ .returning _ H2.out.cells.1 H2.out.cells.2.2.2).mono ?_
      rintro _ u' w9 ⟨rfl, rfl, hw9⟩
      have H9 := H2.out.lock 0
      have HO9 := HO2.out.setS 0 (.int .i32 0)
      rw [← hw9] at H9 HO9
      exact ⟨_, results_tmp rfl _ _ _, by rw [HX.out.1]; rfl, by rw [HX.out.2]; exact H9, HO9⟩

end Go.Proofs.YtlpnecmcncekcaaGreat.Mk
