/- A shard's Claim, Release, Complete, Expire; Get, Len. -/
import Derived.Test.YtlpnecmcncekcaaGreatShardIns
namespace Go.Proofs.YtlpnecmcncekcaaGreat.Mk
open Go Go.RowKit Go.MuLone

/-- the entry of a key -/
def entM (k : K3) : List Ms → Option En
  | [] => none
  | x :: l => if k = x.1 then some x.2.1 else entM k l
theorem at?_ent (k : K3) : ∀ (l : List Ms) (i : Nat), (at? k l i).map (·.2) = (entM k l).map En.val
  | [], _ => rfl
  | x :: l, i => by
    unfold at? entM
    by_cases h : k = x.1
    · rw [if_pos h, if_pos h]; rfl
    · rw [if_neg h, if_neg h]; exact at?_ent k l (i + 1)
theorem look_ent (k : K3) (B : Nat) (l : List Ms) (clock : Nat) (V : World) (h : MapIs V B l clock) : (Instr.lookup 94 (.map (some B)) k.val true).run Tryz.prog V = .ok (.tuple #[.agg ((entM k l).getD en0).cells, .bool (entM k l).isSome]) V := by
  have h1 := at?_ent k l 0
  have h2 : (at? k l 0).isSome = (entM k l).isSome := by
    have := congrArg Option.isSome h1
    simpa using this
  rw [look_run k B l clock V h, h1, h2]
  cases entM k l <;> rfl
/-- what a change tells -/
def chgR (st who : Int) (k : K3) (l : List Ms) : Int :=
  match entM k l with
  | none => 8
  | some e => if e.st ≠ st then 10 else if st = 2 ∧ e.ow ≠ who then 9 else 0
theorem box_off {S B b : Nat} {W V : World} {o : Obj} (hb : W.heap[b]? = some o) (hO : Only2 S B W V) (hS : b ≠ S) (hB : b ≠ B) : V.heap[b]? = some o := (hO.block b (Array.getElem?_eq_some_iff.1 hb).1 hS hB).trans hb

set_option maxRecDepth 20000 in
set_option maxHeartbeats 2000000 in
theorem claim1_any (S B Kb Sb Wb : Nat) (room who : Int) (l : List Ms) (clock : Nat) (k : K3) (W : World) (h : ShIs W S B room l clock 1)
    (hK : W.heap[Kb]? = some (.cells #[.int .i64 k.c, .int .i64 k.f, .int .u64 k.s] 41 (0, 0))) (hS : W.heap[Sb]? = some (.cells #[.pointer (some ⟨S, 0, none⟩)] 68 (0, 0))) (hW : W.heap[Wb]? = some (.cells #[.int .i64 who] 3 (0, 0))) :
    Calls Tryz.prog 81 #[.pointer (some ⟨Kb, 0, none⟩), .pointer (some ⟨Wb, 0, none⟩), .pointer (some ⟨Sb, 0, none⟩)] W fun e w' => e = .returned (.tuple #[]) ∧ ShIs w' S B room (putM k ⟨k, 2, who⟩ l clock).1 (putM k ⟨k, 2, who⟩ l clock).2 1 ∧ Only2 S B W w' := by
  have hno : Kb ≠ B ∧ Sb ≠ B ∧ Wb ≠ B := by
    have h9 : W.heap[B]? = some (.map (l.map toM).toArray clock) := h.map
    refine ⟨fun e => ?_, fun e => ?_, fun e => ?_⟩
    · rw [e, h9] at hK; injection hK with hK; cases hK
    · rw [e, h9] at hS; injection hS with hS; cases hS
    · rw [e, h9] at hW; injection hW with hW; cases hW
  obtain ⟨Wp, hrun, hWp⟩ := put_run k ⟨k, 2, who⟩ B l clock W.drew h.map
  generalize putM k ⟨k, 2, who⟩ l clock = PL at hWp ⊢
  have e4 : ∀ k', k' ≠ B → Wp.heap[k']? = W.heap[k']? := fun k' hk' => by rw [hWp]; exact setM_off W.drew B PL.1 PL.2 k' hk'
  have h4 : ShIs Wp S B room PL.1 PL.2 1 := ⟨(e4 S h.ne).trans h.box, by rw [hWp]; exact setM_at (W := W.drew) h.map _ _⟩
  have hO4 : Only2 S B W Wp := by rw [hWp]; exact ((Only2.refl S B W).drew).setM PL.1 PL.2
  have hx : ShIs W S B room l clock 1 := h
  have n4 := And.intro ((e4 S h.ne).trans h.box) (And.intro ((e4 Kb hno.1).trans hK) (And.intro ((e4 Sb hno.2.1).trans hS) ((e4 Wb hno.2.2).trans hW)))
  have n0 := And.intro h.box (And.intro hK (And.intro hS hW))
  have H4 := Lib.hid (And.intro h4 hO4)
  have N4 := Lib.hid n4
  have N0 := Lib.hid n0
  clear hWp e4 h4 hO4 n4 n0 hno hx h hK hS hW
  obtain ⟨kc, kf, ks⟩ := k
  unfold K3.val En.val En.cells at hrun
  dsimp only at N4 N0
  go_enter Tryz.func81, Tryz.ntmps81
  go_upto_region 0 with fail
  refine wp_region_held_drew (S := (fun V => V.heap[S]? = some (.cells #[.int .i32 1, .int .u32 0, .int .i64 room, .map (some B)] TS (0, 0)) ∧ V.heap[Kb]? = some (.cells #[.int .i64 kc, .int .i64 kf, .int .u64 ks] 41 (0, 0)) ∧ V.heap[Sb]? = some (.cells #[.pointer (some ⟨S, 0, none⟩)] 68 (0, 0)) ∧ V.heap[Wb]? = some (.cells #[.int .i64 who] 3 (0, 0)))) (by kernel_rfl) N0.out (fun hHeld => ?_)
  refine wpAnyH_take (i := 0) (oi := _) (v := ?_) rfl (by kernel_rfl) (by kernel_rfl) (by kernel_rfl) (fun _ _ _ h => h) (Or.inl ⟨by rfl, ?_⟩) (by assumption) ?_
  rotate_left
  · (intro V hSw; have q0 := cell_of_row V Sb 0 _ _ (0, 0) hSw.2.2.1; clear hSw; go_simp; try with_reducible rfl)
  try simp only [Act.put, List.getElem_toArray, List.getElem_cons_zero, List.setIfInBounds_toArray, List.set_cons_zero, List.set_cons_succ]
  refine wpAnyH_take (i := 1) (oi := _) (v := ?_) rfl (by kernel_rfl) (by kernel_rfl) (by kernel_rfl) (fun _ _ _ h => h) (Or.inl ⟨by rfl, ?_⟩) (by assumption) ?_
  rotate_left
  · (intro W hSw; (try dsimp only at hSw); go_simp; try with_reducible rfl)
  try simp only [Act.put, List.getElem_toArray, List.getElem_cons_succ, List.getElem_cons_zero, List.setIfInBounds_toArray, List.set_cons_zero, List.set_cons_succ]
  refine wpAnyH_take (i := 2) (oi := _) (v := ?_) rfl (by kernel_rfl) (by kernel_rfl) (by kernel_rfl) (fun _ _ _ h => h) (Or.inl ⟨by rfl, ?_⟩) (by assumption) ?_
  rotate_left
  · (intro W hSw; (try dsimp only at hSw); go_simp; try with_reducible rfl)
  try simp only [Act.put, List.getElem_toArray, List.getElem_cons_succ, List.getElem_cons_zero, List.setIfInBounds_toArray, List.set_cons_zero, List.set_cons_succ]
  refine wpAnyH_take (i := 3) (oi := _) (v := ?_) rfl (by kernel_rfl) (by kernel_rfl) (by kernel_rfl) (fun _ _ _ h => h) (Or.inl ⟨by rfl, ?_⟩) (by assumption) ?_
  rotate_left
  · (intro V hSw; have hq := cell_of_row V S 3 _ _ (0, 0) hSw.1; clear hSw; go_simp; try with_reducible rfl)
  try simp only [Act.put, List.getElem_toArray, List.getElem_cons_succ, List.getElem_cons_zero, List.setIfInBounds_toArray, List.set_cons_zero, List.set_cons_succ]
  refine wpAnyH_take (i := 4) (oi := _) (v := ?_) rfl (by kernel_rfl) (by kernel_rfl) (by kernel_rfl) (fun _ _ _ h => h) (Or.inl ⟨by rfl, ?_⟩) (by assumption) ?_
  rotate_left
  · (intro V hSw; have q0 := cell_of_row V Kb 0 _ _ (0, 0) hSw.2.1; have q1 := cell_of_row V Kb 1 _ _ (0, 0) hSw.2.1; have q2 := cell_of_row V Kb 2 _ _ (0, 0) hSw.2.1; clear hSw; go_simp; try with_reducible rfl)
  try simp only [Act.put, List.getElem_toArray, List.getElem_cons_succ, List.getElem_cons_zero, List.setIfInBounds_toArray, List.set_cons_zero, List.set_cons_succ]
  refine wpAnyH_take (i := 5) (oi := _) (v := ?_) rfl (by kernel_rfl) (by kernel_rfl) (by kernel_rfl) (fun _ _ _ h => h) (Or.inl ⟨by rfl, ?_⟩) (by assumption) ?_
  rotate_left
  · (intro V hSw; have q0 := cell_of_row V Kb 0 _ _ (0, 0) hSw.2.1; have q1 := cell_of_row V Kb 1 _ _ (0, 0) hSw.2.1; have q2 := cell_of_row V Kb 2 _ _ (0, 0) hSw.2.1; clear hSw; go_simp; try with_reducible rfl)
  try simp only [Act.put, List.getElem_toArray, List.getElem_cons_succ, List.getElem_cons_zero, List.setIfInBounds_toArray, List.set_cons_zero, List.set_cons_succ]
  refine wpAnyH_take (i := 6) (oi := _) (v := ?_) rfl (by kernel_rfl) (by kernel_rfl) (by kernel_rfl) (fun _ _ _ h => h) (Or.inl ⟨by rfl, ?_⟩) (by assumption) ?_
  rotate_left
  · (intro V hSw; have q0 := cell_of_row V Wb 0 _ _ (0, 0) hSw.2.2.2; clear hSw; go_simp; try with_reducible rfl)
  try simp only [Act.put, List.getElem_toArray, List.getElem_cons_succ, List.getElem_cons_zero, List.setIfInBounds_toArray, List.set_cons_zero, List.set_cons_succ]
  refine wpAnyH_take (i := 7) (oi := _) (v := ?_) rfl (by kernel_rfl) (by kernel_rfl) (by kernel_rfl) (fun _ _ _ h => h) (Or.inl ⟨by rfl, ?_⟩) (by assumption) ?_
  rotate_left
  · (intro W hSw; (try dsimp only at hSw); go_simp; try with_reducible rfl)
  try simp only [Act.put, List.getElem_toArray, List.getElem_cons_succ, List.getElem_cons_zero, List.setIfInBounds_toArray, List.set_cons_zero, List.set_cons_succ]
  refine wpAnyH_ready (rs := [8]) (by kernel_rfl) (by simp) ?_
  refine AllReadyH.cons rfl (fun K hK => ?_) AllReadyH.nil
  simp only [List.getElem_toArray, List.getElem_cons_succ, List.getElem_cons_zero]
  rw [if_pos (by rfl)]
  go_simp
  refine hK.out _ _ N4.out (fun hHeld => ?_)
  clear hK K
  try simp only [Act.put, List.getElem_toArray, List.getElem_cons_succ, List.getElem_cons_zero, List.setIfInBounds_toArray, List.set_cons_zero, List.set_cons_succ]
  refine wpAnyH_done (by kernel_rfl) ?_ _
  clear hrun
  go_wp2
  refine bodyPost_end (results_none rfl _ _ _) rfl ?_
  exact ⟨rfl, H4.out.1, H4.out.2⟩

set_option maxRecDepth 20000 in
set_option maxHeartbeats 2000000 in
theorem release1_any (S B Kb Sb : Nat) (room : Int) (l : List Ms) (clock : Nat) (k : K3) (W : World) (h : ShIs W S B room l clock 1)
    (hK : W.heap[Kb]? = some (.cells #[.int .i64 k.c, .int .i64 k.f, .int .u64 k.s] 41 (0, 0))) (hS : W.heap[Sb]? = some (.cells #[.pointer (some ⟨S, 0, none⟩)] 68 (0, 0))) :
    Calls Tryz.prog 82 #[.pointer (some ⟨Kb, 0, none⟩), .pointer (some ⟨Sb, 0, none⟩)] W fun e w' => e = .returned (.tuple #[]) ∧ ShIs w' S B room (putM k ⟨k, 1, 0⟩ l clock).1 (putM k ⟨k, 1, 0⟩ l clock).2 1 ∧ Only2 S B W w' := by
  have hno : Kb ≠ B ∧ Sb ≠ B := by
    have h9 : W.heap[B]? = some (.map (l.map toM).toArray clock) := h.map
    refine ⟨fun e => ?_, fun e => ?_⟩
    · rw [e, h9] at hK; injection hK with hK; cases hK
    · rw [e, h9] at hS; injection hS with hS; cases hS
  obtain ⟨Wp, hrun, hWp⟩ := put_run k ⟨k, 1, 0⟩ B l clock W.drew h.map
  generalize putM k ⟨k, 1, 0⟩ l clock = PL at hWp ⊢
  have e4 : ∀ k', k' ≠ B → Wp.heap[k']? = W.heap[k']? := fun k' hk' => by rw [hWp]; exact setM_off W.drew B PL.1 PL.2 k' hk'
  have h4 : ShIs Wp S B room PL.1 PL.2 1 := ⟨(e4 S h.ne).trans h.box, by rw [hWp]; exact setM_at (W := W.drew) h.map _ _⟩
  have hO4 : Only2 S B W Wp := by rw [hWp]; exact ((Only2.refl S B W).drew).setM PL.1 PL.2
  have hx : ShIs W S B room l clock 1 := h
  have n4 := And.intro ((e4 S h.ne).trans h.box) (And.intro ((e4 Kb hno.1).trans hK) ((e4 Sb hno.2).trans hS))
  have n0 := And.intro h.box (And.intro hK hS)
  have H4 := Lib.hid (And.intro h4 hO4)
  have N4 := Lib.hid n4
  have N0 := Lib.hid n0
  clear hWp e4 h4 hO4 n4 n0 hno hx h hK hS
  obtain ⟨kc, kf, ks⟩ := k
  unfold K3.val En.val En.cells at hrun
  dsimp only at N4 N0
  go_enter Tryz.func82, Tryz.ntmps82
  go_upto_region 0 with fail
  refine wp_region_held_drew (S := (fun V => V.heap[S]? = some (.cells #[.int .i32 1, .int .u32 0, .int .i64 room, .map (some B)] TS (0, 0)) ∧ V.heap[Kb]? = some (.cells #[.int .i64 kc, .int .i64 kf, .int .u64 ks] 41 (0, 0)) ∧ V.heap[Sb]? = some (.cells #[.pointer (some ⟨S, 0, none⟩)] 68 (0, 0)))) (by kernel_rfl) N0.out (fun hHeld => ?_)
  refine wpAnyH_take (i := 0) (oi := _) (v := ?_) rfl (by kernel_rfl) (by kernel_rfl) (by kernel_rfl) (fun _ _ _ h => h) (Or.inl ⟨by rfl, ?_⟩) (by assumption) ?_
  rotate_left
  · (intro V hSw; have q0 := cell_of_row V Sb 0 _ _ (0, 0) hSw.2.2; clear hSw; go_simp; try with_reducible rfl)
  try simp only [Act.put, List.getElem_toArray, List.getElem_cons_zero, List.setIfInBounds_toArray, List.set_cons_zero, List.set_cons_succ]
  refine wpAnyH_take (i := 1) (oi := _) (v := ?_) rfl (by kernel_rfl) (by kernel_rfl) (by kernel_rfl) (fun _ _ _ h => h) (Or.inl ⟨by rfl, ?_⟩) (by assumption) ?_
  rotate_left
  · (intro W hSw; (try dsimp only at hSw); go_simp; try with_reducible rfl)
  try simp only [Act.put, List.getElem_toArray, List.getElem_cons_succ, List.getElem_cons_zero, List.setIfInBounds_toArray, List.set_cons_zero, List.set_cons_succ]
  refine wpAnyH_take (i := 2) (oi := _) (v := ?_) rfl (by kernel_rfl) (by kernel_rfl) (by kernel_rfl) (fun _ _ _ h => h) (Or.inl ⟨by rfl, ?_⟩) (by assumption) ?_
  rotate_left
  · (intro W hSw; (try dsimp only at hSw); go_simp; try with_reducible rfl)
  try simp only [Act.put, List.getElem_toArray, List.getElem_cons_succ, List.getElem_cons_zero, List.setIfInBounds_toArray, List.set_cons_zero, List.set_cons_succ]
  refine wpAnyH_take (i := 3) (oi := _) (v := ?_) rfl (by kernel_rfl) (by kernel_rfl) (by kernel_rfl) (fun _ _ _ h => h) (Or.inl ⟨by rfl, ?_⟩) (by assumption) ?_
  rotate_left
  · (intro V hSw; have hq := cell_of_row V S 3 _ _ (0, 0) hSw.1; clear hSw; go_simp; try with_reducible rfl)
  try simp only [Act.put, List.getElem_toArray, List.getElem_cons_succ, List.getElem_cons_zero, List.setIfInBounds_toArray, List.set_cons_zero, List.set_cons_succ]
  refine wpAnyH_take (i := 4) (oi := _) (v := ?_) rfl (by kernel_rfl) (by kernel_rfl) (by kernel_rfl) (fun _ _ _ h => h) (Or.inl ⟨by rfl, ?_⟩) (by assumption) ?_
  rotate_left
  · (intro V hSw; have q0 := cell_of_row V Kb 0 _ _ (0, 0) hSw.2.1; have q1 := cell_of_row V Kb 1 _ _ (0, 0) hSw.2.1; have q2 := cell_of_row V Kb 2 _ _ (0, 0) hSw.2.1; clear hSw; go_simp; try with_reducible rfl)
  try simp only [Act.put, List.getElem_toArray, List.getElem_cons_succ, List.getElem_cons_zero, List.setIfInBounds_toArray, List.set_cons_zero, List.set_cons_succ]
  refine wpAnyH_take (i := 5) (oi := _) (v := ?_) rfl (by kernel_rfl) (by kernel_rfl) (by kernel_rfl) (fun _ _ _ h => h) (Or.inl ⟨by rfl, ?_⟩) (by assumption) ?_
  rotate_left
  · (intro V hSw; have q0 := cell_of_row V Kb 0 _ _ (0, 0) hSw.2.1; have q1 := cell_of_row V Kb 1 _ _ (0, 0) hSw.2.1; have q2 := cell_of_row V Kb 2 _ _ (0, 0) hSw.2.1; clear hSw; go_simp; try with_reducible rfl)
  try simp only [Act.put, List.getElem_toArray, List.getElem_cons_succ, List.getElem_cons_zero, List.setIfInBounds_toArray, List.set_cons_zero, List.set_cons_succ]
  refine wpAnyH_take (i := 6) (oi := _) (v := ?_) rfl (by kernel_rfl) (by kernel_rfl) (by kernel_rfl) (fun _ _ _ h => h) (Or.inl ⟨by rfl, ?_⟩) (by assumption) ?_
  rotate_left
  · (intro W hSw; (try dsimp only at hSw); go_simp; try with_reducible rfl)
  try simp only [Act.put, List.getElem_toArray, List.getElem_cons_succ, List.getElem_cons_zero, List.setIfInBounds_toArray, List.set_cons_zero, List.set_cons_succ]
  refine wpAnyH_ready (rs := [7]) (by kernel_rfl) (by simp) ?_
  refine AllReadyH.cons rfl (fun K hK => ?_) AllReadyH.nil
  simp only [List.getElem_toArray, List.getElem_cons_succ, List.getElem_cons_zero]
  rw [if_pos (by rfl)]
  go_simp
  refine hK.out _ _ N4.out (fun hHeld => ?_)
  clear hK K
  try simp only [Act.put, List.getElem_toArray, List.getElem_cons_succ, List.getElem_cons_zero, List.setIfInBounds_toArray, List.set_cons_zero, List.set_cons_succ]
  refine wpAnyH_done (by kernel_rfl) ?_ _
  clear hrun
  go_wp2
  refine bodyPost_end (results_none rfl _ _ _) rfl ?_
  exact ⟨rfl, H4.out.1, H4.out.2⟩

set_option maxRecDepth 20000 in
set_option maxHeartbeats 2000000 in
theorem complete1_any (S B Kb Sb : Nat) (room : Int) (l : List Ms) (clock : Nat) (k : K3) (W : World) (h : ShIs W S B room l clock 1)
    (hK : W.heap[Kb]? = some (.cells #[.int .i64 k.c, .int .i64 k.f, .int .u64 k.s] 41 (0, 0))) (hS : W.heap[Sb]? = some (.cells #[.pointer (some ⟨S, 0, none⟩)] 68 (0, 0))) :
    Calls Tryz.prog 83 #[.pointer (some ⟨Kb, 0, none⟩), .pointer (some ⟨Sb, 0, none⟩)] W fun e w' => e = .returned (.tuple #[]) ∧ ShIs w' S B room (putM k ⟨k, 3, 0⟩ l clock).1 (putM k ⟨k, 3, 0⟩ l clock).2 1 ∧ Only2 S B W w' := by
  have hno : Kb ≠ B ∧ Sb ≠ B := by
    have h9 : W.heap[B]? = some (.map (l.map toM).toArray clock) := h.map
    refine ⟨fun e => ?_, fun e => ?_⟩
    · rw [e, h9] at hK; injection hK with hK; cases hK
    · rw [e, h9] at hS; injection hS with hS; cases hS
  obtain ⟨Wp, hrun, hWp⟩ := put_run k ⟨k, 3, 0⟩ B l clock W.drew h.map
  generalize putM k ⟨k, 3, 0⟩ l clock = PL at hWp ⊢
  have e4 : ∀ k', k' ≠ B → Wp.heap[k']? = W.heap[k']? := fun k' hk' => by rw [hWp]; exact setM_off W.drew B PL.1 PL.2 k' hk'
  have h4 : ShIs Wp S B room PL.1 PL.2 1 := ⟨(e4 S h.ne).trans h.box, by rw [hWp]; exact setM_at (W := W.drew) h.map _ _⟩
  have hO4 : Only2 S B W Wp := by rw [hWp]; exact ((Only2.refl S B W).drew).setM PL.1 PL.2
  have hx : ShIs W S B room l clock 1 := h
  have n4 := And.intro ((e4 S h.ne).trans h.box) (And.intro ((e4 Kb hno.1).trans hK) ((e4 Sb hno.2).trans hS))
  have n0 := And.intro h.box (And.intro hK hS)
  have H4 := Lib.hid (And.intro h4 hO4)
  have N4 := Lib.hid n4
  have N0 := Lib.hid n0
  clear hWp e4 h4 hO4 n4 n0 hno hx h hK hS
  obtain ⟨kc, kf, ks⟩ := k
  unfold K3.val En.val En.cells at hrun
  dsimp only at N4 N0
  go_enter Tryz.func83, Tryz.ntmps83
  go_upto_region 0 with fail
  refine wp_region_held_drew (S := (fun V => V.heap[S]? = some (.cells #[.int .i32 1, .int .u32 0, .int .i64 room, .map (some B)] TS (0, 0)) ∧ V.heap[Kb]? = some (.cells #[.int .i64 kc, .int .i64 kf, .int .u64 ks] 41 (0, 0)) ∧ V.heap[Sb]? = some (.cells #[.pointer (some ⟨S, 0, none⟩)] 68 (0, 0)))) (by kernel_rfl) N0.out (fun hHeld => ?_)
  refine wpAnyH_take (i := 0) (oi := _) (v := ?_) rfl (by kernel_rfl) (by kernel_rfl) (by kernel_rfl) (fun _ _ _ h => h) (Or.inl ⟨by rfl, ?_⟩) (by assumption) ?_
  rotate_left
  · (intro V hSw; have q0 := cell_of_row V Sb 0 _ _ (0, 0) hSw.2.2; clear hSw; go_simp; try with_reducible rfl)
  try simp only [Act.put, List.getElem_toArray, List.getElem_cons_zero, List.setIfInBounds_toArray, List.set_cons_zero, List.set_cons_succ]
  refine wpAnyH_take (i := 1) (oi := _) (v := ?_) rfl (by kernel_rfl) (by kernel_rfl) (by kernel_rfl) (fun _ _ _ h => h) (Or.inl ⟨by rfl, ?_⟩) (by assumption) ?_
  rotate_left
  · (intro W hSw; (try dsimp only at hSw); go_simp; try with_reducible rfl)
  try simp only [Act.put, List.getElem_toArray, List.getElem_cons_succ, List.getElem_cons_zero, List.setIfInBounds_toArray, List.set_cons_zero, List.set_cons_succ]
  refine wpAnyH_take (i := 2) (oi := _) (v := ?_) rfl (by kernel_rfl) (by kernel_rfl) (by kernel_rfl) (fun _ _ _ h => h) (Or.inl ⟨by rfl, ?_⟩) (by assumption) ?_
  rotate_left
  · (intro W hSw; (try dsimp only at hSw); go_simp; try with_reducible rfl)
  try simp only [Act.put, List.getElem_toArray, List.getElem_cons_succ, List.getElem_cons_zero, List.setIfInBounds_toArray, List.set_cons_zero, List.set_cons_succ]
  refine wpAnyH_take (i := 3) (oi := _) (v := ?_) rfl (by kernel_rfl) (by kernel_rfl) (by kernel_rfl) (fun _ _ _ h => h) (Or.inl ⟨by rfl, ?_⟩) (by assumption) ?_
  rotate_left
  · (intro V hSw; have hq := cell_of_row V S 3 _ _ (0, 0) hSw.1; clear hSw; go_simp; try with_reducible rfl)
  try simp only [Act.put, List.getElem_toArray, List.getElem_cons_succ, List.getElem_cons_zero, List.setIfInBounds_toArray, List.set_cons_zero, List.set_cons_succ]
  refine wpAnyH_take (i := 4) (oi := _) (v := ?_) rfl (by kernel_rfl) (by kernel_rfl) (by kernel_rfl) (fun _ _ _ h => h) (Or.inl ⟨by rfl, ?_⟩) (by assumption) ?_
  rotate_left
  · (intro V hSw; have q0 := cell_of_row V Kb 0 _ _ (0, 0) hSw.2.1; have q1 := cell_of_row V Kb 1 _ _ (0, 0) hSw.2.1; have q2 := cell_of_row V Kb 2 _ _ (0, 0) hSw.2.1; clear hSw; go_simp; try with_reducible rfl)
  try simp only [Act.put, List.getElem_toArray, List.getElem_cons_succ, List.getElem_cons_zero, List.setIfInBounds_toArray, List.set_cons_zero, List.set_cons_succ]
  refine wpAnyH_take (i := 5) (oi := _) (v := ?_) rfl (by kernel_rfl) (by kernel_rfl) (by kernel_rfl) (fun _ _ _ h => h) (Or.inl ⟨by rfl, ?_⟩) (by assumption) ?_
  rotate_left
  · (intro V hSw; have q0 := cell_of_row V Kb 0 _ _ (0, 0) hSw.2.1; have q1 := cell_of_row V Kb 1 _ _ (0, 0) hSw.2.1; have q2 := cell_of_row V Kb 2 _ _ (0, 0) hSw.2.1; clear hSw; go_simp; try with_reducible rfl)
  try simp only [Act.put, List.getElem_toArray, List.getElem_cons_succ, List.getElem_cons_zero, List.setIfInBounds_toArray, List.set_cons_zero, List.set_cons_succ]
  refine wpAnyH_take (i := 6) (oi := _) (v := ?_) rfl (by kernel_rfl) (by kernel_rfl) (by kernel_rfl) (fun _ _ _ h => h) (Or.inl ⟨by rfl, ?_⟩) (by assumption) ?_
  rotate_left
  · (intro W hSw; (try dsimp only at hSw); go_simp; try with_reducible rfl)
  try simp only [Act.put, List.getElem_toArray, List.getElem_cons_succ, List.getElem_cons_zero, List.setIfInBounds_toArray, List.set_cons_zero, List.set_cons_succ]
  refine wpAnyH_ready (rs := [7]) (by kernel_rfl) (by simp) ?_
  refine AllReadyH.cons rfl (fun K hK => ?_) AllReadyH.nil
  simp only [List.getElem_toArray, List.getElem_cons_succ, List.getElem_cons_zero]
  rw [if_pos (by rfl)]
  go_simp
  refine hK.out _ _ N4.out (fun hHeld => ?_)
  clear hK K
  try simp only [Act.put, List.getElem_toArray, List.getElem_cons_succ, List.getElem_cons_zero, List.setIfInBounds_toArray, List.set_cons_zero, List.set_cons_succ]
  refine wpAnyH_done (by kernel_rfl) ?_ _
  clear hrun
  go_wp2
  refine bodyPost_end (results_none rfl _ _ _) rfl ?_
  exact ⟨rfl, H4.out.1, H4.out.2⟩

set_option maxRecDepth 20000 in
set_option maxHeartbeats 2000000 in
theorem expire1_any (S B Kb Sb : Nat) (room : Int) (l : List Ms) (clock : Nat) (k : K3) (W : World) (h : ShIs W S B room l clock 1)
    (hK : W.heap[Kb]? = some (.cells #[.int .i64 k.c, .int .i64 k.f, .int .u64 k.s] 41 (0, 0))) (hS : W.heap[Sb]? = some (.cells #[.pointer (some ⟨S, 0, none⟩)] 68 (0, 0))) :
    Calls Tryz.prog 51 #[.pointer (some ⟨Sb, 0, none⟩), .pointer (some ⟨Kb, 0, none⟩)] W fun e w' => e = .returned (.tuple #[]) ∧ ShIs w' S B room (delM k l) clock 1 ∧ Only2 S B W w' := by
  have hno : Kb ≠ B ∧ Sb ≠ B := by
    have h9 : W.heap[B]? = some (.map (l.map toM).toArray clock) := h.map
    refine ⟨fun e => ?_, fun e => ?_⟩
    · rw [e, h9] at hK; injection hK with hK; cases hK
    · rw [e, h9] at hS; injection hS with hS; cases hS
  obtain ⟨Wp, hrun, hWp⟩ := del_run k B l clock 0 W.drew h.map
  generalize delM k l = DL at hWp ⊢
  have e4 : ∀ k', k' ≠ B → Wp.heap[k']? = W.heap[k']? := fun k' hk' => by rw [hWp]; exact setM_off W.drew B DL clock k' hk'
  have h4 : ShIs Wp S B room DL clock 1 := ⟨(e4 S h.ne).trans h.box, by rw [hWp]; exact setM_at (W := W.drew) h.map _ _⟩
  have hO4 : Only2 S B W Wp := by rw [hWp]; exact ((Only2.refl S B W).drew).setM DL clock
  have hx : ShIs W S B room l clock 1 := h
  have n4 := And.intro ((e4 S h.ne).trans h.box) (And.intro ((e4 Kb hno.1).trans hK) ((e4 Sb hno.2).trans hS))
  have n0 := And.intro h.box (And.intro hK hS)
  have H4 := Lib.hid (And.intro h4 hO4)
  have N4 := Lib.hid n4
  have N0 := Lib.hid n0
  clear hWp e4 h4 hO4 n4 n0 hno hx h hK hS
  obtain ⟨kc, kf, ks⟩ := k
  unfold K3.val at hrun
  dsimp only at N4 N0
  go_enter Tryz.func51, Tryz.ntmps51
  go_upto_region 0 with fail
  refine wp_region_held_drew (S := (fun V => V.heap[S]? = some (.cells #[.int .i32 1, .int .u32 0, .int .i64 room, .map (some B)] TS (0, 0)) ∧ V.heap[Kb]? = some (.cells #[.int .i64 kc, .int .i64 kf, .int .u64 ks] 41 (0, 0)) ∧ V.heap[Sb]? = some (.cells #[.pointer (some ⟨S, 0, none⟩)] 68 (0, 0)))) (by kernel_rfl) N0.out (fun hHeld => ?_)
  refine wpAnyH_take (i := 0) (oi := _) (v := ?_) rfl (by kernel_rfl) (by kernel_rfl) (by kernel_rfl) (fun _ _ _ h => h) (Or.inl ⟨by rfl, ?_⟩) (by assumption) ?_
  rotate_left
  · (intro V hSw; have q0 := cell_of_row V Sb 0 _ _ (0, 0) hSw.2.2; clear hSw; go_simp; try with_reducible rfl)
  try simp only [Act.put, List.getElem_toArray, List.getElem_cons_zero, List.setIfInBounds_toArray, List.set_cons_zero, List.set_cons_succ]
  refine wpAnyH_take (i := 1) (oi := _) (v := ?_) rfl (by kernel_rfl) (by kernel_rfl) (by kernel_rfl) (fun _ _ _ h => h) (Or.inl ⟨by rfl, ?_⟩) (by assumption) ?_
  rotate_left
  · (intro W hSw; (try dsimp only at hSw); go_simp; try with_reducible rfl)
  try simp only [Act.put, List.getElem_toArray, List.getElem_cons_succ, List.getElem_cons_zero, List.setIfInBounds_toArray, List.set_cons_zero, List.set_cons_succ]
  refine wpAnyH_take (i := 2) (oi := _) (v := ?_) rfl (by kernel_rfl) (by kernel_rfl) (by kernel_rfl) (fun _ _ _ h => h) (Or.inl ⟨by rfl, ?_⟩) (by assumption) ?_
  rotate_left
  · (intro W hSw; (try dsimp only at hSw); go_simp; try with_reducible rfl)
  try simp only [Act.put, List.getElem_toArray, List.getElem_cons_succ, List.getElem_cons_zero, List.setIfInBounds_toArray, List.set_cons_zero, List.set_cons_succ]
  refine wpAnyH_take (i := 3) (oi := _) (v := ?_) rfl (by kernel_rfl) (by kernel_rfl) (by kernel_rfl) (fun _ _ _ h => h) (Or.inl ⟨by rfl, ?_⟩) (by assumption) ?_
  rotate_left
  · (intro V hSw; have hq := cell_of_row V S 3 _ _ (0, 0) hSw.1; clear hSw; go_simp; try with_reducible rfl)
  try simp only [Act.put, List.getElem_toArray, List.getElem_cons_succ, List.getElem_cons_zero, List.setIfInBounds_toArray, List.set_cons_zero, List.set_cons_succ]
  refine wpAnyH_take (i := 4) (oi := _) (v := ?_) rfl (by kernel_rfl) (by kernel_rfl) (by kernel_rfl) (fun _ _ _ h => h) (Or.inl ⟨by rfl, ?_⟩) (by assumption) ?_
  rotate_left
  · (intro V hSw; have q0 := cell_of_row V Kb 0 _ _ (0, 0) hSw.2.1; have q1 := cell_of_row V Kb 1 _ _ (0, 0) hSw.2.1; have q2 := cell_of_row V Kb 2 _ _ (0, 0) hSw.2.1; clear hSw; go_simp; try with_reducible rfl)
  try simp only [Act.put, List.getElem_toArray, List.getElem_cons_succ, List.getElem_cons_zero, List.setIfInBounds_toArray, List.set_cons_zero, List.set_cons_succ]
  refine wpAnyH_ready (rs := [5]) (by kernel_rfl) (by simp) ?_
  refine AllReadyH.cons rfl (fun K hK => ?_) AllReadyH.nil
  simp only [List.getElem_toArray, List.getElem_cons_succ, List.getElem_cons_zero]
  rw [if_pos (by rfl)]
  go_simp
  refine hK.out _ _ N4.out (fun hHeld => ?_)
  clear hK K
  try simp only [Act.put, List.getElem_toArray, List.getElem_cons_succ, List.getElem_cons_zero, List.setIfInBounds_toArray, List.set_cons_zero, List.set_cons_succ]
  refine wpAnyH_done (by kernel_rfl) ?_ _
  clear hrun
  go_wp2
  refine bodyPost_end (results_none rfl _ _ _) rfl ?_
  exact ⟨rfl, H4.out.1, H4.out.2⟩

end Go.Proofs.YtlpnecmcncekcaaGreat.Mk
