/- A shard's Get. -/
import Derived.Test.YtlpnecmcncekcaaGreatShardOps
import Derived.Test.YtlpnecmcncekcaaGreatBlocks
namespace Go.Proofs.YtlpnecmcncekcaaGreat.Mk
open Go Go.RowKit Go.MuLone

set_option maxRecDepth 20000 in
set_option maxHeartbeats 2000000 in
theorem sget_full (S B : Nat) (room : Int) (l : List Ms) (clock : Nat) (k : K3) (W : World) (h : ShIs W S B room l clock 0) :
    Calls Tryz.prog 42 #[.pointer (some ⟨S, 0, none⟩), k.val] W fun e w' => e = .returned (.tuple #[.agg ((entM k l).getD en0).cells, .bool (entM k l).isSome]) ∧ ShIs w' S B room l clock 0 ∧ Only2 S B W w' := by
  have hlk := fun V h => look_ent k B l clock V h
  generalize (entM k l).getD en0 = e at hlk ⊢
  generalize (entM k l).isSome = b at hlk ⊢
  obtain ⟨kc, kf, ks⟩ := k
  unfold K3.val En.cells at hlk
  have HLk := Lib.hid hlk
  clear hlk
  have hS := h.ltS
  have hB := h.ltB
  have hKK := heap_two W (.cells #[.int .i64 kc, .int .i64 kf, .int .u64 ks] 41) (.cells #[.int .i64 0, .int .i64 0, .int .u64 0, .int .i64 0, .int .i64 0] 54)
  obtain ⟨W0, hW0⟩ : ∃ X, X = (W.alloc (.cells #[.int .i64 kc, .int .i64 kf, .int .u64 ks] 41)).alloc (.cells #[.int .i64 0, .int .i64 0, .int .u64 0, .int .i64 0, .int .i64 0] 54) := ⟨_, rfl⟩
  rw [← hW0] at hKK
  have h0 : ShIs W0 S B room l clock 0 := by rw [hW0]; exact (h.new _).new _
  have hO : Only2 S B W W0 := by rw [hW0]; exact ((Only2.refl S B W).alloc _).alloc _
  obtain ⟨c0, -, -, f0⟩ := h0.cells
  unfold K3.val
  go_enter_defers Tryz.func42, Tryz.ntmps42
  go_upto_region 3 with fail
  rw [← hW0]
  clear hW0
  go_wp2_with fail
  refine (lock_free muLib ⟨S, 0, none⟩ _ c0 f0).mono ?_
  rintro _ w1 ⟨rfl, hw⟩
  have h1 : ShIs w1 S B room l clock 1 := by rw [hw]; exact h0.lock 1
  have hK1 := And.intro (show w1.heap[W.heap.size]? = some (.cells #[.int .i64 kc, .int .i64 kf, .int .u64 ks] 41 (0, 0)) by rw [hw]; exact (Below.heap_setCell _ _ _ _ (fun e => by have : W.heap.size = S := e; omega)).trans hKK.1) (show w1.heap[W.heap.size + 1]? = some (.cells #[.int .i64 0, .int .i64 0, .int .u64 0, .int .i64 0, .int .i64 0] 54 (0, 0)) by rw [hw]; exact (Below.heap_setCell _ _ _ _ (fun e => by have : W.heap.size + 1 = S := e; omega)).trans hKK.2)
  have hO1 : Only2 S B W w1 := by rw [hw]; exact hO.setS 0 _
  have H1 := Lib.hid h1
  have HK1 := Lib.hid hK1
  have HO1 := Lib.hid hO1
  have HO0 := Lib.hid (And.intro hS hB)
  clear hw h0 hKK hO c0 f0 h1 hK1 hO1 h hS hB W0
  go_upto_region 5 with fail
  refine Code.wp_mono (noP_le _) ?_
  refine wp_region_held_drew (S := (fun V => ShIs V S B room l clock 1 ∧ V.heap[W.heap.size]? = some (.cells #[.int .i64 kc, .int .i64 kf, .int .u64 ks] 41 (0, 0)) ∧ V.heap[W.heap.size + 1]? = some (.cells #[.int .i64 0, .int .i64 0, .int .u64 0, .int .i64 0, .int .i64 0] 54 (0, 0)))) (by kernel_rfl) ⟨⟨H1.out.box, H1.out.map⟩, HK1.out.1, HK1.out.2⟩ (fun hHeld => ?_)
  refine wpAnyH_take (i := 0) (oi := _) (v := ?_) rfl (by kernel_rfl) (by kernel_rfl) (by kernel_rfl) (fun _ _ _ h => h) (Or.inl ⟨by rfl, ?_⟩) (by assumption) ?_
  rotate_left
  · (intro W hSw; (try dsimp only at hSw); go_simp; try with_reducible rfl)
  try simp only [Act.put, List.getElem_toArray, List.getElem_cons_zero, List.setIfInBounds_toArray, List.set_cons_zero, List.set_cons_succ]
  refine wpAnyH_take (i := 1) (oi := _) (v := ?_) rfl (by kernel_rfl) (by kernel_rfl) (by kernel_rfl) (fun _ _ _ h => h) (Or.inl ⟨by rfl, ?_⟩) (by assumption) ?_
  rotate_left
  · (intro W hSw; (try dsimp only at hSw); go_simp; try with_reducible rfl)
  try simp only [Act.put, List.getElem_toArray, List.getElem_cons_succ, List.getElem_cons_zero, List.setIfInBounds_toArray, List.set_cons_zero, List.set_cons_succ]
  refine wpAnyH_take (i := 2) (oi := _) (v := ?_) rfl (by kernel_rfl) (by kernel_rfl) (by kernel_rfl) (fun _ _ _ h => h) (Or.inl ⟨by rfl, ?_⟩) (by assumption) ?_
  rotate_left
  · (intro W hSw; (try dsimp only at hSw); go_simp; try with_reducible rfl)
  try simp only [Act.put, List.getElem_toArray, List.getElem_cons_succ, List.getElem_cons_zero, List.setIfInBounds_toArray, List.set_cons_zero, List.set_cons_succ]
  refine wpAnyH_take (i := 3) (oi := _) (v := ?_) rfl (by kernel_rfl) (by kernel_rfl) (by kernel_rfl) (fun _ _ _ h => h) (Or.inl ⟨by rfl, ?_⟩) (by assumption) ?_
  rotate_left
  · (intro V hSw; have hq := (hSw.1.cells).2.2.1; clear hSw; go_simp; try with_reducible rfl)
  try simp only [Act.put, List.getElem_toArray, List.getElem_cons_succ, List.getElem_cons_zero, List.setIfInBounds_toArray, List.set_cons_zero, List.set_cons_succ]
  refine wpAnyH_take (i := 4) (oi := _) (v := ?_) rfl (by kernel_rfl) (by kernel_rfl) (by kernel_rfl) (fun _ _ _ h => h) (Or.inl ⟨by rfl, ?_⟩) (by assumption) ?_
  rotate_left
  · (intro V hSw; have q0 := cell_of_row V W.heap.size 0 _ _ (0, 0) hSw.2.1; have q1 := cell_of_row V W.heap.size 1 _ _ (0, 0) hSw.2.1; have q2 := cell_of_row V W.heap.size 2 _ _ (0, 0) hSw.2.1; clear hSw; go_simp; try with_reducible rfl)
  try simp only [Act.put, List.getElem_toArray, List.getElem_cons_succ, List.getElem_cons_zero, List.setIfInBounds_toArray, List.set_cons_zero, List.set_cons_succ]
  refine wpAnyH_take (i := 5) (oi := _) (v := ?_) rfl (by kernel_rfl) (by kernel_rfl) (by kernel_rfl) (fun _ _ _ h => h) (Or.inl ⟨by rfl, ?_⟩) (by assumption) ?_
  rotate_left
  · (intro V hSw; have hq := HLk.out V hSw.1.map; clear hSw; go_simp; try with_reducible rfl)
  try simp only [Act.put, List.getElem_toArray, List.getElem_cons_succ, List.getElem_cons_zero, List.setIfInBounds_toArray, List.set_cons_zero, List.set_cons_succ]
  refine wpAnyH_take (i := 6) (oi := _) (v := ?_) rfl (by kernel_rfl) (by kernel_rfl) (by kernel_rfl) (fun _ _ _ h => h) (Or.inl ⟨by rfl, ?_⟩) (by assumption) ?_
  rotate_left
  · (intro W hSw; (try dsimp only at hSw); go_simp; try with_reducible rfl)
  try simp only [Act.put, List.getElem_toArray, List.getElem_cons_succ, List.getElem_cons_zero, List.setIfInBounds_toArray, List.set_cons_zero, List.set_cons_succ]
  refine wpAnyH_take (i := 7) (oi := _) (v := ?_) rfl (by kernel_rfl) (by kernel_rfl) (by kernel_rfl) (fun _ _ _ h => h) (Or.inl ⟨by rfl, ?_⟩) (by assumption) ?_
  rotate_left
  · (intro W hSw; (try dsimp only at hSw); go_simp; try with_reducible rfl)
  try simp only [Act.put, List.getElem_toArray, List.getElem_cons_succ, List.getElem_cons_zero, List.setIfInBounds_toArray, List.set_cons_zero, List.set_cons_succ]
  refine wpAnyH_take (i := 8) (oi := _) (v := ?_) rfl (by kernel_rfl) (by kernel_rfl) (by kernel_rfl) (fun _ _ _ h => h) (Or.inl ⟨by rfl, ?_⟩) (by assumption) ?_
  rotate_left
  · (intro W hSw; (try dsimp only at hSw); go_simp; try with_reducible rfl)
  try simp only [Act.put, List.getElem_toArray, List.getElem_cons_succ, List.getElem_cons_zero, List.setIfInBounds_toArray, List.set_cons_zero, List.set_cons_succ]
  refine wpAnyH_ready (rs := [9]) (by kernel_rfl) (by simp) ?_
  refine AllReadyH.cons rfl (fun K hK => ?_) AllReadyH.nil
  simp only [List.getElem_toArray, List.getElem_cons_succ, List.getElem_cons_zero]
  rw [if_pos (by rfl)]
  go_simp
  refine hK.out _ _ ⟨hHeld.1.new _, (Below.heap_alloc _ _ _ (Array.getElem?_eq_some_iff.1 hHeld.2.1).1).trans hHeld.2.1, (Below.heap_alloc _ _ _ (Array.getElem?_eq_some_iff.1 hHeld.2.2).1).trans hHeld.2.2⟩ (fun hHeld => ?_)
  clear hK K
  try simp only [Act.put, List.getElem_toArray, List.getElem_cons_succ, List.getElem_cons_zero, List.setIfInBounds_toArray, List.set_cons_zero, List.set_cons_succ]
  refine wpAnyH_ready (rs := [10]) (by kernel_rfl) (by simp) ?_
  refine AllReadyH.cons rfl (fun K hK => ?_) AllReadyH.nil
  simp only [List.getElem_toArray, List.getElem_cons_succ, List.getElem_cons_zero]
  rw [if_pos (by rfl)]
  go_simp
  refine hK.out _ _ ⟨⟨(H1.out.new _).box, (H1.out.new _).map⟩, (Below.heap_alloc _ _ _ (Array.getElem?_eq_some_iff.1 HK1.out.1).1).trans HK1.out.1, (Below.heap_alloc _ _ _ (Array.getElem?_eq_some_iff.1 HK1.out.2).1).trans HK1.out.2⟩ (fun hHeld => ?_)
  clear hK K
  try simp only [Act.put, List.getElem_toArray, List.getElem_cons_succ, List.getElem_cons_zero, List.setIfInBounds_toArray, List.set_cons_zero, List.set_cons_succ]
  refine wpAnyH_take (i := 11) (oi := _) (v := ?_) rfl (by kernel_rfl) (by kernel_rfl) (by kernel_rfl) (fun _ _ _ h => h) (Or.inl ⟨by rfl, ?_⟩) (by assumption) ?_
  rotate_left
  · (intro W hSw; (try dsimp only at hSw); go_simp; try with_reducible rfl)
  try simp only [Act.put, List.getElem_toArray, List.getElem_cons_succ, List.getElem_cons_zero, List.setIfInBounds_toArray, List.set_cons_zero, List.set_cons_succ]
  refine wpAnyH_done (by kernel_rfl) ?_ _
  simp only [NoP]
  obtain ⟨w2, hw2⟩ : ∃ X, X = (w1.alloc (.cells #[.int .i64 e.k.c, .int .i64 e.k.f, .int .u64 e.k.s, .int .i64 e.st, .int .i64 e.ow] 54)).drew := ⟨_, rfl⟩
  rw [← hw2]
  have H2 := Lib.hid (show ShIs w2 S B room l clock 1 by rw [hw2]; exact ⟨(H1.out.new _).box, (H1.out.new _).map⟩)
  have HK2 := Lib.hid (show w2.heap[W.heap.size + 1]? = some (.cells #[.int .i64 0, .int .i64 0, .int .u64 0, .int .i64 0, .int .i64 0] 54 (0, 0)) by rw [hw2]; exact (Below.heap_alloc _ _ _ (Array.getElem?_eq_some_iff.1 HK1.out.2).1).trans HK1.out.2)
  have HE2 := Lib.hid (show w2.heap[w1.heap.size]? = some (.cells #[.int .i64 e.k.c, .int .i64 e.k.f, .int .u64 e.k.s, .int .i64 e.st, .int .i64 e.ow] 54 (0, 0)) by rw [hw2]; exact heap_alloc_new w1 _)
  have HO2 := Lib.hid (show Only2 S B W w2 by rw [hw2]; exact (HO1.out.alloc _).drew)
  have hEK : W.heap.size + 1 < w1.heap.size := (Array.getElem?_eq_some_iff.1 HK1.out.2).1
  obtain ⟨Ea, hEa⟩ : ∃ Ea, Ea = w1.heap.size := ⟨_, rfl⟩
  rw [← hEa] at HE2 hEK ⊢
  clear hw2 hEa H1 HK1 HO1 HLk
  go_upto_region 6 with fail
  have q := fun i => cell_of_row w2 Ea i _ _ (0, 0) HE2.out
  have q0 := q 0; have q1 := q 1; have q2 := q 2; have q3 := q 3; have q4 := q 4
  have r := fun i => cell_of_row w2 (W.heap.size + 1) i _ _ (0, 0) HK2.out
  have r0 := r 0; have r1 := r 1; have r2 := r 2; have r3 := r 3; have r4 := r 4
  have f3 : ∀ i, w2.frozen? ⟨W.heap.size + 1, i, none⟩ = false := fun i => by simp [World.frozen?, HK2.out]
  have hs := row_set5 (.int .i64 e.k.c) (.int .i64 e.k.f) (.int .u64 e.k.s) (.int .i64 e.st) (.int .i64 e.ow) rfl HK2.out
  have H5 : ShIs (((((w2.setCell ⟨W.heap.size + 1, 0, none⟩ (.int .i64 e.k.c)).setCell ⟨W.heap.size + 1, 1, none⟩ (.int .i64 e.k.f)).setCell ⟨W.heap.size + 1, 2, none⟩ (.int .u64 e.k.s)).setCell ⟨W.heap.size + 1, 3, none⟩ (.int .i64 e.st)).setCell ⟨W.heap.size + 1, 4, none⟩ (.int .i64 e.ow)) S B room l clock 1 := ⟨(hs.2.1 S (by have := HO0.out; omega)).trans H2.out.box, (hs.2.1 B (by have := HO0.out; omega)).trans H2.out.map⟩
  have HO5 : Only2 S B W (((((w2.setCell ⟨W.heap.size + 1, 0, none⟩ (.int .i64 e.k.c)).setCell ⟨W.heap.size + 1, 1, none⟩ (.int .i64 e.k.f)).setCell ⟨W.heap.size + 1, 2, none⟩ (.int .u64 e.k.s)).setCell ⟨W.heap.size + 1, 3, none⟩ (.int .i64 e.st)).setCell ⟨W.heap.size + 1, 4, none⟩ (.int .i64 e.ow)) := ((((HO2.out.setNew (Nat.le_succ _) 0 _).setNew (Nat.le_succ _) 1 _).setNew (Nat.le_succ _) 2 _).setNew (Nat.le_succ _) 3 _).setNew (Nat.le_succ _) 4 _
  have H3 := Lib.hid (And.intro hs.1 (And.intro H5 HO5))
  clear hs H5 HO5 q r H2 HE2 HO2
  go_wp2_with fail
  generalize (((((w2.setCell ⟨W.heap.size + 1, 0, none⟩ (.int .i64 e.k.c)).setCell ⟨W.heap.size + 1, 1, none⟩ (.int .i64 e.k.f)).setCell ⟨W.heap.size + 1, 2, none⟩ (.int .u64 e.k.s)).setCell ⟨W.heap.size + 1, 3, none⟩ (.int .i64 e.st)).setCell ⟨W.heap.size + 1, 4, none⟩ (.int .i64 e.ow)) = w5 at H3 ⊢
  refine leaves_cons (f := 47) (args := #[.pointer (some ⟨S, 0, none⟩)]) (by simp) (by simp [go_sem]) ?_
  refine (unlock_deferred muLib ⟨S, 0, none⟩ .returning _ H3.out.2.1.cells.1 H3.out.2.1.cells.2.2.2).mono ?_
  rintro _ u' w9 ⟨rfl, rfl, hw9⟩
  have HO9 := H3.out.2.2.setS 0 (.int .i32 0)
  have h9 : w9.heap[W.heap.size + 1]? = some (.cells #[.int .i64 e.k.c, .int .i64 e.k.f, .int .u64 e.k.s, .int .i64 e.st, .int .i64 e.ow] 54 (0, 0)) := by rw [hw9]; exact (Below.heap_setCell _ _ _ _ (fun e => by have : W.heap.size + 1 = S := e; have := HO0.out; omega)).trans H3.out.1
  rw [← hw9] at HO9
  have s0 := cell_of_row w9 (W.heap.size + 1) 0 _ _ (0, 0) h9
  have s1 := cell_of_row w9 (W.heap.size + 1) 1 _ _ (0, 0) h9
  have s2 := cell_of_row w9 (W.heap.size + 1) 2 _ _ (0, 0) h9
  have s3 := cell_of_row w9 (W.heap.size + 1) 3 _ _ (0, 0) h9
  have s4 := cell_of_row w9 (W.heap.size + 1) 4 _ _ (0, 0) h9
  refine ⟨.tuple #[.agg e.cells, .bool b], ?_, rfl, by rw [hw9]; exact H3.out.2.1.lock 0, HO9⟩
  unfold En.cells
  simp [results, Tryz.results42, go_sem, s0, s1, s2, s3, s4]
theorem sget_any (S B : Nat) (room : Int) (l : List Ms) (clock : Nat) (k : K3) (W : World) (h : ShIs W S B room l clock 0) :
    Calls Tryz.prog 42 #[.pointer (some ⟨S, 0, none⟩), k.val] W fun e w' => e = .returned (.tuple #[.agg ((entM k l).getD en0).cells, .bool (entM k l).isSome]) ∧ Only2 S B W w' :=
  (sget_full S B room l clock k W h).mono fun _ _ ⟨he, _, hO⟩ => ⟨he, hO⟩
end Go.Proofs.YtlpnecmcncekcaaGreat.Mk
