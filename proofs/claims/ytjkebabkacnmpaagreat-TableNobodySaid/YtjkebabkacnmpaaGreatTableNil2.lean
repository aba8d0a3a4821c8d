/- A table that is none: Get, Do. -/
import Derived.Test.YtjkebabkacnmpaaGreatTableNil
namespace Go.Proofs.YtjkebabkacnmpaaGreat.Mk
open Go Go.RowKit Go.MuLone

theorem heap_two (W : World) (o p : Obj) : ((W.alloc o).alloc p).heap[W.heap.size]? = some o ∧ ((W.alloc o).alloc p).heap[W.heap.size + 1]? = some p :=
  ⟨(Below.heap_alloc _ _ _ (by simp)).trans (heap_alloc_new W o), heap_alloc_new2 (W.alloc o) p _ (by simp)⟩
theorem below_two (W : World) (o p : Obj) : Below W.heap.size W ((W.alloc o).alloc p) := ((Below.refl _ _).alloc (Nat.le_refl _) o).alloc (by simp) p
theorem setCell_at {V : World} {b i : Nat} {t : TypeId} {q : Nat × Nat} {cs : Array Value} (v : Value) (h : V.heap[b]? = some (.cells cs t q)) : (V.setCell ⟨b, i, none⟩ v).heap[b]? = some (.cells (cs.setIfInBounds i v) t q) := by
  simp [World.setCell, Array.getElem?_modify, h]
theorem row_set5 {V : World} {b : Nat} {t : TypeId} {q : Nat × Nat} {cs : Array Value} (v0 v1 v2 v3 v4 : Value) (hs : cs.size = 5) (h : V.heap[b]? = some (.cells cs t q)) :
    (((((V.setCell ⟨b, 0, none⟩ (v0)).setCell ⟨b, 1, none⟩ (v1)).setCell ⟨b, 2, none⟩ (v2)).setCell ⟨b, 3, none⟩ (v3)).setCell ⟨b, 4, none⟩ (v4)).heap[b]? = some (.cells #[v0, v1, v2, v3, v4] t q) ∧ (∀ k, k ≠ b → (((((V.setCell ⟨b, 0, none⟩ (v0)).setCell ⟨b, 1, none⟩ (v1)).setCell ⟨b, 2, none⟩ (v2)).setCell ⟨b, 3, none⟩ (v3)).setCell ⟨b, 4, none⟩ (v4)).heap[k]? = V.heap[k]?) ∧ (∀ B a, Below B a V → B ≤ b → Below B a (((((V.setCell ⟨b, 0, none⟩ (v0)).setCell ⟨b, 1, none⟩ (v1)).setCell ⟨b, 2, none⟩ (v2)).setCell ⟨b, 3, none⟩ (v3)).setCell ⟨b, 4, none⟩ (v4))) := by
  refine ⟨?_, fun k hk => ?_, fun B a hb hB => ?_⟩
  · refine (setCell_at _ (setCell_at _ (setCell_at _ (setCell_at _ (setCell_at _ h))))).trans ?_
    obtain ⟨l⟩ := cs
    match l, hs with
    | [a0, a1, a2, a3, a4], _ => rfl
  · simp only [Below.heap_setCell _ _ _ _ (show k ≠ (⟨b, 0, none⟩ : Addr).block from hk), Below.heap_setCell _ (⟨b, 1, none⟩ : Addr) _ _ hk, Below.heap_setCell _ (⟨b, 2, none⟩ : Addr) _ _ hk, Below.heap_setCell _ (⟨b, 3, none⟩ : Addr) _ _ hk, Below.heap_setCell _ (⟨b, 4, none⟩ : Addr) _ _ hk]
  · exact ((((hb.setCell hB _).setCell hB _).setCell hB _).setCell hB _).setCell hB _
theorem row_set4 {V : World} {b : Nat} {t : TypeId} {q : Nat × Nat} {cs : Array Value} (v0 v1 v2 v3 : Value) (hs : cs.size = 4) (h : V.heap[b]? = some (.cells cs t q)) :
    ((((V.setCell ⟨b, 0, none⟩ (v0)).setCell ⟨b, 1, none⟩ (v1)).setCell ⟨b, 2, none⟩ (v2)).setCell ⟨b, 3, none⟩ (v3)).heap[b]? = some (.cells #[v0, v1, v2, v3] t q) ∧ (∀ k, k ≠ b → ((((V.setCell ⟨b, 0, none⟩ (v0)).setCell ⟨b, 1, none⟩ (v1)).setCell ⟨b, 2, none⟩ (v2)).setCell ⟨b, 3, none⟩ (v3)).heap[k]? = V.heap[k]?) ∧ (∀ B a, Below B a V → B ≤ b → Below B a ((((V.setCell ⟨b, 0, none⟩ (v0)).setCell ⟨b, 1, none⟩ (v1)).setCell ⟨b, 2, none⟩ (v2)).setCell ⟨b, 3, none⟩ (v3))) := by
  refine ⟨?_, fun k hk => ?_, fun B a hb hB => ?_⟩
  · refine (setCell_at _ (setCell_at _ (setCell_at _ (setCell_at _ h)))).trans ?_
    obtain ⟨l⟩ := cs
    match l, hs with
    | [a0, a1, a2, a3], _ => rfl
  · simp only [Below.heap_setCell _ _ _ _ (show k ≠ (⟨b, 0, none⟩ : Addr).block from hk), Below.heap_setCell _ (⟨b, 1, none⟩ : Addr) _ _ hk, Below.heap_setCell _ (⟨b, 2, none⟩ : Addr) _ _ hk, Below.heap_setCell _ (⟨b, 3, none⟩ : Addr) _ _ hk]
  · exact (((hb.setCell hB _).setCell hB _).setCell hB _).setCell hB _
set_option maxRecDepth 20000 in
theorem tget_nil (k : K3) (W : World) : Calls Tryz.prog 4 #[.pointer none, k.val] W fun e w' => e = .returned (.tuple #[.agg en0.cells, .bool false]) ∧ Below W.heap.size W w' := by
  obtain ⟨kc, kf, ks⟩ := k
  unfold K3.val
  have hK := heap_two W (.cells #[.int .i64 kc, .int .i64 kf, .int .u64 ks] 24) (.cells #[.int .i64 0, .int .i64 0, .int .u64 0, .int .i64 0, .int .i64 0] 29)
  have b1 := below_two W (.cells #[.int .i64 kc, .int .i64 kf, .int .u64 ks] 24) (.cells #[.int .i64 0, .int .i64 0, .int .u64 0, .int .i64 0, .int .i64 0] 29)
  obtain ⟨W0, hW0⟩ : ∃ X, X = (W.alloc (.cells #[.int .i64 kc, .int .i64 kf, .int .u64 ks] 24)).alloc (.cells #[.int .i64 0, .int .i64 0, .int .u64 0, .int .i64 0, .int .i64 0] 29) := ⟨_, rfl⟩
  rw [← hW0] at hK b1
  have hlt : W.heap.size + 1 < W0.heap.size := (Array.getElem?_eq_some_iff.1 hK.2).1
  have HX := Lib.hid (And.intro hlt b1)
  clear hlt b1
  go_enter Tryz.func4, Tryz.ntmps4
  go_upto_region 1 with fail
  rw [← hW0]
  clear hW0
  refine wp_region_held_drew (S := (fun V => V.heap[W.heap.size]? = some (.cells #[.int .i64 kc, .int .i64 kf, .int .u64 ks] 24 (0, 0)) ∧ V.heap[W.heap.size + 1]? = some (.cells #[.int .i64 0, .int .i64 0, .int .u64 0, .int .i64 0, .int .i64 0] 29 (0, 0)))) (by kernel_rfl) hK (fun hHeld => ?_)
  refine wpAnyH_take (i := 0) (oi := _) (v := ?_) rfl (by kernel_rfl) (by kernel_rfl) (by kernel_rfl) (fun _ _ _ h => h) (Or.inl ⟨by rfl, ?_⟩) (by assumption) ?_
  rotate_left
  · (intro W hSw; (try dsimp only at hSw); go_simp; try with_reducible rfl)
  try simp only [Act.put, List.getElem_toArray, List.getElem_cons_zero, List.setIfInBounds_toArray, List.set_cons_zero, List.set_cons_succ]
  refine wpAnyH_take (i := 1) (oi := _) (v := ?_) rfl (by kernel_rfl) (by kernel_rfl) (by kernel_rfl) (fun _ _ _ h => h) (Or.inl ⟨by rfl, ?_⟩) (by assumption) ?_
  rotate_left
  · (intro V hSw; have q0 := cell_of_row V W.heap.size 0 _ _ (0, 0) hSw.1; have q1 := cell_of_row V W.heap.size 1 _ _ (0, 0) hSw.1; have q2 := cell_of_row V W.heap.size 2 _ _ (0, 0) hSw.1; clear hSw; go_simp; try with_reducible rfl)
  try simp only [Act.put, List.getElem_toArray, List.getElem_cons_succ, List.getElem_cons_zero, List.setIfInBounds_toArray, List.set_cons_zero, List.set_cons_succ]
  refine wpAnyH_take (i := 3) (oi := _) (v := ?_) rfl (by kernel_rfl) (by kernel_rfl) (by kernel_rfl) (fun _ _ _ h => h) (Or.inl ⟨by rfl, ?_⟩) (by assumption) ?_
  rotate_left
  · (intro V hSw; have q0 := cell_of_row V W.heap.size 0 _ _ (0, 0) hSw.1; have q1 := cell_of_row V W.heap.size 1 _ _ (0, 0) hSw.1; have q2 := cell_of_row V W.heap.size 2 _ _ (0, 0) hSw.1; clear hSw; go_simp; try with_reducible rfl)
  try simp only [Act.put, List.getElem_toArray, List.getElem_cons_succ, List.getElem_cons_zero, List.setIfInBounds_toArray, List.set_cons_zero, List.set_cons_succ]
  refine wpAnyH_ready (rs := [2]) (by kernel_rfl) (by simp) ?_
  refine AllReadyH.cons rfl (fun K hK => ?_) AllReadyH.nil
  simp only [List.getElem_toArray, List.getElem_cons_succ, List.getElem_cons_zero]
  rw [if_pos (by rfl)]
  go_simp
  refine (of_nil ⟨kc, kf, ks⟩ _).mono ?_
  rintro _ w2 ⟨rfl, b2⟩
  go_wp2_with fail
  refine hK.out _ _ ⟨(b2.block _ (by have := HX.out.1; show _ < W0.heap.size; omega)).trans hHeld.1, (b2.block _ HX.out.1).trans hHeld.2⟩ (fun hHeld => ?_)
  clear hK K
  try simp only [Act.put, List.getElem_toArray, List.getElem_cons_succ, List.getElem_cons_zero, List.setIfInBounds_toArray, List.set_cons_zero, List.set_cons_succ]
  refine wpAnyH_ready (rs := [4]) (by kernel_rfl) (by simp) ?_
  refine AllReadyH.cons rfl (fun K hK => ?_) AllReadyH.nil
  simp only [List.getElem_toArray, List.getElem_cons_succ, List.getElem_cons_zero]
  rw [if_pos (by rfl)]
  go_simp
  refine (get_nil ⟨kc, kf, ks⟩ _).mono ?_
  rintro _ w3 ⟨rfl, b3⟩
  unfold En.cells en0
  go_wp2_with fail
  refine hK.out _ _ ⟨(b3.block _ (by have := HX.out.1; have := b2.size; have h9 : W0.drew.heap.size = W0.heap.size := rfl; omega)).trans hHeld.1, (b3.block _ (by have := HX.out.1; have := b2.size; have h9 : W0.drew.heap.size = W0.heap.size := rfl; omega)).trans hHeld.2⟩ (fun hHeld => ?_)
  clear hK K
  try simp only [Act.put, List.getElem_toArray, List.getElem_cons_succ, List.getElem_cons_zero, List.setIfInBounds_toArray, List.set_cons_zero, List.set_cons_succ]
  refine wpAnyH_take (i := 5) (oi := _) (v := ?_) rfl (by kernel_rfl) (by kernel_rfl) (by kernel_rfl) (fun _ _ _ h => h) (Or.inl ⟨by rfl, ?_⟩) (by assumption) ?_
  rotate_left
  · (intro W hSw; (try dsimp only at hSw); go_simp; try with_reducible rfl)
  try simp only [Act.put, List.getElem_toArray, List.getElem_cons_succ, List.getElem_cons_zero, List.setIfInBounds_toArray, List.set_cons_zero, List.set_cons_succ]
  refine wpAnyH_take (i := 6) (oi := _) (v := ?_) rfl (by kernel_rfl) (by kernel_rfl) (by kernel_rfl) (fun _ _ _ h => h) (Or.inl ⟨by rfl, ?_⟩) (by assumption) ?_
  rotate_left
  · (intro W hSw; (try dsimp only at hSw); go_simp; try with_reducible rfl)
  try simp only [Act.put, List.getElem_toArray, List.getElem_cons_succ, List.getElem_cons_zero, List.setIfInBounds_toArray, List.set_cons_zero, List.set_cons_succ]
  have f3 : ∀ i, w3.frozen? ⟨W.heap.size + 1, i, none⟩ = false := fun i => by simp [World.frozen?, hHeld.2]
  have c0 := cell_of_row w3 (W.heap.size + 1) 0 _ _ (0, 0) hHeld.2
  have c1 := cell_of_row w3 (W.heap.size + 1) 1 _ _ (0, 0) hHeld.2
  have c2 := cell_of_row w3 (W.heap.size + 1) 2 _ _ (0, 0) hHeld.2
  have c3 := cell_of_row w3 (W.heap.size + 1) 3 _ _ (0, 0) hHeld.2
  have c4 := cell_of_row w3 (W.heap.size + 1) 4 _ _ (0, 0) hHeld.2
  have hs := row_set5 (.int .i64 0) (.int .i64 0) (.int .u64 0) (.int .i64 0) (.int .i64 0) rfl hHeld.2
  have hb3 : Below W.heap.size W w3 := (HX.out.2.drew.trans (b2.mono HX.out.2.size)).trans (b3.mono (by have := HX.out.2.size; have := b2.size; have h9 : W0.drew.heap.size = W0.heap.size := rfl; omega))
  have hb4 := hs.2.2 _ _ hb3 (by omega)
  have HS := Lib.hid (And.intro hs hb4)
  clear hs hb3 hb4
  refine wpAnyH_ready (rs := [7]) (by kernel_rfl) (by simp) ?_
  refine AllReadyH.cons rfl (fun K hK => ?_) AllReadyH.nil
  simp only [List.getElem_toArray, List.getElem_cons_succ, List.getElem_cons_zero]
  rw [if_pos (by rfl)]
  go_simp
  refine hK.out _ _ ⟨(HS.out.1.2.1 _ (by omega)).trans hHeld.1, HS.out.1.1⟩ (fun hHeld => ?_)
  clear hK K
  try simp only [Act.put, List.getElem_toArray, List.getElem_cons_succ, List.getElem_cons_zero, List.setIfInBounds_toArray, List.set_cons_zero, List.set_cons_succ]
  refine wpAnyH_take (i := 8) (oi := _) (v := ?_) rfl (by kernel_rfl) (by kernel_rfl) (by kernel_rfl) (fun _ _ _ h => h) (Or.inl ⟨by rfl, ?_⟩) (by assumption) ?_
  rotate_left
  · (intro W hSw; (try dsimp only at hSw); go_simp; try with_reducible rfl)
  try simp only [Act.put, List.getElem_toArray, List.getElem_cons_succ, List.getElem_cons_zero, List.setIfInBounds_toArray, List.set_cons_zero, List.set_cons_succ]
  refine wpAnyH_done (by kernel_rfl) ?_ _
  have HY := Lib.hid (And.intro HS.out.1.1 HS.out.2)
  generalize (((((w3.setCell ⟨W.heap.size + 1, 0, none⟩ (.int .i64 0)).setCell ⟨W.heap.size + 1, 1, none⟩ (.int .i64 0)).setCell ⟨W.heap.size + 1, 2, none⟩ (.int .u64 0)).setCell ⟨W.heap.size + 1, 3, none⟩ (.int .i64 0)).setCell ⟨W.heap.size + 1, 4, none⟩ (.int .i64 0)) = V4 at HY ⊢
  have r0 := cell_of_row V4 (W.heap.size + 1) 0 _ _ (0, 0) HY.out.1
  have r1 := cell_of_row V4 (W.heap.size + 1) 1 _ _ (0, 0) HY.out.1
  have r2 := cell_of_row V4 (W.heap.size + 1) 2 _ _ (0, 0) HY.out.1
  have r3 := cell_of_row V4 (W.heap.size + 1) 3 _ _ (0, 0) HY.out.1
  have r4 := cell_of_row V4 (W.heap.size + 1) 4 _ _ (0, 0) HY.out.1
  go_wp2
  simp [bodyPost, results, Tryz.results4, go_sem, r0, r1, r2, r3, r4]
  exact ⟨rfl, HY.out.2⟩
end Go.Proofs.YtjkebabkacnmpaaGreat.Mk
