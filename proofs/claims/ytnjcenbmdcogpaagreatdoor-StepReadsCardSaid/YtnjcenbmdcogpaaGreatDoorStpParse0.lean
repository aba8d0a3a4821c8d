/- Parse of a line: what lies where, while it runs. -/
import Derived.Test.YtnjcenbmdcogpaaGreatDoorStpNext
import Derived.Test.YtnjcenbmdcogpaaGreatDoorStpLine
import Derived.Test.YtnjcenbmdcogpaaGreatDoorStpUnhex
import Derived.Deep.MidRow
import Derived.Great.BuildSlice
namespace Go.Proofs.YtnjcenbmdcogpaaGreatDoor.Sp
open Go Go.Lib Go.RowKit

theorem sp_len : ∀ (l : Bs), (∀ w ∈ sp l, w.length ≤ l.length) ∧ (sp l).length ≤ l.length + 1
  | [] => ⟨fun w hw => by simp [sp] at hw; subst hw; simp, by simp [sp]⟩
  | c :: l => by
    have ih := sp_len l
    rw [sp]
    by_cases hc : c = 32
    · rw [if_pos hc]
      exact ⟨fun w hw => by
        rcases List.mem_cons.1 hw with rfl | hw
        · simp
        · have := ih.1 w hw; simp; omega, by simp; exact ih.2⟩
    · rw [if_neg hc]
      cases h : sp l with
      | nil => exact absurd h (sp_ne l)
      | cons a r =>
        rw [h] at ih
        refine ⟨fun w hw => ?_, by have := ih.2; simp at this ⊢; omega⟩
        rcases List.mem_cons.1 hw with rfl | hw
        · have := ih.1 a (by simp); simp; omega
        · have := ih.1 w (by simp [hw]); simp; omega
theorem spB_len (s : ByteArray) : (spB s).length ≤ s.size + 1 := by
  have := (sp_len s.data.toList).2
  rw [← spB_data, List.length_map] at this
  simpa using this
theorem spB_sz (s : ByteArray) (i : Nat) : ((spB s).getD i ⟨#[]⟩).size ≤ s.size := by
  rcases Nat.lt_or_ge i (spB s).length with h | h
  · rw [List.getD_eq_getElem?_getD, List.getElem?_eq_getElem h]
    have := (sp_len s.data.toList).1 ((spB s)[i]).data.toList (by rw [← spB_data]; exact List.mem_map.2 ⟨_, List.getElem_mem h, rfl⟩)
    simpa using this
  · rw [List.getD_eq_getElem?_getD, List.getElem?_eq_none h]; exact Nat.zero_le _
theorem sp_getD (s : ByteArray) (i : Nat) : (sp s.data.toList).getD i [] = ((spB s).getD i ⟨#[]⟩).data.toList := by
  rw [← spB_data, List.getD_eq_getElem?_getD, List.getD_eq_getElem?_getD, List.getElem?_map]
  cases (spB s)[i]? <;> rfl
theorem hd_drop (ws : List ByteArray) (i : Nat) : hd (ws.drop i) = ws.getD i ⟨#[]⟩ := by
  unfold hd; rw [List.getD_eq_getElem?_getD, List.getD_eq_getElem?_getD, List.getElem?_drop, Nat.add_zero]

structure PX (w W : World) (T : Nat) (ws : List ByteArray) (x : St) : Prop where
  b : Below w.heap.size w W
  r : W.heap[w.heap.size]? = some (.cells St0.cells 26 (0, 0))
  nx : NX W (w.heap.size + 2) (w.heap.size + 1) ws
  nb : NB W (w.heap.size + 3) (w.heap.size + 2)
  t : W.heap[T]? = some (.cells x.cells 26 (0, 0))
  hT : w.heap.size + 3 < T
  tab0 : Dec.Tab w
  e0 : ErrsLie w
theorem PX.tab {w W : World} {T : Nat} {ws : List ByteArray} {x : St} (h : PX w W T ws x) : Dec.Tab W := tabB h.tab0 h.b
theorem PX.errs {w W : World} {T : Nat} {ws : List ByteArray} {x : St} (h : PX w W T ws x) : ErrsLie W := h.e0.below h.b
theorem errs_far {w : World} (h : ErrsLie w) : 2 ≠ w.heap.size + 2 ∧ 3 ≠ w.heap.size + 2 := by
  obtain ⟨⟨a, ha, _⟩, ⟨b, hb, _⟩⟩ := h
  have h1 : 2 < w.heap.size := lt_of_cell ha
  have h2 : 3 < w.heap.size := lt_of_cell hb
  exact ⟨by omega, by omega⟩
theorem PX.oh {w W W' : World} {T : Nat} {ws ws' : List ByteArray} {x : St} (h : PX w W T ws x) (ho : Oh (w.heap.size + 2) W W') (hn : NX W' (w.heap.size + 2) (w.heap.size + 1) ws') : PX w W' T ws' x :=
  have lt : ∀ k o, W.heap[k]? = some o → k < W.heap.size := fun k o e => (Array.getElem?_eq_some_iff.1 e).1
  ⟨ho.below h.b (by omega) (Nat.le_refl _), (ho.block _ (by omega) (lt _ _ h.r)).trans h.r, hn, (ho.block _ (by omega) (lt _ _ h.nb)).trans h.nb, (ho.block _ (by have := h.hT; omega) (lt _ _ h.t)).trans h.t, h.hT, h.tab0, h.e0⟩
theorem PX.below {w W W' : World} {T : Nat} {ws : List ByteArray} {x : St} (h : PX w W T ws x) (hb : Below W.heap.size W W') : PX w W' T ws x := h.oh (Oh.of_below hb) (h.nx.below hb)
theorem set_cells {W : World} {B i : Nat} {cs : Array Value} {T : TypeId} (h : W.heap[B]? = some (.cells cs T (0, 0))) (v : Value) : (W.setCell ⟨B, i, none⟩ v).heap[B]? = some (.cells (cs.setIfInBounds i v) T (0, 0)) := by
  obtain ⟨hl, he⟩ := Array.getElem?_eq_some_iff.1 h
  simp [World.setCell, hl]
  rw [Array.getElem_modify_self, he]
theorem PX.set {w W : World} {T : Nat} {ws : List ByteArray} {x x' : St} (h : PX w W T ws x) (i : Nat) (v : Value) (hx : x.cells.setIfInBounds i v = x'.cells) : PX w (W.setCell ⟨T, i, none⟩ v) T ws x' := by
  have hT := h.hT
  have bl : ∀ k, k ≠ T → (W.setCell ⟨T, i, none⟩ v).heap[k]? = W.heap[k]? := fun k hk => Below.heap_setCell _ _ _ _ hk
  have hw0 := (Array.getElem?_eq_some_iff.1 h.r).1
  refine ⟨h.b.setCell (p := ⟨T, i, none⟩) (by show w.heap.size ≤ T; omega) v, (bl _ (by omega)).trans h.r, ?_, (bl _ (by omega)).trans h.nb, by rw [← hx]; exact set_cells h.t v, hT, h.tab0, h.e0⟩
  obtain ⟨A, cap, h1, h2, h3⟩ := h.nx
  refine ⟨A, cap, (bl _ (by omega)).trans h1, h2, ?_⟩
  rcases h3 with h3 | ⟨off, e1, e2, e3, e4⟩
  · exact .inl h3
  · exact .inr ⟨off, e1, e2, by simpa using e3, fun i hi => (cell_of_blk (bl _ (by omega))).trans (e4 i hi)⟩
theorem PX.cells {w W : World} {T : Nat} {ws : List ByteArray} {x : St} (h : PX w W T ws x) : (W.cell? ⟨T, 0, none⟩ = some (.int .i64 x.k) ∧ W.cell? ⟨T, 1, none⟩ = some (.int .i64 x.sd) ∧ W.cell? ⟨T, 2, none⟩ = some (.int .i64 x.n) ∧ W.cell? ⟨T, 3, none⟩ = some (.int .i64 x.c) ∧ W.cell? ⟨T, 4, none⟩ = some (.int .i64 x.f) ∧ W.cell? ⟨T, 6, none⟩ = some (.int .u64 x.t) ∧ W.cell? ⟨T, 7, none⟩ = some (.string x.d)) ∧
    (W.frozen? ⟨T, 1, none⟩ = false ∧ W.frozen? ⟨T, 2, none⟩ = false ∧ W.frozen? ⟨T, 3, none⟩ = false ∧ W.frozen? ⟨T, 4, none⟩ = false ∧ W.frozen? ⟨T, 6, none⟩ = false ∧ W.frozen? ⟨T, 7, none⟩ = false) := by
  have c : ∀ i, W.cell? ⟨T, i, none⟩ = x.cells[i]? := fun i => cell_of_row _ _ _ _ _ (0, 0) h.t
  have f : ∀ i, W.frozen? ⟨T, i, none⟩ = false := fun i => Lib.frozen_of_heap h.t i
  exact ⟨⟨c 0, c 1, c 2, c 3, c 4, c 6, c 7⟩, f 1, f 2, f 3, f 4, f 6, f 7⟩
/-- .. ahead of the step's own box -/
structure PY (w W : World) (ws : List ByteArray) : Prop where
  b : Below w.heap.size w W
  r : W.heap[w.heap.size]? = some (.cells St0.cells 26 (0, 0))
  nx : NX W (w.heap.size + 2) (w.heap.size + 1) ws
  nb : NB W (w.heap.size + 3) (w.heap.size + 2)
  tab0 : Dec.Tab w
  e0 : ErrsLie w
theorem PY.oh {w W W' : World} {ws ws' : List ByteArray} (h : PY w W ws) (ho : Oh (w.heap.size + 2) W W') (hn : NX W' (w.heap.size + 2) (w.heap.size + 1) ws') : PY w W' ws' :=
  have lt : ∀ k o, W.heap[k]? = some o → k < W.heap.size := fun k o e => (Array.getElem?_eq_some_iff.1 e).1
  ⟨ho.below h.b (by omega) (Nat.le_refl _), (ho.block _ (by omega) (lt _ _ h.r)).trans h.r, hn, (ho.block _ (by omega) (lt _ _ h.nb)).trans h.nb, h.tab0, h.e0⟩
theorem PY.px {w W : World} {ws : List ByteArray} (h : PY w W ws) (x : St) : PX w (W.alloc (.cells x.cells 26)) W.heap.size ws x :=
  have hb : Below W.heap.size W (W.alloc (.cells x.cells 26)) := (Below.refl _ _).alloc (Nat.le_refl _) _
  have h2 := h.oh (Oh.of_below hb) (h.nx.below hb)
  ⟨h2.b, h2.r, h2.nx, h2.nb, heap_alloc_new _ _, (Array.getElem?_eq_some_iff.1 h.nb).1, h.tab0, h.e0⟩
theorem PY.start {w w1 : World} {ss : List ByteArray} (hz : w1.heap.size = w.heap.size + 2) (hr : w1.heap[w.heap.size]? = some (.cells St0.cells 26 (0, 0))) (hg : w1.heap[w.heap.size + 1]? = some (.cells (ss.map Value.string).toArray 9 (0, 0))) (hb : Below w.heap.size w w1) (ht : Dec.Tab w) (he : ErrsLie w) :
    PY w ((w1.alloc (.cells #[.slice (some ⟨w.heap.size + 1, 0, none⟩) ss.length ss.length] 38)).alloc (.cells #[.func (.func 44) #[] #[.pointer (some ⟨w.heap.size + 2, 0, none⟩)]] 65)) ss := by
  have e2 := heap_alloc_new w1 (.cells #[.slice (some ⟨w.heap.size + 1, 0, none⟩) ss.length ss.length] 38)
  rw [hz] at e2
  obtain ⟨W2, hW2⟩ : ∃ W2, W2 = w1.alloc (.cells #[.slice (some ⟨w.heap.size + 1, 0, none⟩) ss.length ss.length] 38) := ⟨_, rfl⟩
  rw [← hW2] at e2 ⊢
  have hz2 : W2.heap.size = w.heap.size + 3 := by rw [hW2]; simp [hz]
  have e3 := heap_alloc_new W2 (.cells #[.func (.func 44) #[] #[.pointer (some ⟨w.heap.size + 2, 0, none⟩)]] 65)
  rw [hz2] at e3
  have hb2 : Below w1.heap.size w1 W2 := by rw [hW2]; exact (Below.refl _ _).alloc (Nat.le_refl _) _
  have hb3 : Below W2.heap.size W2 (W2.alloc (.cells #[.func (.func 44) #[] #[.pointer (some ⟨w.heap.size + 2, 0, none⟩)]] 65)) := (Below.refl _ _).alloc (Nat.le_refl _) _
  have hb13 := hb2.trans (hb3.mono hb2.size)
  refine ⟨hb.trans (hb13.mono (by omega)), (hb13.block _ (by omega)).trans hr, ⟨some ⟨w.heap.size + 1, 0, none⟩, ss.length, (hb3.block _ (by omega)).trans e2, Nat.le_refl _, ?_⟩, e3, ht, he⟩
  by_cases h0 : ss = []
  · exact .inl h0
  · refine .inr ⟨0, rfl, by omega, by have := hb3.size; omega, fun i hi => ?_⟩
    rw [cell_of_blk (hb13.block _ (by omega)), cell_of_row _ _ _ _ _ (0, 0) hg]
    rw [Nat.zero_add, List.getElem?_toArray, List.getElem?_map, List.getElem?_eq_getElem hi, List.getD_eq_getElem?_getD, List.getElem?_eq_getElem hi]; rfl
/-- how Parse ends -/
def pE (s : ByteArray) : Ending := match parseL s.data.toList with
  | some x => .returned (.tuple #[.agg x.cells, .int .i64 0])
  | none => .returned (.tuple #[.agg St0.cells, .int .i64 3])
theorem cells8_one (x : St) : x.cells.all (·.oneCell') = true := by
  simp [St.cells, Value.oneCell']
theorem hi8 (x : St) : (Tryz.prog.info? 26).map (·.size) = some x.cells.size := by show _ = some 8; kernel_rfl
theorem res8 (tmps : Array Value) (w : World) (g : Nat) (x : St) (n : Int) (hp : tmps.getD 2 undef = .pointer (some ⟨g, 0, none⟩)) (h3 : tmps.getD 3 undef = .int .i64 n)
    (hg : w.heap[g]? = some (.cells x.cells 26 (0, 0))) : (results Tryz.f13 tmps).run Tryz.prog w = .ok (.tuple #[.agg x.cells, .int .i64 n]) w := by
  have hp' : tmps[2]?.getD undef = .pointer (some ⟨g, 0, none⟩) := by simpa using hp
  have h3' : tmps[3]?.getD undef = .int .i64 n := by simpa using h3
  simp [results, Tryz.results13, hp', h3', asAddr, run_loadVar_row w g 26 26 x.cells (0, 0) _ hg Tryz.underlying26 rfl (hi8 x)]
end Go.Proofs.YtnjcenbmdcogpaaGreatDoor.Sp
