/- Rows of numbers that a call owns: stores, slices.Delete, blocks beside them. -/
import Derived.Test.YtnopmeadliaiiaaCommon
import Derived.Shelf.Slices.Cells
import Derived.Maps.AppendAt
namespace Go.Proofs.Ytnopmeadliaiiaa
open Go.RowKit Go.Shelf

def laysDelete_ren : Go.Shelf.Ren := ⟨fun | 23 => 24 | n => n, fun | 22 => 22 | 3 => 3 | 4 => 4 | 0 => 0 | n => n, fun | n => n⟩
theorem laysDelete : Go.Proofs.Lays2.n23 Try.prog laysDelete_ren := {
  mixed := by kernel_rfl
  f23 := Try.func24.trans (congrArg some (by kernel_rfl))
  t0 := Try.underlying0
  a0 := Try.isAgg0
  z0 := Try.sizeOf0
  v0 := Try.zeroValue0
  t3 := Try.underlying3
  a3 := Try.isAgg3
  z3 := Try.sizeOf3
  v3 := Try.zeroValue3
  t4 := Try.underlying4
  a4 := Try.isAgg4
  z4 := Try.sizeOf4
  v4 := Try.zeroValue4
  t22 := Try.underlying22
  a22 := Try.isAgg22
  z22 := Try.sizeOf22
  v22 := Try.zeroValue22
  i3 := by kernel_rfl }

/-- A row behind stores into its first cells. -/
theorem heap_setCells {e : TypeId} {fr : Nat × Nat} (u : Nat) : ∀ (vs : List Value) (o : Nat) (w : World) (cur : Array Value), w.heap[u]? = some (.cells cur e fr) → o + vs.length ≤ cur.size →
    ∃ cur', (w.setCells u o vs).heap[u]? = some (.cells cur' e fr) ∧ cur'.size = cur.size ∧ cur'.toList = cur.toList.take o ++ vs ++ cur.toList.drop (o + vs.length) := by
  intro vs
  induction vs with
  | nil => intro o w cur h _; exact ⟨cur, h, rfl, by simp⟩
  | cons v r ih =>
    intro o w cur h hl
    simp only [List.length_cons] at hl
    have h1 : (w.setCell ⟨u, o, none⟩ v).heap[u]? = some (.cells (cur.setIfInBounds o v) e fr) := by simp [World.setCell, Array.getElem?_modify, h]
    obtain ⟨cur', h2, h3, h4⟩ := ih (o + 1) _ _ h1 (by simp; omega)
    refine ⟨cur', h2, by simpa using h3, ?_⟩
    rw [h4, Array.toList_setIfInBounds]
    have ho : o < cur.toList.length := by simp; omega
    rw [List.take_set, List.drop_set]
    simp only [List.length_cons]
    have e1 : (List.take (o + 1) cur.toList).set o v = List.take o cur.toList ++ [v] := by
      have hm : (List.take o cur.toList).length = o := by rw [List.length_take]; omega
      rw [List.take_succ_eq_append_getElem ho, List.set_append, if_neg (by omega), hm, Nat.sub_self]
      rfl
    rw [e1]
    simp only [show o < o + 1 + r.length from by omega, if_true, List.append_assoc, List.cons_append, List.nil_append, show o + (r.length + 1) = o + 1 + r.length from by omega]

/-- A row of the call's own behind stores into all its elements, cut to the first m of them. -/
theorem own_setCells {w : World} {base e n m cap u : Nat} {xs : List Value} (h : w.ownsRow base e 1 (.slice (some ⟨u, 0, none⟩) n cap) n xs) (hn : 0 < n) (vs : List Value) (hv : vs.length = n) (hm : m ≤ n) :
    (w.setCells u 0 vs).ownsRow base e 1 (.slice (some ⟨u, 0, none⟩) m cap) m (vs.take m) := by
  rcases h.2 with ⟨_, h0⟩ | ⟨g, cap', cur, hs, hg, hh, hc, hcm, hsz, htk⟩
  · omega
  · injection hs with hA _ hcc
    injection hA with hA
    injection hA with hA
    subst hA hcc
    obtain ⟨cur', h1, h2, h3⟩ := heap_setCells u vs 0 w cur hh (by omega)
    refine ⟨by simp; omega, Or.inr ⟨u, cap, cur', rfl, hg, h1, by omega, hcm, by omega, ?_⟩⟩
    rw [h3, List.take_zero, List.nil_append, Nat.mul_one, List.take_append_of_le_length (by omega)]

theorem heap_setCells_far (u : Nat) : ∀ (vs : List Value) (o : Nat) (w : World) (g : Nat), g ≠ u → (w.setCells u o vs).heap[g]? = w.heap[g]? := by
  intro vs
  induction vs with
  | nil => intro o w g _; rfl
  | cons v r ih => intro o w g hg; exact (ih (o + 1) _ g hg).trans (Below.heap_setCell _ _ _ _ hg)

theorem stores_below {B u : Nat} {a : World} (hu : B ≤ u) : ∀ (vs : List Value) (o : Nat) (w : World), Below B a w → Below B a (w.setCells u o vs) := by
  intro vs
  induction vs with
  | nil => intro o w h; exact h
  | cons v r ih => intro o w h; exact ih (o + 1) _ (h.setCell (p := ⟨u, o, none⟩) hu v)

theorem own_drewN {w : World} {base e size n : Nat} {v : Value} {xs : List Value} (h : w.ownsRow base e size v n xs) (k : Nat) : (w.drewN k).ownsRow base e size v n xs := h

def ints (xs : List Int) : List Value := xs.map (Value.int .i64)
theorem ints_at (xs : List Int) (j : Nat) (h : j < xs.length) : (ints xs)[j]? = some (.int .i64 (xs.getD j 0)) := by
  unfold ints
  rw [List.getElem?_map, List.getElem?_eq_getElem h, List.getD_eq_getElem?_getD, List.getElem?_eq_getElem h]; rfl

theorem cell_blk {w : World} {g : Nat} {cs : Array Value} {t : TypeId} (h : w.heap[g]? = some (.cells cs t (0, 0))) (i : Nat) : w.cell? ⟨g, i, none⟩ = cs[i]? := cell_of_row w g i cs t (0, 0) h
theorem free_blk {w : World} {g : Nat} {cs : Array Value} {t : TypeId} (h : w.heap[g]? = some (.cells cs t (0, 0))) (i : Nat) : w.frozen? ⟨g, i, none⟩ = false := by simp [World.frozen?, h]

theorem own_setother {w : World} {base e T n g i : Nat} {v u : Value} {cs : Array Value} {xs : List Value} (h : w.ownsRow base e 1 v n xs) (hb : w.heap[g]? = some (.cells cs T (0, 0))) (hT : T ≠ e) :
    (w.setCell ⟨g, i, none⟩ u).ownsRow base e 1 v n xs := by
  refine ⟨h.1, ?_⟩
  rcases h.2 with h2 | ⟨k, cap, cur, hv, hg, hh, r⟩
  · exact Or.inl h2
  · refine Or.inr ⟨k, cap, cur, hv, hg, (Below.heap_setCell _ _ _ _ fun e => ?_).trans hh, r⟩
    subst e
    rw [hh] at hb
    injection hb with hb
    injection hb with _ ht
    exact hT ht.symm

theorem set0_blk {w : World} {g : Nat} {a b u : Value} {t : TypeId} (h : w.heap[g]? = some (.cells #[a, b] t (0, 0))) : (w.setCell ⟨g, 0, none⟩ u).heap[g]? = some (.cells #[u, b] t (0, 0)) := by
  simp [World.setCell, Array.getElem?_modify, h]

theorem lt_blk {w : World} {g : Nat} {o : Obj} (h : w.heap[g]? = some o) : g < w.heap.size := by
  rcases Nat.lt_or_ge g w.heap.size with h1 | h1
  · exact h1
  · rw [Array.getElem?_eq_none h1] at h; cases h

theorem grown_blk {w w1 : World} {g base e T n : Nat} {v : Value} {cs : Array Value} {xs : List Value} (hb : w.heap[g]? = some (.cells cs T (0, 0))) (hg : w.grownBy w1 v.ownBlock) (hown : w.ownsRow base e 1 v n xs) (hT : T ≠ e) :
    w1.heap[g]? = some (.cells cs T (0, 0)) := by
  refine (hg.block g (lt_blk hb) fun heq => ?_).trans hb
  rcases hown.2 with ⟨rfl, _⟩ | ⟨k, cap, cur, rfl, _, hh, _⟩
  · simp [Value.ownBlock] at heq
  · simp [Value.ownBlock] at heq
    subst heq
    rw [hb] at hh
    injection hh with hh
    injection hh with _ ht
    exact hT ht

theorem infoI : (Try.prog.info? 3).map (fun i => (i.zero, i.size, i.bytes)) = some (some (.int .i64 0), 1, 8) := by kernel_rfl

end Go.Proofs.Ytnopmeadliaiiaa
