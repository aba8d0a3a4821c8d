/- A row of rows of messages, each the call's own; what the parts of a row are. -/
import Derived.Test.YtnidafgjbocfcaaMsgRows
import Derived.Test.YtnidafgjbocfcaaBatchParts1
import Derived.Deep.AppendLies
namespace Go.Proofs.Ytnidafgjbocfcaa.Msg
open Go Go.RowKit Go.Shelf

abbrev TM : Nat := 80
abbrev TMs : Nat := 23

/-- Rows of messages, one behind the other, each of the call's own. -/
structure Parts (w : World) (base : Nat) (v : Value) (us : List Value) (ps : List (List M7)) : Prop where
  row : w.ownsRow base TMs 1 v us.length us
  len : us.length = ps.length
  each : ∀ i, i < ps.length → w.ownsRow base TM 7 (us.getD i undef) (ps.getD i []).length (mevs (ps.getD i []))

theorem own_blk_type {w : World} {base e n size k : Nat} {v : Value} {o : Obj} {zs : List Value} (h : w.ownsRow base e size v n zs) (hk : v.ownBlock = some k) (hb : w.heap[k]? = some o) : ∃ cs fr, o = .cells cs e fr := by
  rcases h.2 with ⟨rfl, _⟩ | ⟨g', cap, cur, rfl, _, hh, _⟩
  · cases hk
  · injection hk with hk
    subst hk
    rw [hh] at hb
    injection hb with hb
    exact ⟨_, _, hb.symm⟩
/-- A row behind a store or an append in a block of another type. -/
theorem own_other {w w' : World} {base e n size e' n' size' base' : Nat} {v v' : Value} {xs xs' : List Value} (h : w.ownsRow base e size v n xs) (h' : w.ownsRow base' e' size' v' n' xs') (hne : e ≠ e') (hg : w.grownBy w' v'.ownBlock) : w'.ownsRow base e size v n xs := by
  refine ⟨h.1, ?_⟩
  rcases h.2 with h2 | ⟨k, cap, cur, hv, hgb, hh, r⟩
  · exact .inl h2
  · refine .inr ⟨k, cap, cur, hv, hgb, (hg.block k (lt_blk hh) fun heq => ?_).trans hh, r⟩
    obtain ⟨cs, fr, ho⟩ := own_blk_type h' heq.symm hh
    injection ho with _ ht
    exact hne ht
theorem own_apart {w w' : World} {base e n size : Nat} {v : Value} {row : Option Nat} {xs : List Value} (h : w.ownsRow base e size v n xs) (hne : v.ownBlock = none ∨ v.ownBlock ≠ row) (hg : w.grownBy w' row) : w'.ownsRow base e size v n xs := by
  refine ⟨h.1, ?_⟩
  rcases h.2 with h2 | ⟨k, cap, cur, rfl, hgb, hh, r⟩
  · exact .inl h2
  · refine .inr ⟨k, cap, cur, rfl, hgb, (hg.block k (lt_blk hh) fun heq => ?_).trans hh, r⟩
    rcases hne with h1 | h1
    · cases h1
    · exact h1 heq
theorem own_setblk {w : World} {base e n size g i T : Nat} {v u : Value} {cs : Array Value} {fr : Nat × Nat} {xs : List Value} (h : w.ownsRow base e size v n xs) (hb : w.heap[g]? = some (.cells cs T fr)) (hT : T ≠ e) :
    (w.setCell ⟨g, i, none⟩ u).ownsRow base e size v n xs := by
  refine ⟨h.1, ?_⟩
  rcases h.2 with h2 | ⟨k, cap, cur, hv, hg, hh, r⟩
  · exact Or.inl h2
  · refine Or.inr ⟨k, cap, cur, hv, hg, (Below.heap_setCell _ _ _ _ fun e => ?_).trans hh, r⟩
    subst e
    rw [hh] at hb
    injection hb with hb
    injection hb with _ ht
    exact hT ht.symm
theorem own_belowN {w w' : World} {B base e size n : Nat} {v : Value} {xs : List Value} (h : w.ownsRow base e size v n xs) (hb : Below B w w') (hB : w.heap.size ≤ B) : w'.ownsRow base e size v n xs := own_below h (hb.mono hB)
theorem own_base {w : World} {base base' e size n : Nat} {v : Value} {xs : List Value} (h : w.ownsRow base' e size v n xs) (hB : base ≤ base') : w.ownsRow base e size v n xs := by
  refine ⟨h.1, ?_⟩
  rcases h.2 with h2 | ⟨k, cap, cur, hv, hg, r⟩
  · exact .inl h2
  · exact .inr ⟨k, cap, cur, hv, Nat.le_trans hB hg, r⟩

section
variable {w w' : World} {base : Nat} {v v' u : Value} {us : List Value} {ps : List (List M7)} {p : List M7}
theorem Parts.nil (w : World) (base : Nat) : Parts w base (.slice none 0 0) [] [] := ⟨World.ownsRow_nil _ _ _ _, rfl, fun i h => absurd h (by simp)⟩
theorem Parts.below {B : Nat} (h : Parts w base v us ps) (hb : Below B w w') (hB : w.heap.size ≤ B) : Parts w' base v us ps := ⟨own_belowN h.row hb hB, h.len, fun i hi => own_belowN (h.each i hi) hb hB⟩
theorem Parts.setblk {g i T : Nat} {x : Value} {cs : Array Value} {fr : Nat × Nat} (h : Parts w base v us ps) (hb : w.heap[g]? = some (.cells cs T fr)) (h1 : T ≠ TMs) (h2 : T ≠ TM) : Parts (w.setCell ⟨g, i, none⟩ x) base v us ps :=
  ⟨own_setblk h.row hb h1, h.len, fun j hj => own_setblk (h.each j hj) hb h2⟩
theorem getD_snocL {α : Type} (xs : List α) (x d : α) (i : Nat) (h : i < xs.length) : (xs ++ [x]).getD i d = xs.getD i d := by
  rw [List.getD_eq_getElem?_getD, List.getD_eq_getElem?_getD, List.getElem?_append_left h]
theorem getD_snocR {α : Type} (xs : List α) (x d : α) : (xs ++ [x]).getD xs.length d = x := by simp
/-- One row more. -/
theorem Parts.snoc (h : Parts w base v us ps) (hr : w'.ownsRow base TMs 1 v' (us.length + 1) (us ++ [u])) (hk : ∀ (x : Value) (n : Nat) (zs : List Value), w.ownsRow base TM 7 x n zs → w'.ownsRow base TM 7 x n zs)
    (hu : w.ownsRow base TM 7 u p.length (mevs p)) : Parts w' base v' (us ++ [u]) (ps ++ [p]) := by
  refine ⟨by rw [List.length_append, List.length_singleton]; exact hr, by simp [h.len], fun i hi => ?_⟩
  simp at hi
  rcases Nat.lt_or_ge i ps.length with h1 | h1
  · rw [getD_snocL _ _ _ _ h1, getD_snocL _ _ _ _ (by rw [h.len]; exact h1)]
    exact hk _ _ _ (h.each i h1)
  · obtain rfl : i = ps.length := by omega
    rw [getD_snocR, ← h.len, getD_snocR]
    exact hk _ _ _ hu
/-- The i-th row: its slice, its messages. -/
theorem Parts.at (h : Parts w base v us ps) (i : Nat) (hi : i < ps.length) : ∃ A c, us.getD i undef = .slice A (ps.getD i []).length c ∧ Rd w A (ps.getD i []).length (ps.getD i []) := by
  have h1 := h.each i hi
  obtain ⟨A, c, hA⟩ := own_formN h1
  rw [hA] at h1
  exact ⟨A, c, hA, row_at h1 rfl⟩
end

theorem infoMs : (Try.prog.info? 23).map (fun i => (i.zero, i.size, i.bytes)) = some (some (.slice none 0 0), 1, 24) := by kernel_rfl

/-- Rows of which each but the last one has most messages are the parts of all together. -/
theorem parts_unique {most : Nat} (hm : 1 ≤ most) : ∀ (done : List (List M7)) (cur : List M7), (∀ d ∈ done, d.length = most) → 1 ≤ cur.length → cur.length ≤ most → partsOf most (done.flatten ++ cur) = done ++ [cur]
  | [], cur, _, h1, h2 => by
    show partsOf most cur = [cur]
    rw [partsOf_cons hm (by omega), List.take_of_length_le h2, List.drop_eq_nil_of_le h2]
    rfl
  | d :: done, cur, hd, h1, h2 => by
    have hl := hd d (by simp)
    have ih := parts_unique hm done cur (fun x hx => hd x (by simp [hx])) h1 h2
    rw [List.flatten_cons, List.append_assoc, partsOf_cons hm (by rw [List.length_append]; omega), List.take_append_of_le_length (by omega), List.take_of_length_le (by omega)]
    rw [List.drop_append_of_le_length (by omega), List.drop_eq_nil_of_le (by omega), List.nil_append, ih]
    rfl

theorem chunks_all {most : Nat} (hm : 1 ≤ most) : ∀ (f : Nat) (l : List M7), l.length ≤ f → (chunks most f l).flatten = l ∧ ∀ d ∈ chunks most f l, 1 ≤ d.length ∧ d.length ≤ most
  | 0, l, h => by
    have : l = [] := List.eq_nil_of_length_eq_zero (by omega)
    subst this
    exact ⟨rfl, fun d hd => by simp [chunks] at hd⟩
  | f + 1, l, h => by
    unfold chunks
    by_cases hl : l = []
    · rw [if_pos hl, hl]
      exact ⟨rfl, fun d hd => by simp at hd⟩
    · have hpos : 1 ≤ l.length := by
        cases l with
        | nil => exact absurd rfl hl
        | cons _ _ => simp
      obtain ⟨h1, h2⟩ := chunks_all hm f (l.drop most) (by rw [List.length_drop]; omega)
      rw [if_neg hl]
      refine ⟨by rw [List.flatten_cons, h1, List.take_append_drop], fun d hd => ?_⟩
      rcases List.mem_cons.1 hd with rfl | hd
      · rw [List.length_take]; omega
      · exact h2 d hd
theorem parts_flat {most : Nat} (hm : 1 ≤ most) (l : List M7) : (partsOf most l).flatten = l := (chunks_all hm _ l (Nat.le_refl _)).1
theorem parts_part {most : Nat} (hm : 1 ≤ most) (l : List M7) (i : Nat) (hi : i < (partsOf most l).length) : 1 ≤ ((partsOf most l).getD i []).length ∧ ((partsOf most l).getD i []).length ≤ most := by
  refine (chunks_all hm _ l (Nat.le_refl _)).2 _ ?_
  show (partsOf most l).getD i [] ∈ partsOf most l
  rw [List.getD_eq_getElem?_getD, List.getElem?_eq_getElem hi]
  exact List.getElem_mem hi
theorem chunks_len {most : Nat} (hm : 1 ≤ most) : ∀ (f : Nat) (l : List M7), (chunks most f l).length ≤ f
  | 0, l => Nat.le_refl _
  | f + 1, l => by
    unfold chunks
    by_cases hl : l = []
    · rw [if_pos hl]; simp
    · rw [if_neg hl]
      have := chunks_len hm f (l.drop most)
      simp; omega
theorem parts_len {most : Nat} (hm : 1 ≤ most) (l : List M7) : (partsOf most l).length ≤ l.length := chunks_len hm _ l

end Go.Proofs.Ytnidafgjbocfcaa.Msg
