/- The page's parts of a row of messages. -/
import Derived.Test.YtnidafgjbocfcaaBatchRows
import Derived.Deep.RegionHeld3
import Derived.Laws.OwnMore
namespace Go.Proofs.Ytnidafgjbocfcaa.Msg
open Go Go.RowKit Go.Shelf

/-- The parts up to a place: those that are full, and the last one. -/
structure P2 (W : World) (base : Nat) (out : Value) (us : List Value) (uc : Value) (done : List (List M7)) (cur : List M7) (most k : Nat) (ms : List M7) : Prop where
  parts : Parts W base out (us ++ [uc]) (done ++ [cur])
  apart : ∀ i, i < done.length → (us.getD i undef).ownBlock = none ∨ (us.getD i undef).ownBlock ≠ uc.ownBlock
  full : ∀ d ∈ done, d.length = most
  flat : done.flatten ++ cur = ms.take k
  le : cur.length ≤ most

/-- At a round's head. -/
def RP (base : Nat) (ms : List M7) (most k : Nat) (out : Value) (W : World) : Prop :=
  (k = 0 ∧ out = .slice none 0 0) ∨ ∃ us uc done cur, P2 W base out us uc done cur most k ms ∧ 1 ≤ cur.length
/-- Ahead of what puts a message in. -/
def RQ (base : Nat) (ms : List M7) (most k : Nat) (out : Value) (W : World) : Prop :=
  ∃ us uc done cur, P2 W base out us uc done cur most k ms ∧ cur.length < most ∧ done.length ≤ k

theorem flat_len {most : Nat} : ∀ {done : List (List M7)}, (∀ d ∈ done, d.length = most) → done.flatten.length = done.length * most
  | [], _ => by simp
  | d :: done, h => by
    rw [List.flatten_cons, List.length_append, h d (by simp), flat_len (fun x hx => h x (by simp [hx])), List.length_cons, Nat.succ_mul]
    omega

section
variable {W W' : World} {base most k : Nat} {out uc : Value} {us : List Value} {done : List (List M7)} {cur : List M7} {ms : List M7}
theorem P2.count (h : P2 W base out us uc done cur most k ms) (hk : k ≤ ms.length) : done.length * most + cur.length = k := by
  have h1 := congrArg List.length h.flat
  rw [List.length_append, flat_len h.full, List.length_take] at h1
  omega
theorem P2.few (h : P2 W base out us uc done cur most k ms) (hm : 1 ≤ most) (hk : k ≤ ms.length) : done.length ≤ k := by
  have h1 := h.count hk
  have := Nat.le_mul_of_pos_right done.length (show 0 < most by omega)
  omega
theorem RP.stays (h : RP base ms most k out W) (hm : 1 ≤ most) (hk : k ≤ ms.length) (hr : k % most ≠ 0) : RQ base ms most k out W := by
  rcases h with ⟨rfl, _⟩ | ⟨us, uc, done, cur, h, _⟩
  · simp at hr
  · refine ⟨us, uc, done, cur, h, ?_, h.few hm hk⟩
    rcases Nat.lt_or_ge cur.length most with h1 | h1
    · exact h1
    · have h2 := h.count hk
      have h3 := h.le
      refine absurd ?_ hr
      rw [← h2, show done.length * most + cur.length = (done.length + 1) * most from by rw [Nat.succ_mul]; omega]
      exact Nat.mul_mod_left _ _
/-- How many rows there are. -/
theorem RP.row (h : RP base ms most k out W) (hm : 1 ≤ most) (hk : k ≤ ms.length) : ∃ n us, n ≤ k ∧ W.ownsRow base TMs 1 out n us := by
  rcases h with ⟨rfl, rfl⟩ | ⟨us, uc, done, cur, h, h1⟩
  · exact ⟨0, [], Nat.le_refl _, World.ownsRow_nil _ _ _ _⟩
  · refine ⟨_, _, ?_, h.parts.row⟩
    have h2 := h.count hk
    have h3 := h.parts.len
    have := Nat.le_mul_of_pos_right done.length (show 0 < most by omega)
    simp only [List.length_append, List.length_singleton] at *
    omega
theorem RP.opens (h : RP base ms most k out W) (hm : 1 ≤ most) (hk : k ≤ ms.length) (hr : k % most = 0) {n : Nat} {us0 : List Value} {out' : Value} (hn : W.ownsRow base TMs 1 out n us0) (hr' : W'.ownsRow base TMs 1 out' (n + 1) (us0 ++ [.slice none 0 0]))
    (hg : (W.alloc (.cells #[.slice none 0 0] TMs)).grownBy W' out.ownBlock) : RQ base ms most k out' W' := by
  rcases h with ⟨rfl, rfl⟩ | ⟨us, uc, done, cur, h, h1⟩
  · have h0 : n = 0 ∧ us0 = [] := by
      rcases hn.2 with ⟨_, h0⟩ | ⟨g, cap, c, hv, _⟩
      · subst h0; exact ⟨rfl, List.eq_nil_of_length_eq_zero (by have := hn.1; omega)⟩
      · cases hv
    obtain ⟨rfl, rfl⟩ := h0
    refine ⟨[], .slice none 0 0, [], [], ⟨⟨hr', rfl, fun i hi => ?_⟩, fun i hi => absurd hi (by simp), fun d hd => absurd hd (by simp), by simp, Nat.zero_le _⟩, by simp; omega, by simp⟩
    simp at hi
    subst hi
    exact World.ownsRow_nil _ _ _ _
  · have hfull : cur.length = most := by
      have h2 := h.count hk
      have h3 := h.le
      rcases Nat.lt_or_ge cur.length most with h4 | h4
      · exfalso
        rw [← h2, Nat.mul_comm, Nat.mul_add_mod, Nat.mod_eq_of_lt h4] at hr
        omega
      · omega
    have hrow := h.parts.row
    have hnu : n = (us ++ [uc]).length ∧ us0 = us ++ [uc] := by
      obtain ⟨g, cap, he, _, _⟩ := hrow.form (by simp)
      rw [he] at hn hrow
      have hl : n = (us ++ [uc]).length := by
        rcases hn.2 with ⟨h0, _⟩ | ⟨g', cap', c, hv, _⟩
        · cases h0
        · injection hv with _ hl _; exact hl.symm
      subst hl
      refine ⟨rfl, ?_⟩
      have a1 := hn.cells (g := g) rfl
      have a2 := hrow.cells (g := g) rfl
      refine List.ext_getElem? fun j => ?_
      have l1 := hn.1
      have l2 := hrow.1
      rcases Nat.lt_or_ge j us0.length with hj | hj
      · have e1 := a1 j _ (List.getElem?_eq_getElem hj)
        have e2 := a2 j _ (List.getElem?_eq_getElem (by omega))
        rw [List.getElem?_eq_getElem hj, List.getElem?_eq_getElem (show j < (us ++ [uc]).length by omega)]
        exact e1.symm.trans e2
      · rw [List.getElem?_eq_none hj, List.getElem?_eq_none (by omega)]
    obtain ⟨rfl, rfl⟩ := hnu
    have hpl := h.parts.len
    simp only [List.length_append, List.length_singleton] at hpl
    have hkeep : ∀ (x : Value) (n : Nat) (zs : List Value), W.ownsRow base TM 7 x n zs → W'.ownsRow base TM 7 x n zs := fun x n zs hx => own_other (hx.alloc _) (hrow.alloc _) (by decide) hg
    refine ⟨us ++ [uc], .slice none 0 0, done ++ [cur], [], ⟨h.parts.snoc (p := []) hr' hkeep (World.ownsRow_nil _ _ _ _), fun i hi => ?_, fun d hd => ?_, by rw [List.append_nil, List.flatten_append, List.flatten_singleton]; exact h.flat, Nat.zero_le _⟩, by simp; omega, ?_⟩
    · exact (by cases hx : ((us ++ [uc]).getD i undef).ownBlock with
        | none => exact .inl rfl
        | some b => exact .inr (by simp [Value.ownBlock]))
    · rcases List.mem_append.1 hd with hd | hd
      · exact h.full d hd
      · simp at hd; subst hd; exact hfull
    · have h2 := h.count hk
      have := Nat.le_mul_of_pos_right done.length (show 0 < most by omega)
      simp only [List.length_append, List.length_singleton]
      omega
/-- One message more in the last one. -/
theorem P2.put {m : M7} {G C g2 cap2 : Nat} {w2 : World} (h : P2 W base (.slice (some ⟨G, 0, none⟩) (us.length + 1) C) us uc done cur most k ms) (hc : cur.length < most) (hk : k < ms.length) (hm : ms.getD k m0 = m)
    (hown : w2.ownsRow base TM 7 (.slice (some ⟨g2, 0, none⟩) (cur.length + 1) cap2) (cur.length + 1) (mevs cur ++ m.cells.toList)) (hg : (W.alloc (.cells m.cells TM)).grownBy w2 uc.ownBlock) (hat : uc.ownBlock = some g2 ∨ g2 = W.heap.size + 1) :
    w2.cell? ⟨G, us.length, none⟩ = some uc ∧ w2.frozen? ⟨G, us.length, none⟩ = false ∧
    RP base ms most (k + 1) (.slice (some ⟨G, 0, none⟩) (us.length + 1) C) (w2.setCell ⟨G, us.length, none⟩ (.slice (some ⟨g2, 0, none⟩) (cur.length + 1) cap2)) := by
  have hlen : us.length = done.length := by have := h.parts.len; simpa using this
  have hcur : W.ownsRow base TM 7 uc cur.length (mevs cur) := by
    have := h.parts.each done.length (by simp)
    rw [getD_snocR, ← hlen, getD_snocR] at this
    exact this
  have hrow : w2.ownsRow base TMs 1 (.slice (some ⟨G, 0, none⟩) (us.length + 1) C) (us.length + 1) (us ++ [uc]) := own_other (by have := h.parts.row; rw [List.length_append, List.length_singleton] at this; exact this.alloc _) (hcur.alloc _) (by decide) hg
  have hcell := hrow.cells (g := G) rfl us.length uc (by simp)
  have hadd : (⟨G, 0, none⟩ : Addr).add us.length = ⟨G, us.length, none⟩ := by unfold Addr.add; by_cases h : us.length = 0 <;> simp [h]
  rw [hadd] at hcell
  have hst := hrow.stored us.length (.slice (some ⟨g2, 0, none⟩) (cur.length + 1) cap2)
  have hset : (us ++ [uc]).set us.length (.slice (some ⟨g2, 0, none⟩) (cur.length + 1) cap2) = us ++ [.slice (some ⟨g2, 0, none⟩) (cur.length + 1) cap2] := by simp
  rw [hset] at hst
  have hmev : mevs (cur ++ [m]) = mevs cur ++ m.cells.toList := mevs_snoc _ _
  refine ⟨hcell, hrow.frozenAt _, .inr ⟨us, .slice (some ⟨g2, 0, none⟩) (cur.length + 1) cap2, done, cur ++ [m], ⟨⟨by rw [List.length_append, List.length_singleton]; exact hst.1, by simp [hlen], fun i hi => ?_⟩, fun i hi => ?_, h.full, ?_, by simp; omega⟩, by simp⟩⟩
  · simp at hi
    rcases Nat.lt_or_ge i done.length with h1 | h1
    · rw [getD_snocL _ _ _ _ h1, getD_snocL _ _ _ _ (by omega)]
      have h2 := h.parts.each i (by simp; omega)
      rw [getD_snocL _ _ _ _ h1, getD_snocL _ _ _ _ (by omega)] at h2
      have h3 : w2.ownsRow base TM 7 (us.getD i undef) (done.getD i []).length (mevs (done.getD i [])) := own_apart (h2.alloc _) (h.apart i h1) hg
      exact own_other h3 hrow (by decide) hst.2
    · obtain rfl : i = done.length := by omega
      rw [getD_snocR, ← hlen, getD_snocR, hmev, List.length_append, List.length_singleton]
      exact own_other hown hrow (by decide) hst.2
  · rcases h.apart i hi with h1 | h1
    · exact .inl h1
    · right
      intro he
      rcases hat with hat | hat
      · exact h1 (he.trans hat.symm)
      · have h2 := h.parts.each i (by simp; omega)
        rw [getD_snocL _ _ _ _ hi, getD_snocL _ _ _ _ (by omega)] at h2
        have := (h2.lt g2 he).2
        omega
  · rw [← List.append_assoc, h.flat, List.take_succ_eq_append_getElem hk]
    congr 1
    rw [← hm, List.getD_eq_getElem?_getD, List.getElem?_eq_getElem hk]
    rfl
end
end Go.Proofs.Ytnidafgjbocfcaa.Msg
