/- 'TokenPlays' holds for every input, with no condition: which tokens are called off, and why. -/
import Derived.Test.YticcobciafbleaaForest
import Derived.Deep.CutBlock
import Derived.Deep.DeepCutAuto
namespace Go.Proofs.Yticcobciafbleaa.tokenPlays
open Go.RowKit Go.Shelf Token Forest

/-- A slice that reads ls triples of numbers. -/
def Rt (w : World) (A : Option Addr) (len : Nat) (zs : List (Int × Int × Int)) : Prop :=
  0 < len → ∃ b off, A = some ⟨b, off, none⟩ ∧ b < w.heap.size ∧ ∀ i, i < len → w.cell? ⟨b, off + i * 3, none⟩ = some (.int .i64 (zs.getD i (0, 0, 0)).1) ∧ w.cell? ⟨b, off + i * 3 + 1, none⟩ = some (.int .i64 (zs.getD i (0, 0, 0)).2.1) ∧ w.cell? ⟨b, off + i * 3 + 2, none⟩ = some (.int .i64 (zs.getD i (0, 0, 0)).2.2)

theorem infoP : (Try.prog.info? TP).map (fun i => (i.zero, i.size, i.bytes)) = some (some (.pointer none), 1, 8) := by kernel_rfl
theorem infoE : (Try.prog.info? TE).map (fun i => (i.zero, i.size, i.bytes)) = some (some (.int .i64 0), 1, 8) := by kernel_rfl

/-- What stands in blocks of other types stands ls it was. -/
def Kt (T : TypeId) (w w' : World) : Prop := ∀ (j : Nat) (cs : Array Value) (e : TypeId) (fr : Nat × Nat), e ≠ T → w.heap[j]? = some (.cells cs e fr) → w'.heap[j]? = some (.cells cs e fr)
section
variable {w w' w0 w1 : World} {B f : Nat} {a p o : Value} {ls gs : List Nat} {ps cs : List Int}
theorem Kt.grown {e n : Nat} {v : Value} {zs : List Value} {ob : Obj} (hown : w.ownsRow B e 1 v n zs) (hg : (w.alloc ob).grownBy w' v.ownBlock) : Kt e w w' := fun j c t fr hne hh => by
  have h3 := (Below.heap_alloc w ob _ (lt_blk hh)).trans hh
  refine (hg.block j (lt_blk h3) fun heq => ?_).trans h3
  rcases hown.2 with ⟨rfl, _⟩ | ⟨k, cap, cur, rfl, _, hk, _⟩
  · simp [Value.ownBlock] at heq
  · simp [Value.ownBlock] at heq
    subst heq
    rw [hh] at hk
    injection hk with hk
    injection hk with _ ht
    exact hne ht
theorem Kt.set {g i : Nat} {c : Array Value} {T : TypeId} {fr : Nat × Nat} (hb : w.heap[g]? = some (.cells c T fr)) (v : Value) : Kt T w (w.setCell ⟨g, i, none⟩ v) := fun j c' t fr' hne hh => by
  refine (Below.heap_setCell _ _ _ _ (fun e => ?_)).trans hh
  subst e
  rw [hh] at hb
  injection hb with hb
  injection hb with _ ht
  exact hne ht
theorem own_kt {e n T : Nat} {v : Value} {zs : List Value} (h : w.ownsRow B e 1 v n zs) (hk : Kt T w w') (hne : e ≠ T) : w'.ownsRow B e 1 v n zs := by
  refine ⟨h.1, ?_⟩
  rcases h.2 with h2 | ⟨k, cap, cur, rfl, hg, hh, r⟩
  · exact .inl h2
  · exact .inr ⟨k, cap, cur, rfl, hg, hk k _ _ _ hne hh, r⟩

/-- Between a forest and the next one. -/
structure M (w1 w0 w : World) (B f : Nat) (a p o : Value) (ls : List Nat) (ps cs : List Int) : Prop where
  box : w.heap[f]? = some (.cells #[p, o] TF (0, 0))
  rp : w.ownsRow B 3 1 p ps.length (ints ps)
  ro : w.ownsRow B TE 1 o cs.length (ints cs)
  row : w.ownsRow B TP 1 a ls.length (ptrs ls)
  tk : ∀ (j : Nat) (c : Array Value), w0.heap[j]? = some (.cells c TT (0, 0)) → w.heap[j]? = some (.cells c TT (0, 0))
  bel : Below B w1 w
  sz : B ≤ w.heap.size
  hB : B ≤ f

theorem M.append_a {t : Nat} {a' : Value} {ob : Obj} (h : M w1 w0 w B f a p o ls ps cs) (hown : w'.ownsRow B TP 1 a' (ls.length + 1) (ptrs ls ++ [.pointer (some ⟨t, 0, none⟩)])) (hg : (w.alloc ob).grownBy w' a.ownBlock) : M w1 w0 w' B f a' p o (ls ++ [t]) ps cs := by
  have hk := Kt.grown h.row hg
  refine ⟨hk f _ _ _ (by decide) h.box, own_kt h.rp hk (by decide), own_kt h.ro hk (by decide), ?_, fun j c hc => hk j _ _ _ (by decide) (h.tk j c hc), (h.bel.alloc h.sz _).grown hg (by have := h.sz; simp; omega) (own_ge h.row), ?_, h.hB⟩
  · rw [List.length_append, List.length_singleton]
    have e : ptrs (ls ++ [t]) = ptrs ls ++ [.pointer (some ⟨t, 0, none⟩)] := by simp [ptrs]
    rw [e]
    exact hown
  · have := hg.size; have := h.sz; simp at *; omega
theorem M.append_p {x : Int} {p' : Value} {ob : Obj} (h : M w1 w0 w B f a p o ls ps cs) (hown : w'.ownsRow B 3 1 p' (ps.length + 1) (ints ps ++ [.int .i64 x])) (hg : (w.alloc ob).grownBy w' p.ownBlock) : w'.heap[f]? = some (.cells #[p, o] TF (0, 0)) ∧ M w1 w0 (w'.setCell ⟨f, 0, none⟩ p') B f a p' o ls (ps ++ [x]) cs := by
  have hk := Kt.grown h.rp hg
  have hb : w'.heap[f]? = some (.cells #[p, o] TF (0, 0)) := hk f _ _ _ (by decide) h.box
  have hs : Kt TF w' (w'.setCell ⟨f, 0, none⟩ p') := Kt.set hb p'
  have hz : B ≤ w'.heap.size := by have := hg.size; have := h.sz; simp at *; omega
  refine ⟨hb, set0_blk hb, ?_, own_kt (own_kt h.ro hk (by decide)) hs (by decide), own_kt (own_kt h.row hk (by decide)) hs (by decide), fun j c hc => hs j _ _ _ (by decide) (hk j _ _ _ (by decide) (h.tk j c hc)), ((h.bel.alloc h.sz _).grown hg (by have := h.sz; simp; omega) (own_ge h.rp)).setCell (p := ⟨f, 0, none⟩) h.hB _, by simpa [World.setCell] using hz, h.hB⟩
  rw [List.length_append, List.length_singleton]
  have e : ints (ps ++ [x]) = ints ps ++ [.int .i64 x] := by simp [ints]
  rw [e]
  exact own_kt hown hs (by decide)
theorem M.append_o {x : Int} {o' : Value} {ob : Obj} (h : M w1 w0 w B f a p o ls ps cs) (hown : w'.ownsRow B TE 1 o' (cs.length + 1) (ints cs ++ [.int .i64 x])) (hg : (w.alloc ob).grownBy w' o.ownBlock) : w'.heap[f]? = some (.cells #[p, o] TF (0, 0)) ∧ M w1 w0 (w'.setCell ⟨f, 1, none⟩ o') B f a p o' ls ps (cs ++ [x]) := by
  have hk := Kt.grown h.ro hg
  have hb : w'.heap[f]? = some (.cells #[p, o] TF (0, 0)) := hk f _ _ _ (by decide) h.box
  have hs : Kt TF w' (w'.setCell ⟨f, 1, none⟩ o') := Kt.set hb o'
  have hz : B ≤ w'.heap.size := by have := hg.size; have := h.sz; simp at *; omega
  refine ⟨hb, set_blk hb, own_kt (own_kt h.rp hk (by decide)) hs (by decide), ?_, own_kt (own_kt h.row hk (by decide)) hs (by decide), fun j c hc => hs j _ _ _ (by decide) (hk j _ _ _ (by decide) (h.tk j c hc)), ((h.bel.alloc h.sz _).grown hg (by have := h.sz; simp; omega) (own_ge h.ro)).setCell (p := ⟨f, 1, none⟩) h.hB _, by simpa [World.setCell] using hz, h.hB⟩
  rw [List.length_append, List.length_singleton]
  have e : ints (cs ++ [x]) = ints cs ++ [.int .i64 x] := by simp [ints]
  rw [e]
  exact own_kt hown hs (by decide)

theorem F.start (h : F w B f a p o gs ps cs) (hb : Below B w1 w) (hz : B ≤ w.heap.size) {w2 : World} (hb2 : Below w.heap.size w w2) : M w1 w2 w2 B f a p o gs ps cs :=
  ⟨(hb2.block _ (lt_blk h.box)).trans h.box, by rw [h.lp]; exact own_below h.rp hb2, by rw [h.lc]; exact own_below h.ro hb2, own_below h.row hb2, fun _ _ h => h, hb.trans (hb2.mono hz), Nat.le_trans hz hb2.size, h.hB⟩

/-- One token more. -/
theorem F.more (h : F w0 B f a p o gs ps cs) {t : Nat} {x : Int} {a' p' o' : Value} (ht : w0.heap.size ≤ t) (hB0 : B ≤ w0.heap.size) {w2 : World} (hb2 : Below w0.heap.size w0 w2) (htk : w2.heap[t]? = some (.cells #[.pointer (par gs x), .int .i64 0] TT (0, 0))) (hx : x = -1 ∨ ∃ j : Nat, x = (j : Int) ∧ j < gs.length) (m : M w1 w2 w B f a' p' o' (gs ++ [t]) (ps ++ [x]) (cs ++ [0])) :
    F w B f a' p' o' (gs ++ [t]) (ps ++ [x]) (cs ++ [0]) := by
  have hlt : ∀ k, k < gs.length → gs.getD k 0 < w0.heap.size := fun k hk => lt_blk (h.tok k hk)
  have gl : ∀ k, k < gs.length → (gs ++ [t]).getD k 0 = gs.getD k 0 := fun k hk => by
    rw [List.getD_eq_getElem?_getD, List.getD_eq_getElem?_getD, List.getElem?_append_left hk]
  have gt : (gs ++ [t]).getD gs.length 0 = t := by simp
  have pl : ∀ k, k < gs.length → (ps ++ [x]).getD k 0 = ps.getD k 0 := fun k hk => by
    rw [List.getD_eq_getElem?_getD, List.getD_eq_getElem?_getD, List.getElem?_append_left (by rw [h.lp]; exact hk)]
  have pt : (ps ++ [x]).getD gs.length 0 = x := by rw [← h.lp]; simp
  have cl : ∀ k, k < gs.length → (cs ++ [(0 : Int)]).getD k 0 = cs.getD k 0 := fun k hk => by
    rw [List.getD_eq_getElem?_getD, List.getD_eq_getElem?_getD, List.getElem?_append_left (by rw [h.lc]; exact hk)]
  have ct : (cs ++ [(0 : Int)]).getD gs.length 0 = 0 := by rw [← h.lc]; simp
  have pg : ∀ y, (y = -1 ∨ ∃ j : Nat, y = (j : Int) ∧ j < gs.length) → par (gs ++ [t]) y = par gs y := fun y hy => by
    rcases hy with rfl | ⟨j, rfl, hj⟩
    · rfl
    · unfold par
      rw [if_neg (by omega), if_neg (by omega), Int.toNat_natCast, gl j hj]
  refine ⟨by simp [h.lp], by simp [h.lc], m.hB, m.box, ?_, ?_, m.row, fun k hk => ?_, ⟨fun k hk => ?_⟩, fun j k hj hk => ?_, fun k hk => ?_⟩
  · have := m.rp; simpa [h.lp] using this
  · have := m.ro; simpa [h.lc] using this
  · simp at hk
    rcases Nat.lt_or_ge k gs.length with hk2 | hk2
    · rw [gl k hk2]; exact h.gB k hk2
    · obtain rfl : k = gs.length := by omega
      rw [gt]; omega
  · simp at hk
    rcases Nat.lt_or_ge k gs.length with hk2 | hk2
    · rw [pl k hk2]; exact h.up.up k hk2
    · obtain rfl : k = gs.length := by omega
      rw [pt]; exact hx
  · simp at hk
    rcases Nat.lt_or_ge k gs.length with hk2 | hk2
    · rw [gl k hk2, gl j (by omega)]; exact h.inc j k hj hk2
    · obtain rfl : k = gs.length := by omega
      rw [gt, gl j hj]; have := hlt j hj; omega
  · simp at hk
    rcases Nat.lt_or_ge k gs.length with hk2 | hk2
    · rw [gl k hk2, pl k hk2, cl k hk2]
      have hy : ps.getD k 0 = -1 ∨ ∃ j : Nat, ps.getD k 0 = (j : Int) ∧ j < gs.length := by
        rcases h.up.up k hk2 with e | ⟨j, e, hj⟩
        · exact .inl e
        · exact .inr ⟨j, e, by omega⟩
      rw [pg _ hy]
      exact m.tk _ _ ((hb2.block _ (hlt k hk2)).trans (h.tok k hk2))
    · obtain rfl : k = gs.length := by omega
      rw [gt, pt, ct, pg x hx]
      exact m.tk _ _ htk

/-- One called off. -/
theorem F.off (h : F w B f a p o gs ps cs) {k u n c : Nat} {code : Int} (hk : k < gs.length) (hw : ∀ j, j ≠ gs.getD k 0 → w'.heap[j]? = w.heap[j]?) (ht : w'.heap[gs.getD k 0]? = some (.cells #[.pointer (par gs (ps.getD k 0)), .int .i64 code] TT (0, 0))) (ho : o = .slice (some ⟨u, 0, none⟩) n c) :
    F (w'.setCell ⟨u, k, none⟩ (.int .i64 code)) B f a p o gs ps (cs.set k code) := by
  have hk' : Kt TT w w' := fun j c t fr hne hh => by
    refine (hw j (fun e => ?_)).trans hh
    subst e
    rw [h.tok k hk] at hh
    injection hh with hh
    injection hh with _ ht2
    exact hne ht2.symm
  have ro' : w'.ownsRow B TE 1 o gs.length (ints cs) := own_kt h.ro hk' (by decide)
  subst ho
  obtain ⟨k2, cap, cur, hv, hg2, hh2, r2⟩ : ∃ g cap cur, (Value.slice (some ⟨u, 0, none⟩) n c) = .slice (some ⟨g, 0, none⟩) gs.length cap ∧ B ≤ g ∧ w'.heap[g]? = some (.cells cur TE (0, 0)) ∧ gs.length ≤ cap ∧ cap ≤ maxLen ∧ cur.size = cap * 1 ∧ cur.toList.take (gs.length * 1) = ints cs := by
    rcases ro'.2 with ⟨hv, _⟩ | hx
    · cases hv
    · exact hx
  injection hv with h1 h2 h3
  injection h1 with h1
  injection h1 with h1
  subst h1 h2 h3
  have hs : Kt TE w' (w'.setCell ⟨u, k, none⟩ (.int .i64 code)) := Kt.set hh2 _
  have cg : ∀ j, j < gs.length → (cs.set k code).getD j 0 = if j = k then code else cs.getD j 0 := fun j hj => by
    rw [List.getD_eq_getElem?_getD, List.getD_eq_getElem?_getD, List.getElem?_set]
    have hkc : k < cs.length := by rw [h.lc]; exact hk
    by_cases e : k = j
    · subst e; simp [hkc]
    · rw [if_neg e, if_neg (fun e2 => e e2.symm)]
  refine ⟨h.lp, by simp [h.lc], h.hB, hs f _ _ _ (by decide) (hk' f _ _ _ (by decide) h.box), own_kt (own_kt h.rp hk' (by decide)) hs (by decide), ?_, own_kt (own_kt h.row hk' (by decide)) hs (by decide), h.gB, h.up, h.inc, fun j hj => ?_⟩
  · have h4 := ro'.stored k (.int .i64 code)
    have e : ints (cs.set k code) = (ints cs).set k (.int .i64 code) := by simp [ints, List.map_set]
    rw [e]
    exact h4.1
  · rw [cg j hj]
    by_cases e : j = k
    · subst e
      rw [if_pos rfl]
      exact hs _ _ _ _ (by decide) ht
    · rw [if_neg e]
      refine hs _ _ _ _ (by decide) ((hw _ (fun e2 => e ?_)).trans (h.tok j hj))
      rcases Nat.lt_trichotomy j k with hl | hl | hl
      · have := h.inc j k hl hk; omega
      · exact hl
      · have := h.inc k j hl hj; omega
end
end Go.Proofs.Yticcobciafbleaa.tokenPlays
