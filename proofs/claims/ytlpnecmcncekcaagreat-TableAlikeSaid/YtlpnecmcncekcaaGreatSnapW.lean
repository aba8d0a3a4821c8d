/- Snapshot's loop over the map: the world in it. -/
import Derived.Test.YtlpnecmcncekcaaGreatSnapSort
import Derived.Test.YtlpnecmcncekcaaGreatMapIter
import Derived.Test.YtlpnecmcncekcaaGreatBlocks
import Derived.Deep.AppendLies
namespace Go.Proofs.YtlpnecmcncekcaaGreat.Mk
open Go Go.RowKit

/-- stamps that were handed out -/
abbrev isIn (seen : Array Nat) (x : Ms) : Bool := seen.contains x.2.2
def outE (l : List Ms) (seen : Array Nat) : List En := (l.filter (isIn seen)).map (·.2.1)
theorem filter_push {seen : Array Nat} : ∀ {l : List Ms}, (l.map (·.2.2)).Nodup → ∀ x ∈ l, seen.contains x.2.2 = false → ((l.filter (isIn (seen.push x.2.2))).Perm (x :: l.filter (isIn seen)))
  | [], _, _, h, _ => by cases h
  | y :: l, hn, x, hx, hs => by
    have hn' : y.2.2 ∉ l.map (·.2.2) ∧ (l.map (·.2.2)).Nodup := List.nodup_cons.1 hn
    simp only [List.filter_cons, isIn, contains_push]
    rcases List.mem_cons.1 hx with rfl | hm
    · have hl : l.filter (isIn (seen.push x.2.2)) = l.filter (isIn seen) := by
        apply List.filter_congr
        intro z hz
        have : (z.2.2 == x.2.2) = false := by
          simp only [beq_eq_false_iff_ne]
          exact fun e => hn'.1 (by rw [← e]; exact List.mem_map.2 ⟨z, hz, rfl⟩)
        simp only [isIn, contains_push, this, Bool.or_false]
      rw [beq_self_eq_true, Bool.or_true, if_pos rfl, if_neg (by rw [hs]; decide), hl]
    · have hy : (y.2.2 == x.2.2) = false := by
        simp only [beq_eq_false_iff_ne]
        exact fun e => hn'.1 (by rw [e]; exact List.mem_map.2 ⟨x, hm, rfl⟩)
      rw [hy, Bool.or_false]
      have ih := filter_push hn'.2 x hm hs
      by_cases hc : seen.contains y.2.2 = true
      · rw [if_pos hc, if_pos hc]
        exact (List.Perm.cons y ih).trans (List.Perm.swap x y _)
      · rw [if_neg hc, if_neg hc]
        exact ih
theorem left_toM (l : List Ms) (seen : Array Nat) : (leftOf (l.map toM).toArray seen).toList = (l.filter fun x => !isIn seen x).map toM := by
  unfold leftOf
  rw [Array.toList_filter]
  simp only [List.filter_map]
  rfl
/-- Snapshot's world: l's box in X, the iterator in I; acc was handed out. -/
structure SnapW (W V : World) (S B : Nat) (room : Int) (l : List Ms) (clock X I : Nat) (seen : Array Nat) (v : Value) (acc : List En) : Prop where
  sh : ShIs V S B room l clock 1
  box : V.heap[X]? = some (.cells #[v] TLn (0, 0))
  it : V.heap[I]? = some (.mapIter (some B) clock seen clock)
  row : V.ownsRow (I + 1) TEn 5 v acc.length (ecs acc)
  only : Only2 S B W V
  lo : W.heap.size ≤ X ∧ X < I ∧ S < X ∧ B < X
section
variable {W V V' : World} {S B : Nat} {room : Int} {l : List Ms} {clock X I : Nat} {seen : Array Nat} {v : Value} {acc : List En}
theorem own_keep5 {base n : Nat} {xs : List Value} (h : V.ownsRow base TEn 5 v n xs) (hb : ∀ k, base ≤ k → k < V.heap.size → V'.heap[k]? = V.heap[k]?) : V'.ownsRow base TEn 5 v n xs := by
  refine ⟨h.1, ?_⟩
  rcases h.2 with h2 | ⟨g, cap, cur, hv, hg, hh, r⟩
  · exact Or.inl h2
  · exact Or.inr ⟨g, cap, cur, hv, hg, (hb g hg (Array.getElem?_eq_some_iff.1 hh).1).trans hh, r⟩
theorem SnapW.ltI (h : SnapW W V S B room l clock X I seen v acc) : I < V.heap.size := (Array.getElem?_eq_some_iff.1 h.it).1
theorem SnapW.below (h : SnapW W V S B room l clock X I seen v acc) (hb : Below V.heap.size V V') : SnapW W V' S B room l clock X I seen v acc :=
  ⟨h.sh.below hb, (hb.block _ (Array.getElem?_eq_some_iff.1 h.box).1).trans h.box, (hb.block _ h.ltI).trans h.it, own_keep5 h.row fun k _ hk => hb.block k hk, h.only.trans (Only2.of_below hb), h.lo⟩
/-- the iterator goes on -/
theorem SnapW.step (h : SnapW W V S B room l clock X I seen v acc) (b : Nat) (V1 : World) (h1 : V1 = V ∨ V1 = V.drew) :
    SnapW W { V1 with heap := V1.heap.setIfInBounds I (.mapIter (some B) clock (seen.push b) clock) } S B room l clock X I (seen.push b) v acc := by
  have hI := h.ltI
  have hlo := h.lo
  have hV : V1.heap = V.heap ∧ V1.os = V.os ∧ V1.tape = V.tape ∧ V1.output = V.output := by rcases h1 with rfl | rfl <;> exact ⟨rfl, rfl, rfl, rfl⟩
  have hk : ∀ k, k ≠ I → (V1.heap.setIfInBounds I (.mapIter (some B) clock (seen.push b) clock))[k]? = V.heap[k]? := fun k hk => by
    rw [hV.1]; simp [Ne.symm hk]
  refine ⟨⟨(hk S (by omega)).trans h.sh.box, (hk B (by omega)).trans h.sh.map⟩, (hk X (by omega)).trans h.box, ?_, own_keep5 h.row fun k hb _ => hk k (by omega), ?_, hlo⟩
  · show (V1.heap.setIfInBounds I _)[I]? = _
    rw [hV.1]; simp [hI]
  · refine ⟨hV.2.1.trans h.only.os, hV.2.2.1.trans h.only.tape, hV.2.2.2.trans h.only.output, ?_, fun k hkW hS hB => (hk k (by omega)).trans (h.only.block k hkW hS hB)⟩
    show _ ≤ (V1.heap.setIfInBounds I _).size
    rw [hV.1]; simpa using h.only.size
/-- an entry behind the others -/
theorem SnapW.push (h : SnapW W V S B room l clock X I seen v acc) (e : En) (v' : Value) (w : World) (hown : w.ownsRow (I + 1) TEn 5 v' (acc.length + 1) (ecs acc ++ encE e)) (hg : V.grownBy w v.ownBlock) :
    w.heap[X]? = some (.cells #[v] TLn (0, 0)) ∧ SnapW W (w.setCell ⟨X, 0, none⟩ v') S B room l clock X I seen v' (acc ++ [e]) := by
  have hlo := h.lo
  have hge : ∀ k, k ≤ I → some k ≠ v.ownBlock := fun k hk e1 => by
    rcases h.row.2 with ⟨h2, -⟩ | ⟨g, cap, cur, hv, hgg, hh, r⟩
    · rw [h2] at e1; cases e1
    · rw [hv] at e1
      have : k = g := by injection e1
      omega
  have hI := h.ltI
  have hk : ∀ k, k ≤ I → w.heap[k]? = V.heap[k]? := fun k hk => hg.block k (by omega) (hge k hk)
  have hk2 : ∀ k, k ≤ I → k ≠ X → (w.setCell ⟨X, 0, none⟩ v').heap[k]? = V.heap[k]? := fun k h1 h2 => (Below.heap_setCell _ _ _ _ h2).trans (hk k h1)
  have hX := (hk X (by omega)).trans h.box
  refine ⟨hX, ⟨(hk2 S (by omega) (by omega)).trans h.sh.box, (hk2 B (by omega) (by omega)).trans h.sh.map⟩, (setCell_at v' hX).trans rfl, (hk2 I (Nat.le_refl _) (by omega)).trans h.it, ?_, ?_, hlo⟩
  · have e1 : ecs (acc ++ [e]) = ecs acc ++ encE e := by simp [ecs]
    rw [e1, List.length_append, List.length_singleton]
    exact own_keep5 hown fun k hb _ => Below.heap_setCell _ _ _ _ (show k ≠ X by omega)
  · refine ⟨hg.os.trans h.only.os, hg.tape.trans h.only.tape, hg.output.trans h.only.output, ?_, fun k hkW hS hB => (hk2 k (by omega) (by omega)).trans (h.only.block k hkW hS hB)⟩
    simpa using Nat.le_trans h.only.size hg.size
end
/-- how much is left -/
theorem left_dec (l : List Ms) (seen : Array Nat) {x : Ms} (hx : x ∈ l) (hs : isIn seen x = false) : (l.filter fun y => !isIn (seen.push x.2.2) y).length < (l.filter fun y => !isIn seen y).length := by
  refine filter_lt (fun y : Ms => !isIn seen y) (fun y => !isIn (seen.push x.2.2) y) (fun y hy => ?_) x (by show (!isIn seen x) = true; rw [hs]; rfl) ?_ l hx
  · simp only [isIn, contains_push, Bool.not_eq_true', Bool.or_eq_false_iff] at hy ⊢
    exact hy.1
  · simp only [isIn, contains_push, beq_self_eq_true, Bool.or_true, Bool.not_true]
theorem outE_all (l : List Ms) (seen : Array Nat) (h : (l.filter fun x => !isIn seen x) = []) : outE l seen = ens l := by
  unfold outE ens
  congr 1
  rw [List.filter_eq_self]
  intro x hx
  have := List.filter_eq_nil_iff.1 h x hx
  simpa using this
end Go.Proofs.YtlpnecmcncekcaaGreat.Mk
