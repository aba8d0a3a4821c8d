/- Small things about blocks. -/
import Derived.Test.YtlpnecmcncekcaaGreatShardOps
namespace Go.Proofs.YtlpnecmcncekcaaGreat.Mk
open Go Go.RowKit Go.MuLone

theorem heap_two (W : World) (o p : Obj) : ((W.alloc o).alloc p).heap[W.heap.size]? = some o ∧ ((W.alloc o).alloc p).heap[W.heap.size + 1]? = some p :=
  ⟨(Below.heap_alloc _ _ _ (by simp)).trans (heap_alloc_new W o), heap_alloc_new2 (W.alloc o) p _ (by simp)⟩
theorem below_two (W : World) (o p : Obj) : Below W.heap.size W ((W.alloc o).alloc p) := ((Below.refl _ _).alloc (Nat.le_refl _) o).alloc (by simp) p
theorem setCell_at {V : World} {b i : Nat} {t : TypeId} {q : Nat × Nat} {cs : Array Value} (v : Value) (h : V.heap[b]? = some (.cells cs t q)) : (V.setCell ⟨b, i, none⟩ v).heap[b]? = some (.cells (cs.setIfInBounds i v) t q) := by
  simp [World.setCell, Array.getElem?_modify, h]
theorem row_set5 {V : World} {b : Nat} {t : TypeId} {q : Nat × Nat} {cs : Array Value} (v0 v1 v2 v3 v4 : Value) (hs : cs.size = 5) (h : V.heap[b]? = some (.cells cs t q)) :
    (((((V.setCell ⟨b, 0, none⟩ (v0)).setCell ⟨b, 1, none⟩ (v1)).setCell ⟨b, 2, none⟩ (v2)).setCell ⟨b, 3, none⟩ (v3)).setCell ⟨b, 4, none⟩ (v4)).heap[b]? = some (.cells #[v0, v1, v2, v3, v4] t q) ∧ (∀ k, k ≠ b → (((((V.setCell ⟨b, 0, none⟩ (v0)).setCell ⟨b, 1, none⟩ (v1)).setCell ⟨b, 2, none⟩ (v2)).setCell ⟨b, 3, none⟩ (v3)).setCell ⟨b, 4, none⟩ (v4)).heap[k]? = V.heap[k]?) ∧ (∀ B a, Below B a V → B ≤ b → Below B a (((((V.setCell ⟨b, 0, none⟩ (v0)).setCell ⟨b, 1, none⟩ (v1)).setCell ⟨b, 2, none⟩ (v2)).setCell ⟨b, 3, none⟩ (v3)).setCell ⟨b, 4, none⟩ (v4))) := by
  refine ⟨?_, fun k hk => ?_, fun B a hb hB => ?_⟩
  · refine (setCell_at _ (setCell_at _ (setCell_at _ (setCell_at _ (setCell_at _ h))))).trans ?_
    obtain ⟨l⟩ := cs
    match l, hs with
    | [a0, a1, a2, a3, a4], _ => rfl
  · simp only [Below.heap_setCell _ _ _ _ (show k ≠ (⟨b, 0, none⟩ : Addr).block from hk), Below.heap_setCell _ (⟨b, 1, none⟩ : Addr) _ _ hk, Below.heap_setCell _ (⟨b, 2, none⟩ : Addr) _ _ hk, Below.heap_setCell _ (⟨b, 3, none⟩ : Addr) _ _ hk, Below.heap_setCell _ (⟨b, 4, none⟩ : Addr) _ _ hk]
  · exact ((((hb.setCell hB _).setCell hB _).setCell hB _).setCell hB _).setCell hB _
theorem row_set4 {V : World} {b : Nat} {t : TypeId} {q : Nat × Nat} {cs : Array Value} (v0 v1 v2 v3 : Value) (hs : cs.size = 4) (h : V.heap[b]? = some (.cells cs t q)) :
    ((((V.setCell ⟨b, 0, none⟩ (v0)).setCell ⟨b, 1, none⟩ (v1)).setCell ⟨b, 2, none⟩ (v2)).setCell ⟨b, 3, none⟩ (v3)).heap[b]? = some (.cells #[v0, v1, v2, v3] t q) ∧ (∀ k, k ≠ b → ((((V.setCell ⟨b, 0, none⟩ (v0)).setCell ⟨b, 1, none⟩ (v1)).setCell ⟨b, 2, none⟩ (v2)).setCell ⟨b, 3, none⟩ (v3)).heap[k]? = V.heap[k]?) ∧ (∀ B a, Below B a V → B ≤ b → Below B a ((((V.setCell ⟨b, 0, none⟩ (v0)).setCell ⟨b, 1, none⟩ (v1)).setCell ⟨b, 2, none⟩ (v2)).setCell ⟨b, 3, none⟩ (v3))) := by
  refine ⟨?_, fun k hk => ?_, fun B a hb hB => ?_⟩
  · refine (setCell_at _ (setCell_at _ (setCell_at _ (setCell_at _ h)))).trans ?_
    obtain ⟨l⟩ := cs
    match l, hs with
    | [a0, a1, a2, a3], _ => rfl
  · simp only [Below.heap_setCell _ _ _ _ (show k ≠ (⟨b, 0, none⟩ : Addr).block from hk), Below.heap_setCell _ (⟨b, 1, none⟩ : Addr) _ _ hk, Below.heap_setCell _ (⟨b, 2, none⟩ : Addr) _ _ hk, Below.heap_setCell _ (⟨b, 3, none⟩ : Addr) _ _ hk]
  · exact (((hb.setCell hB _).setCell hB _).setCell hB _).setCell hB _
end Go.Proofs.YtlpnecmcncekcaaGreat.Mk
