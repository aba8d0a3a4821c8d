/- A pool of transactions: Add. -/
import Derived.Test.YtjjomlideieofaaPool
namespace Go.Proofs.Ytjjomlideieofaa.Msg
open Go Go.RowKit

theorem set_pool {W : World} {g i : Nat} {cs : Array Value} {v : Value} (h : W.heap[g]? = some (.cells cs TP (0, 0))) : (W.setCell ⟨g, i, none⟩ v).heap[g]? = some (.cells (cs.setIfInBounds i v) TP (0, 0)) := by
  simp [World.setCell, Array.getElem?_modify, h]
theorem km_pool {W W1 : World} {g i : Nat} {cs : Array Value} {v : Value} (h : W1.heap[g]? = some (.cells cs TP (0, 0))) (k : KM W W1) : KM W (W1.setCell ⟨g, i, none⟩ v) := k.trans (KM.set h (by decide) v)

/-- All that stood stands as it was, but block g. -/
def Only (g : Nat) (w w' : World) : Prop := w.heap.size ≤ w'.heap.size ∧ ∀ j, j ≠ g → j < w.heap.size → w'.heap[j]? = w.heap[j]?
section
variable {w w' w2 : World} {g : Nat}
theorem Only.refl (g : Nat) (w : World) : Only g w w := ⟨Nat.le_refl _, fun _ _ _ => rfl⟩
theorem Only.trans (h : Only g w w') (k : Only g w' w2) : Only g w w2 := ⟨Nat.le_trans h.1 k.1, fun j a b => (k.2 j a (Nat.lt_of_lt_of_le b h.1)).trans (h.2 j a b)⟩
theorem Only.below (h : Below w.heap.size w w') : Only g w w' := ⟨h.size, fun j _ b => h.block j b⟩
theorem Only.set (h : Only g w w') {i : Nat} (v : Value) : Only g w (w'.setCell ⟨g, i, none⟩ v) := ⟨by simpa [World.setCell] using h.1, fun j a b => (Below.heap_setCell _ _ _ _ (by exact a)).trans (h.2 j a b)⟩
end

theorem Pl.put {W : World} {base g first K : Nat} {most : Int} {ts : List T4} {t : T4} (h : Pl W base g first most ts) (hl : ts.length < 32) (hK : K = (first + ts.length) % 32 * 4) (hr : W.ownsRow base TM 7 (.slice t.A t.len t.cap) t.len (mevs t.ms)) :
    Pl (((((W.setCell ⟨g, K, none⟩ (.int .i64 t.side)).setCell ⟨g, K + 1, none⟩ (.int .i64 t.acc)).setCell ⟨g, K + 2, none⟩ (.int .u64 t.n)).setCell ⟨g, K + 3, none⟩ (.slice t.A t.len t.cap)).setCell ⟨g, 129, none⟩ (.int .i64 ((ts.length + 1 : Nat) : Int))) base g first most (ts ++ [t]) := by
  obtain ⟨cs, hb, hsz, h1, h2, h3, h4, h5⟩ := h.blk
  have b1 := set_pool (i := K) (v := .int .i64 t.side) hb
  have b2 := set_pool (i := K + 1) (v := .int .i64 t.acc) b1
  have b3 := set_pool (i := K + 2) (v := .int .u64 t.n) b2
  have b4 := set_pool (i := K + 3) (v := .slice t.A t.len t.cap) b3
  have b5 := set_pool (i := 129) (v := .int .i64 ((ts.length + 1 : Nat) : Int)) b4
  have k5 := km_pool (i := 129) (v := .int .i64 ((ts.length + 1 : Nat) : Int)) b4 (km_pool (i := K + 3) (v := .slice t.A t.len t.cap) b3 (km_pool (i := K + 2) (v := .int .u64 t.n) b2 (km_pool (i := K + 1) (v := .int .i64 t.acc) b1 (km_pool (i := K) (v := .int .i64 t.side) hb (KM.refl W)))))
  have hlt := h.lt
  have hK2 : K + 3 < 128 := by omega
  refine ⟨h.hg, h.lt, by simp; omega, ⟨_, b5, by simpa using hsz, ?_, ?_, ?_, ?_, ?_⟩, fun x hx => ?_⟩
  · simp only [Array.getElem?_setIfInBounds]
    rw [if_neg (by omega), if_neg (by omega), if_neg (by omega), if_neg (by omega), if_neg (by omega)]
    exact h1
  · simp only [Array.getElem?_setIfInBounds, Array.size_setIfInBounds]
    rw [if_pos trivial, if_pos (by omega), List.length_append, List.length_singleton]
  · simp only [Array.getElem?_setIfInBounds]
    rw [if_neg (by omega), if_neg (by omega), if_neg (by omega), if_neg (by omega), if_neg (by omega)]
    exact h3
  · intro i hi j hj
    simp at hi
    simp only [Array.getElem?_setIfInBounds, Array.size_setIfInBounds]
    by_cases hil : i < ts.length
    · rw [if_neg (by omega), if_neg (by omega), if_neg (by omega), if_neg (by omega), if_neg (by omega), List.getElem_append_left hil]
      exact h4 i hil j hj
    · obtain rfl : i = ts.length := by omega
      rw [List.getElem_append_right (Nat.le_refl _)]
      simp only [Nat.sub_self, List.getElem_cons_zero]
      rw [← hK, if_neg (by omega)]
      rcases (by omega : j = 0 ∨ j = 1 ∨ j = 2 ∨ j = 3) with rfl | rfl | rfl | rfl
      · rw [if_neg (by omega), if_neg (by omega), if_neg (by omega), if_pos (by omega), if_pos (by omega)]; rfl
      · rw [if_neg (by omega), if_neg (by omega), if_pos (by omega), if_pos (by omega)]; rfl
      · rw [if_neg (by omega), if_pos (by omega), if_pos (by omega)]; rfl
      · rw [if_pos (by omega), if_pos (by omega)]; rfl
  · intro i hi
    have : i < (((((cs.setIfInBounds K (.int .i64 t.side)).setIfInBounds (K + 1) (.int .i64 t.acc)).setIfInBounds (K + 2) (.int .u64 t.n)).setIfInBounds (K + 3) (.slice t.A t.len t.cap)).setIfInBounds 129 (.int .i64 ((ts.length + 1 : Nat) : Int))).size := by simp; omega
    exact ⟨_, Array.getElem?_eq_getElem this⟩
  · rcases List.mem_append.1 hx with hx | hx
    · exact own_km (h.rows x hx) k5
    · simp at hx
      subst hx
      exact own_km hr k5
end Go.Proofs.Ytjjomlideieofaa.Msg
