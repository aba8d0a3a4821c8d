/- Rows of transactions. -/
import Derived.Test.YtfalmebgjghjeabTx0
import Derived.Test.YtfalmebgjghjeabRowsM
namespace Go.Proofs.Ytfalmebgjghjeab.Msg
open Go Go.RowKit

abbrev TT : Nat := 34
/-- Transactions one behind the other. -/
def tcells (ts : List T4) : List Value := ts.flatMap fun t => t.cells.toList
theorem tcells_snoc (ts : List T4) (t : T4) : tcells (ts ++ [t]) = tcells ts ++ t.cells.toList := by simp [tcells]
theorem tcells_app (xs ys : List T4) : tcells (xs ++ ys) = tcells xs ++ tcells ys := by simp [tcells]
theorem tcells_len (ts : List T4) : (tcells ts).length = ts.length * 4 := by
  induction ts with
  | nil => rfl
  | cons t ts ih =>
    show (t.cells.toList ++ tcells ts).length = _
    rw [List.length_append, ih]
    simp [T4.cells]
    omega
theorem tcells_at : ∀ (ts : List T4) (i j : Nat) (h : i < ts.length), j < 4 → (tcells ts)[i * 4 + j]? = (ts[i].cells)[j]?
  | [], i, j, h, _ => absurd h (by simp)
  | t :: ts, 0, j, _, hj => by
    show (t.cells.toList ++ tcells ts)[0 * 4 + j]? = _
    rw [List.getElem?_append_left (by simp [T4.cells]; omega)]
    simp
  | t :: ts, i + 1, j, h, hj => by
    show (t.cells.toList ++ tcells ts)[(i + 1) * 4 + j]? = _
    rw [List.getElem?_append_right (by simp [T4.cells]; omega)]
    have := tcells_at ts i j (by simpa using h) hj
    rw [show (i + 1) * 4 + j - t.cells.toList.length = i * 4 + j from by simp [T4.cells]; omega, this]
    simp
theorem tcells_one (ts : List T4) : ∀ u ∈ tcells ts, u.oneCell' = true := by
  intro u hu
  simp only [tcells, List.mem_flatMap] at hu
  obtain ⟨m, _, hu⟩ := hu
  simp [T4.cells] at hu
  rcases hu with rfl | rfl | rfl | rfl <;> rfl
theorem cells4_one (t : T4) : ∀ u ∈ t.cells.toList, u.oneCell' = true := by
  intro u hu
  simp [T4.cells] at hu
  rcases hu with rfl | rfl | rfl | rfl <;> rfl
theorem cells4_new (w : World) (t : T4) (T : TypeId) : ∀ j u, (t.cells.toList)[j]? = some u → (w.alloc (.cells t.cells T)).cell? ((⟨w.heap.size, 0, none⟩ : Addr).add j) = some u := by
  intro j u hj
  have : (⟨w.heap.size, 0, none⟩ : Addr).add j = ⟨w.heap.size, j, none⟩ := by unfold Addr.add; by_cases h : j = 0 <;> simp [h]
  rw [this, cell_of_row _ _ _ _ _ (0, 0) (heap_alloc_new w _), ← Array.getElem?_toList]
  exact hj
theorem infoT : (Try.prog.info? 34).map (fun i => (i.zero, i.size, i.bytes)) = some (some (.agg #[.int .i64 0, .int .i64 0, .int .u64 0, .slice none 0 0]), 4, 48) := by kernel_rfl
end Go.Proofs.Ytfalmebgjghjeab.Msg
