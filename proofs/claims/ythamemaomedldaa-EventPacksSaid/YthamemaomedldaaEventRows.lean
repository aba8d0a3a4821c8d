/- Rows of events. -/
import Derived.Test.YthamemaomedldaaEvent
namespace Go.Proofs.Ythamemaomedldaa.Ev
open Go Go.RowKit

theorem lt_blk {W : World} {g : Nat} {o : Obj} (h : W.heap[g]? = some o) : g < W.heap.size := (Array.getElem?_eq_some_iff.1 h).1
def evs (ms : List E8) : List Value := ms.flatMap fun m => m.cells.toList

theorem evs_snoc (ms : List E8) (m : E8) : evs (ms ++ [m]) = evs ms ++ m.cells.toList := by simp [evs]

theorem evs_at : ∀ (ms : List E8) (i j : Nat), i < ms.length → j < 8 → (evs ms)[i * 8 + j]? = ((ms.getD i e0).cells)[j]?
  | [], i, j, h, _ => absurd h (by simp)
  | m :: ms, 0, j, _, hj => by
    show (m.cells.toList ++ evs ms)[0 * 8 + j]? = _
    rw [List.getElem?_append_left (by simp [E8.cells]; omega)]
    simp
  | m :: ms, i + 1, j, h, hj => by
    show (m.cells.toList ++ evs ms)[(i + 1) * 8 + j]? = _
    rw [List.getElem?_append_right (by simp [E8.cells]; omega)]
    have := evs_at ms i j (by simpa using h) hj
    rw [show (i + 1) * 8 + j - m.cells.toList.length = i * 8 + j from by simp [E8.cells]; omega, this]
    simp

theorem new_rd {W : World} {b : Nat} {cs : Array Value} {ms : List E8} (h : W.heap[b]? = some (.cells cs 30 (0, 0))) (hc : cs.toList = evs ms) : Rd W (some ⟨b, 0, none⟩) ms.length ms := by
  refine ⟨rfl, fun _ => ⟨b, 0, rfl, lt_blk h, fun i hi j v hv => ?_⟩⟩
  have hj : j < 8 := by
    have := (Array.getElem?_eq_some_iff.1 hv).1
    simpa [E8.cells] using this
  rw [cell_of_row W b _ cs _ (0, 0) h, ← Array.getElem?_toList, hc, Nat.zero_add, evs_at ms i j hi hj, hv]

def hE (h : Int) : E8 := ⟨0, h, 0, 0, 0, 0, ⟨#[]⟩, ⟨#[]⟩⟩

end Go.Proofs.Ythamemaomedldaa.Ev
