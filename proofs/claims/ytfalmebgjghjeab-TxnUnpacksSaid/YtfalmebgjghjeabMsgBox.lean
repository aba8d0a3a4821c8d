/- A message's box. -/
import Derived.Test.YtfalmebgjghjeabMsg0
namespace Go.Proofs.Ytfalmebgjghjeab.Msg
open Go Go.RowKit

/-- A message's box. -/
def BoxM (W : World) (H : Nat) (x : M7) : Prop := W.heap[H]? = some (.cells x.cells 50 (0, 0))
theorem BoxM.cells {W : World} {H : Nat} {x : M7} (h : BoxM W H x) : W.cell? ⟨H, 0, none⟩ = some (.int .i64 x.k) ∧ W.cell? ⟨H, 1, none⟩ = some (.int .i64 x.c) ∧ W.cell? ⟨H, 2, none⟩ = some (.int .i64 x.f) ∧ W.cell? ⟨H, 3, none⟩ = some (.int .u64 x.s) ∧ W.cell? ⟨H, 4, none⟩ = some (.int .u64 x.t) ∧ W.cell? ⟨H, 5, none⟩ = some (.string x.d) ∧ W.cell? ⟨H, 6, none⟩ = some (.string x.a) :=
  ⟨cell_of_row _ _ 0 _ _ _ h, cell_of_row _ _ 1 _ _ _ h, cell_of_row _ _ 2 _ _ _ h, cell_of_row _ _ 3 _ _ _ h, cell_of_row _ _ 4 _ _ _ h, cell_of_row _ _ 5 _ _ _ h, cell_of_row _ _ 6 _ _ _ h⟩

theorem lt_blk {W : World} {g : Nat} {o : Obj} (h : W.heap[g]? = some o) : g < W.heap.size := (Array.getElem?_eq_some_iff.1 h).1
end Go.Proofs.Ytfalmebgjghjeab.Msg
