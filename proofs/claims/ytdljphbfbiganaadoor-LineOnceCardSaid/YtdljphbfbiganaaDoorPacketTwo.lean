/- Two packets as arguments: their boxes. -/
import Derived.Test.YtdljphbfbiganaaDoorPacketAwake
namespace Go.Proofs.YtdljphbfbiganaaDoor.packetApart
open Go.RowKit Num Texts Packet

/-- Both packets' boxes. -/
def Two (w : World) (p q : P5) (W : World) : Prop :=
  w.heap.size + 1 < W.heap.size ∧ Below w.heap.size w W ∧ W.heap[w.heap.size]? = some (.cells p.cells 33 (0, 0)) ∧ W.heap[w.heap.size + 1]? = some (.cells q.cells 33 (0, 0))
section
variable {w W w1 : World} {p q : P5}
theorem Two.call (h : Two w p q W) (hb : Below W.heap.size W w1) : Two w p q w1 :=
  ⟨Nat.lt_of_lt_of_le h.1 hb.size, h.2.1.trans (hb.mono (by have := h.1; omega)), (hb.block _ (by have := h.1; omega)).trans h.2.2.1, (hb.block _ h.1).trans h.2.2.2⟩
theorem Two.new (w : World) (p q : P5) : Two w p q ((w.alloc (.cells p.cells 33)).alloc (.cells q.cells 33)) := by
  refine ⟨by simp, ((Below.refl _ _).alloc (Nat.le_refl _) _).alloc (by simp) _, ?_, ?_⟩
  · rw [Below.heap_alloc _ _ _ (by simp)]
    exact heap_alloc_new w _
  · have := heap_alloc_new (w.alloc (.cells p.cells 33)) (.cells q.cells 33)
    simpa using this
theorem Two.facts (h : Two w p q W) : W.cell? ⟨w.heap.size, 0, none⟩ = some (.int .i64 p.c) ∧ W.cell? ⟨w.heap.size, 1, none⟩ = some (.int .i64 p.f) ∧ W.cell? ⟨w.heap.size, 2, none⟩ = some (.int .u64 p.s) ∧ W.cell? ⟨w.heap.size, 3, none⟩ = some (.int .u64 p.t) ∧ W.cell? ⟨w.heap.size, 4, none⟩ = some (.string p.d) ∧
    W.cell? ⟨w.heap.size + 1, 0, none⟩ = some (.int .i64 q.c) ∧ W.cell? ⟨w.heap.size + 1, 1, none⟩ = some (.int .i64 q.f) ∧ W.cell? ⟨w.heap.size + 1, 2, none⟩ = some (.int .u64 q.s) ∧ W.cell? ⟨w.heap.size + 1, 3, none⟩ = some (.int .u64 q.t) ∧ W.cell? ⟨w.heap.size + 1, 4, none⟩ = some (.string q.d) :=
  ⟨cell_of_row W _ 0 _ _ (0, 0) h.2.2.1, cell_of_row W _ 1 _ _ (0, 0) h.2.2.1, cell_of_row W _ 2 _ _ (0, 0) h.2.2.1, cell_of_row W _ 3 _ _ (0, 0) h.2.2.1, cell_of_row W _ 4 _ _ (0, 0) h.2.2.1,
   cell_of_row W _ 0 _ _ (0, 0) h.2.2.2, cell_of_row W _ 1 _ _ (0, 0) h.2.2.2, cell_of_row W _ 2 _ _ (0, 0) h.2.2.2, cell_of_row W _ 3 _ _ (0, 0) h.2.2.2, cell_of_row W _ 4 _ _ (0, 0) h.2.2.2⟩
end

def arg (p : P5) : Value := .agg #[.int .i64 p.c, .int .i64 p.f, .int .u64 p.s, .int .u64 p.t, .string p.d]

end Go.Proofs.YtdljphbfbiganaaDoor.packetApart
