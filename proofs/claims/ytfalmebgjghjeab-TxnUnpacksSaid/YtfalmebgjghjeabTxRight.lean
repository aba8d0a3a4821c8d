/- Which transactions are right. -/
import Derived.Test.YtfalmebgjghjeabSide
import Derived.Test.YtfalmebgjghjeabMsgRows0
import Derived.Test.YtfalmebgjghjeabMsgBox
import Derived.Deep.RegionHeld3
import Derived.Deep.RegionWith
namespace Go.Proofs.Ytfalmebgjghjeab.Msg
open Go Go.RowKit

def mgood (side : Int) (m : M7) : Bool := mright m && (mside m.k m.f == side)
/-- Is a transaction right? -/
def txright (side acc : Int) (ms : List M7) : Bool := decide ((side = 0 ∨ side = 1) ∧ 0 ≤ acc ∧ acc ≤ 4 ∧ ms.length ≤ 8) && ms.all (mgood side)

/-- What the test of a message reads. -/
def TR (w : World) (H : Nat) (x : M7) (side : Int) (W : World) : Prop :=
  (Below w.heap.size w W ∧ w.heap.size < W.heap.size ∧ H < W.heap.size ∧ W.cell? ⟨w.heap.size, 0, none⟩ = some (.int .i64 side)) ∧ W.cell? ⟨H, 0, none⟩ = some (.int .i64 x.k) ∧ W.cell? ⟨H, 1, none⟩ = some (.int .i64 x.c) ∧ W.cell? ⟨H, 2, none⟩ = some (.int .i64 x.f) ∧ W.cell? ⟨H, 3, none⟩ = some (.int .u64 x.s) ∧ W.cell? ⟨H, 4, none⟩ = some (.int .u64 x.t) ∧ W.cell? ⟨H, 5, none⟩ = some (.string x.d) ∧ W.cell? ⟨H, 6, none⟩ = some (.string x.a)
theorem TR.drew {w W : World} {H : Nat} {x : M7} {side : Int} (h : TR w H x side W) : TR w H x side W.drew := ⟨⟨h.1.1.drew, h.1.2⟩, h.2⟩
theorem TR.call {w W W1 : World} {H : Nat} {x : M7} {side : Int} (h : TR w H x side W) (hb : Below W.heap.size W W1) : TR w H x side W1 := by
  obtain ⟨⟨h0, h1, h2, h3⟩, h4⟩ := h
  have hc : ∀ i, W1.cell? ⟨H, i, none⟩ = W.cell? ⟨H, i, none⟩ := fun i => hb.cell (p := ⟨H, i, none⟩) h2
  refine ⟨⟨h0.trans (hb.mono (Nat.le_of_lt h1)), Nat.lt_of_lt_of_le h1 hb.size, Nat.lt_of_lt_of_le h2 hb.size, (hb.cell (p := ⟨w.heap.size, 0, none⟩) h1).trans h3⟩, ?_⟩
  simp only [hc]
  exact h4
end Go.Proofs.Ytfalmebgjghjeab.Msg
