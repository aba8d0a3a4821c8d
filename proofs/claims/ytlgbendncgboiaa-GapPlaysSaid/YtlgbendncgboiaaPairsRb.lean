/- A row of pairs that came in. -/
import Derived.Test.YtlgbendncgboiaaCommon
namespace Go.Proofs.Ytlgbendncgboiaa.Gp
open Go Go.RowKit
def Pb (q : Int × Int) : Prop := (0 ≤ q.1 ∧ q.1 ≤ 18446744073709551615) ∧ 0 ≤ q.2 ∧ q.2 ≤ 18446744073709551615
def RpU (w : World) (A : Option Addr) (len : Nat) (zs : List (Int × Int)) : Prop :=
  0 < len → ∃ b off, A = some ⟨b, off, none⟩ ∧ b < w.heap.size ∧ ∀ i, i < len → w.cell? ⟨b, off + i * 2, none⟩ = some (.int .u64 (zs.getD i (0, 0)).1) ∧ w.cell? ⟨b, off + i * 2 + 1, none⟩ = some (.int .u64 (zs.getD i (0, 0)).2)
end Go.Proofs.Ytlgbendncgboiaa.Gp
