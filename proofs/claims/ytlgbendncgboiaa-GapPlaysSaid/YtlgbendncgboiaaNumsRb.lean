/- A row of numbers that came in. -/
import Derived.Test.YtlgbendncgboiaaCommon
namespace Go.Proofs.Ytlgbendncgboiaa.Gp
open Go Go.RowKit
/-- a row of numbers that came in -/
def RbK (k : IntKind) (w : World) (A : Option Addr) (len : Nat) (zs : List Int) : Prop := 0 < len → ∃ b off, A = some ⟨b, off, none⟩ ∧ b < w.heap.size ∧ ∀ i, i < len → w.cell? ⟨b, off + i, none⟩ = some (.int k (zs.getD i 0))
end Go.Proofs.Ytlgbendncgboiaa.Gp
