/- gap: Clear. -/
import Derived.Test.YtpkkomifenlkaaaGreatGap1
namespace Go.Proofs.YtpkkomifenlkaaaGreat.Gp
open Go Go.RowKit

set_option maxRecDepth 20000 in
theorem clear_nil (W : World) : Calls Tryz.prog 50 #[.pointer none] W fun e w' => e = .returned (.tuple #[]) ∧ w' = W := by
  go_enter Tryz.func50, Tryz.ntmps50
  go_wp2
  go_end0
  exact ⟨rfl, rfl⟩
set_option maxRecDepth 20000 in
theorem clear_any (H : Nat) (v : Value) (W : World) (h : W.heap[H]? = some (.cells #[v] THp (0, 0))) : Calls Tryz.prog 50 #[.pointer (some ⟨H, 0, none⟩)] W fun e w' => e = .returned (.tuple #[]) ∧ w' = W.setCell ⟨H, 0, none⟩ (.slice none 0 0) := by
  have c0 := cell_of_row W H 0 _ _ (0, 0) h
  have f0 : W.frozen? ⟨H, 0, none⟩ = false := by simp [World.frozen?, h]
  clear h
  go_enter Tryz.func50, Tryz.ntmps50
  go_wp2
  go_end0
  exact ⟨rfl, rfl⟩
end Go.Proofs.YtpkkomifenlkaaaGreat.Gp
