/- gap: Clear. -/
import Derived.Test.YtpkkomifenlkaaaGap1
namespace Go.Proofs.Ytpkkomifenlkaaa.Gp
open Go Go.RowKit

set_option maxRecDepth 20000 in
theorem clear_nil (W : World) : Calls Try.prog 33 #[.pointer none] W fun e w' => e = .returned (.tuple #[]) ∧ w' = W := by
  go_enter Try.func33, Try.ntmps33
  go_wp2
  go_end0
  exact ⟨rfl, rfl⟩
set_option maxRecDepth 20000 in
theorem clear_any (H : Nat) (v : Value) (W : World) (h : W.heap[H]? = some (.cells #[v] THp (0, 0))) : Calls Try.prog 33 #[.pointer (some ⟨H, 0, none⟩)] W fun e w' => e = .returned (.tuple #[]) ∧ w' = W.setCell ⟨H, 0, none⟩ (.slice none 0 0) := by
  have c0 := cell_of_row W H 0 _ _ (0, 0) h
  have f0 : W.frozen? ⟨H, 0, none⟩ = false := by simp [World.frozen?, h]
  clear h
  go_enter Try.func33, Try.ntmps33
  go_wp2
  go_end0
  exact ⟨rfl, rfl⟩
end Go.Proofs.Ytpkkomifenlkaaa.Gp
