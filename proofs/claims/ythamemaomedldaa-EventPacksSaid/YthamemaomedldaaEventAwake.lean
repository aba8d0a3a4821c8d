/- The page's example of event. -/
import Derived.Test.YthamemaomedldaaEventRising
namespace Go.Proofs.Ythamemaomedldaa.eventFinds
open Go Go.RowKit Ev

set_option maxRecDepth 100000 in
set_option maxHeartbeats 2000000 in
theorem awake_any (w : World) : Calls Try.prog 4 #[] w fun e w' => e = .returned (.bool true) ∧ Below w.heap.size w w' := by
  go_enter Try.func4, Try.ntmps4
  go_wp2_with fail
  refine (rising_any _ 3 3 [hE 1, hE 1, hE 3] _ (new_rd (heap_alloc_new w _) rfl) (by decide)).mono ?_
  rintro e w1 ⟨rfl, hb1⟩
  rw [show up [hE 1, hE 1, hE 3] 3 = true from by decide]
  go_wp2_with fail
  refine (rising_any _ 2 2 [hE 2, hE 1] _ (new_rd (heap_alloc_new w1 _) rfl) (by decide)).mono ?_
  rintro e w2 ⟨rfl, hb2⟩
  rw [show up [hE 2, hE 1] 2 = false from by decide]
  go_wp2_with (go_at_call 14; ((refine (word_ack _).mono ?_); rintro e w3 ⟨rfl, rfl⟩))
  go_ret
  have h1 : w.heap.size ≤ w1.heap.size := by have := hb1.size; simp at this; omega
  have hA : Below w.heap.size w w1 := ((Below.refl _ w).alloc (Nat.le_refl _) _).trans (hb1.mono (by simp))
  exact ⟨rfl, hA.trans (((Below.refl _ w1).alloc (Nat.le_refl _) _).trans (hb2.mono (by simp)) |>.mono h1)⟩

end Go.Proofs.Ythamemaomedldaa.eventFinds
