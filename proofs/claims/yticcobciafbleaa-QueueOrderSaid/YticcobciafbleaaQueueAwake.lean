/- The page's example of layer 16, in any world. -/
import Derived.Test.YticcobciafbleaaQueue
namespace Go.Proofs.Yticcobciafbleaa.Queue
open Go.RowKit

set_option maxHeartbeats 1000000 in
theorem awake_any (w : World) : Calls Try.prog 15 #[] w fun e w' => e = .returned (.bool true) ∧ Below w.heap.size w w' := by
  go_enter Try.func15, Try.ntmps15
  go_wp2_with fail
  refine (new_any 1 (by decide) (by decide) _).mono ?_
  rintro e w1 ⟨rfl, q1, b1, z1⟩
  have B1 := Lib.hid b1; clear b1 z1
  go_wp2_with fail
  refine (put_any q1 (by decide) (by decide) 5).mono ?_
  rintro e w2 ⟨rfl, q2, b2, _⟩
  have B2 := Lib.hid (B1.out.trans b2); clear b2 q1
  go_wp2_with fail
  refine (put_full q2 rfl (by decide) 6).mono ?_
  rintro e w3 ⟨rfl, n, rfl⟩
  have q3 : Q (w2.drewN n) w.heap.size w.heap.size 1 [5] := q2
  go_wp2_with fail
  refine (get_any q3).mono ?_
  rintro e w4 ⟨rfl, q4, b4, _⟩
  have B4 := Lib.hid ((below_drewN B2.out n).trans b4); clear b4 q3 q2
  go_wp2
  go_ret
  exact ⟨rfl, B4.out⟩
end Go.Proofs.Yticcobciafbleaa.Queue
