/- 'TraceParts' holds for every input, with no condition: marks that keep the rules do so up to any place, behind one that breaks them it is that one, and why any one is wrong. -/
import Derived.Test.YtfojmjgnndlfnabTrLaw0
namespace Go.Proofs.Ytfojmjgnndlfnab.Tr
open Go Go.RowKit
set_option linter.unusedVariables false

set_option maxHeartbeats 1000000 in
theorem law_few {w : World} {O A : Option Addr} {on ocap n cap : Nat} {ord : Nat → Bool} {f : Nat → Mk} (hF : Calls Try.prog 4 #[.slice O on ocap, .slice A n cap, .int .i64 40] w fun e w' => FewP e n on ∧ Below w.heap.size w w') (hbig : ¬ (n ≤ 40 ∧ on ≤ 20)) : Calls Try.prog 3 #[.slice O on ocap, .slice A n cap] w fun e w' => e = .returned (.bool true) ∧ Below w.heap.size w w' := by
  have HF := Lib.hid hF
  clear hF
  go_enter Try.func3, Try.ntmps3
  go_wp2_with fail
  refine HF.out.mono ?_
  rintro _ w1 ⟨⟨bb, rfl, hbb⟩, b1⟩
  rcases bb with _ | _
  rotate_left
  · exact absurd (hbb rfl) hbig
  clear hbb hbig
  go_wp2_with fail
  refine (awake_any _).mono ?_
  rintro _ w2 ⟨rfl, b2⟩
  have HB := Lib.hid (b1.trans (b2.mono b1.size))
  clear b1 b2 HF
  go_wp2
  go_ret
  exact ⟨rfl, HB.out⟩
end Go.Proofs.Ytfojmjgnndlfnab.Tr
