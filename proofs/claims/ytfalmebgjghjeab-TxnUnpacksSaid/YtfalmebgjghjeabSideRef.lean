/- The page's Side of a message. -/
import Derived.Test.YtfalmebgjghjeabSide
namespace Go.Proofs.Ytfalmebgjghjeab.Msg
open Go Go.RowKit

set_option maxHeartbeats 2000000 in
theorem rside_any (k c f s t : Int) (d a : ByteArray) (w : World) :
    Calls Try.prog 45 #[.agg #[.int .i64 k, .int .i64 c, .int .i64 f, .int .u64 s, .int .u64 t, .string d, .string a]] w fun e w' => e = .returned (.int .i64 (mside k f)) ∧ Below w.heap.size w w' := by
  have hB : ∀ o, Below w.heap.size w (w.alloc o) := fun o => (Below.refl _ _).alloc (Nat.le_refl _) _
  by_cases h1 : k < 1
  · have HM := Lib.hid (show mside k f = -1 by unfold mside; split <;> (try rfl); rw [if_neg (by omega), if_neg (by omega)])
    go_enter Try.func45, Try.ntmps45
    go_wp2
    go_ret
    exact ⟨by rw [HM.out]; rfl, hB _⟩
  · by_cases h4 : 4 < k
    · have HM := Lib.hid (show mside k f = -1 by unfold mside; split <;> (try rfl); rw [if_neg (by omega), if_neg (by omega)])
      go_enter Try.func45, Try.ntmps45
      go_wp2
      go_ret
      exact ⟨by rw [HM.out]; rfl, hB _⟩
    · by_cases hf0 : f < 0
      · have HM := Lib.hid (show mside k f = -1 by unfold mside; rw [if_neg (by omega)])
        go_enter Try.func45, Try.ntmps45
        go_wp2
        go_ret
        exact ⟨by rw [HM.out]; rfl, hB _⟩
      · by_cases hf1 : 1 < f
        · have HM := Lib.hid (show mside k f = -1 by unfold mside; rw [if_neg (by omega)])
          go_enter Try.func45, Try.ntmps45
          go_wp2
          go_ret
          exact ⟨by rw [HM.out]; rfl, hB _⟩
        · by_cases h2 : k = 2
          · subst h2
            have HM := Lib.hid (show mside 2 f = 1 - f by unfold mside; rw [if_pos (by omega), if_pos rfl])
            have hw : IntKind.i64.wrap (1 - f) = 1 - f := by rw [IntKind.wrap_i64]; omega
            clear h1 h4
            go_enter Try.func45, Try.ntmps45
            go_wp2
            go_ret
            exact ⟨by rw [HM.out]; rfl, hB _⟩
          · have HM := Lib.hid (show mside k f = f by unfold mside; rw [if_pos (by omega), if_neg h2, if_pos (by omega)])
            have q2 : (k == 2) = false := by simpa using h2
            go_enter Try.func45, Try.ntmps45
            go_wp2
            go_ret
            exact ⟨by rw [HM.out]; rfl, hB _⟩

end Go.Proofs.Ytfalmebgjghjeab.Msg
