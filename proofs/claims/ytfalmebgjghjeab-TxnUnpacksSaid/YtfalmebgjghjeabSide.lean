/- Where a message goes. -/
import Derived.Test.YtfalmebgjghjeabRight
import Derived.Below
namespace Go.Proofs.Ytfalmebgjghjeab.Msg
open Go Go.RowKit

/-- Where a message goes. -/
def mside (k f : Int) : Int := if f = 0 ∨ f = 1 then (if k = 2 then 1 - f else if k = 1 ∨ k = 3 ∨ k = 4 then f else -1) else -1

set_option maxHeartbeats 4000000 in
theorem side_any (k c f s t : Int) (d a : ByteArray) (w : World) :
    Calls Try.prog 32 #[.agg #[.int .i64 k, .int .i64 c, .int .i64 f, .int .u64 s, .int .u64 t, .string d, .string a]] w fun e w' => e = .returned (.int .i64 (mside k f)) ∧ Below w.heap.size w w' := by
  have hB : ∀ o, Below w.heap.size w (w.alloc o) := fun o => (Below.refl _ _).alloc (Nat.le_refl _) _
  by_cases hf : f = 0 ∨ f = 1
  · rcases hf with rfl | rfl
    all_goals
      by_cases h2 : k = 2
      · subst h2
        go_enter Try.func32, Try.ntmps32
        go_wp2
        go_ret
        exact ⟨rfl, hB _⟩
      · by_cases h1 : k = 1
        · subst h1
          clear h2
          go_enter Try.func32, Try.ntmps32
          go_wp2
          go_ret
          exact ⟨rfl, hB _⟩
        · by_cases h3 : k = 3
          · subst h3
            clear h2 h1
            go_enter Try.func32, Try.ntmps32
            go_wp2
            go_ret
            exact ⟨rfl, hB _⟩
          · by_cases h4 : k = 4
            · subst h4
              clear h2 h1 h3
              go_enter Try.func32, Try.ntmps32
              go_wp2
              go_ret
              exact ⟨rfl, hB _⟩
            · have hm : mside k 0 = -1 ∧ mside k 1 = -1 := by simp [mside, h1, h2, h3, h4]
              have HM := Lib.hid hm
              have q1 : (k == 1) = false := by simpa using h1
              have q2 : (k == 2) = false := by simpa using h2
              have q3 : (k == 3) = false := by simpa using h3
              have q4 : (k == 4) = false := by simpa using h4
              clear hm h1 h2 h3 h4
              go_enter Try.func32, Try.ntmps32
              go_wp2
              go_ret
              exact ⟨by first | (rw [HM.out.1]; rfl) | (rw [HM.out.2]; rfl), hB _⟩
  · have HM := Lib.hid (show mside k f = -1 by simp [mside, hf])
    have q0 : (f != 0) = true := by simp; omega
    have q1 : (f != 1) = true := by simp; omega
    clear hf
    go_enter Try.func32, Try.ntmps32
    go_wp2
    go_ret
    exact ⟨by rw [HM.out]; rfl, hB _⟩

end Go.Proofs.Ytfalmebgjghjeab.Msg
