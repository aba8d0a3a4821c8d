/- The law's few of events. -/
import Derived.Test.YthamemaomedldaaEvRight
namespace Go.Proofs.Ythamemaomedldaa.Ev
open Go Go.RowKit Num Texts

def efew (m : E8) : Bool := decide (m.d.size ≤ 200) && decide (m.a.size ≤ 200)
theorem few_any (m : E8) (w : World) : Calls Try.prog 5 #[.agg #[.int .i64 m.k, .int .u64 m.h, .int .i64 m.c, .int .i64 m.f, .int .u64 m.s, .int .u64 m.t, .string m.d, .string m.a]] w fun e w' => e = .returned (.bool (efew m)) ∧ Below w.heap.size w w' := by
  have hB : ∀ o, Below w.heap.size w (w.alloc o) := fun o => (Below.refl _ _).alloc (Nat.le_refl _) _
  by_cases h1 : m.d.size ≤ 200
  · have i1 : (m.d.size : Int) ≤ 200 := by omega
    by_cases h2 : m.a.size ≤ 200
    · have i2 : (m.a.size : Int) ≤ 200 := by omega
      have HF := Lib.hid (show efew m = true by unfold efew; rw [decide_eq_true h1, decide_eq_true h2]; rfl)
      clear h1 h2
      go_enter Try.func5, Try.ntmps5
      go_wp2
      go_ret
      exact ⟨by rw [HF.out]; rfl, hB _⟩
    · have i2 : decide ((m.a.size : Int) ≤ 200) = false := decide_eq_false (by omega)
      have HF := Lib.hid (show efew m = false by unfold efew; rw [decide_eq_false h2]; simp)
      clear h1 h2
      go_enter Try.func5, Try.ntmps5
      go_wp2
      go_ret
      exact ⟨by rw [HF.out, ← i2]; rfl, hB _⟩
  · have i1 : ¬ (m.d.size : Int) ≤ 200 := by omega
    have HF := Lib.hid (show efew m = false by unfold efew; rw [decide_eq_false h1]; simp)
    clear h1
    go_enter Try.func5, Try.ntmps5
    go_wp2
    go_ret
    exact ⟨by rw [HF.out]; rfl, hB _⟩
end Go.Proofs.Ythamemaomedldaa.Ev
