/- Which packets are right. -/
import Derived.Test.YtnjcenbmdcogpaaGreatDoorCommon
import Derived.Deep.RegionHeld3
namespace Go.Proofs.YtnjcenbmdcogpaaGreatDoor.Pk
open Go Go.RowKit

def pright (c f : Int) (d : ByteArray) : Bool := decide (0 ≤ c ∧ c < 4 ∧ (f = 0 ∨ f = 1) ∧ d.size ≤ 64)
set_option maxHeartbeats 1000000 in
theorem pright_any (c f s t : Int) (d : ByteArray) (w : World) :
    Calls Tryz.prog 34 #[.agg #[.int .i64 c, .int .i64 f, .int .u64 s, .int .u64 t, .string d]] w fun e w' => e = .returned (.bool (pright c f d)) ∧ Below w.heap.size w w' := by
  have hB : ∀ o, Below w.heap.size w (w.alloc o) := fun o => (Below.refl _ _).alloc (Nat.le_refl _) _
  by_cases h : 0 ≤ c ∧ c < 4 ∧ (f = 0 ∨ f = 1) ∧ d.size ≤ 64
  · have hp := Lib.hid (show pright c f d = true from decide_eq_true h)
    obtain ⟨h0, h1, h2, h3⟩ := h
    have h3 : (d.size : Int) ≤ 64 := by omega
    rcases h2 with rfl | rfl
    · go_enter Tryz.func34, Tryz.ntmps34
      go_wp2
      go_ret
      exact ⟨by rw [hp.out]; rfl, hB _⟩
    · go_enter Tryz.func34, Tryz.ntmps34
      go_wp2
      go_ret
      exact ⟨by rw [hp.out]; rfl, hB _⟩
  · have hp := Lib.hid (show pright c f d = false from decide_eq_false h)
    by_cases h0 : 0 ≤ c
    · by_cases h1 : c < 4
      · by_cases h2 : f = 0
        · subst h2
          have h4 : (64 : Int) < (d.size : Int) := by omega
          have h5 : ¬ (d.size : Int) ≤ 64 := by omega
          clear h
          go_enter Tryz.func34, Tryz.ntmps34
          go_wp2
          go_ret
          exact ⟨by rw [hp.out]; rfl, hB _⟩
        · by_cases h3 : f = 1
          · subst h3
            have h4 : (64 : Int) < (d.size : Int) := by omega
            have h5 : ¬ (d.size : Int) ≤ 64 := by omega
            clear h
            go_enter Tryz.func34, Tryz.ntmps34
            go_wp2
            go_ret
            exact ⟨by rw [hp.out]; rfl, hB _⟩
          · have h2b : (f == 0) = false := by simpa using h2
            have h3b : (f == 1) = false := by simpa using h3
            clear h h2 h3
            go_enter Tryz.func34, Tryz.ntmps34
            go_wp2
            go_ret
            exact ⟨by rw [hp.out]; rfl, hB _⟩
      · clear h
        have h1' : ¬ c < 4 := h1
        go_enter Tryz.func34, Tryz.ntmps34
        go_wp2
        go_ret
        exact ⟨by rw [hp.out]; rfl, hB _⟩
    · clear h
      go_enter Tryz.func34, Tryz.ntmps34
      go_wp2
      go_ret
      exact ⟨by rw [hp.out]; rfl, hB _⟩
end Go.Proofs.YtnjcenbmdcogpaaGreatDoor.Pk
