/- Are messages short, and few? -/
import Derived.Test.YtjjomlideieofaaMsgRows
namespace Go.Proofs.Ytjjomlideieofaa.Msg
open Go Go.RowKit

def FewPost (len : Nat) (w : World) (e : Ending) (w' : World) : Prop := ∃ b, e = .returned (.bool b) ∧ (b = true → len ≤ 60) ∧ Below w.heap.size w w'

set_option maxHeartbeats 2000000 in
theorem few27_any (A : Option Addr) (len cap : Nat) (ms : List M7) (w : World) (hr : Rd w A len ms) (hl : len ≤ 9223372036854775807) :
    Calls Try.prog 27 #[.slice A len cap] w (FewPost len w) := by
  go_enter Try.func27, Try.ntmps27
  go_wp2
  go_loopw [3] (fun i wr => ∃ k : Nat, i = .int .i64 (k : Int) ∧ k ≤ len ∧ ∃ q, wr = w.drewN q) (fun i _ => len - (intOf i).toNat)
  case atStart => exact ⟨0, rfl, Nat.zero_le _, 0, rfl⟩
  case round =>
    obtain ⟨k, rfl, hk, q, rfl⟩ := hrel
    by_cases hlt : k < len
    · obtain ⟨b, off, rfl, _, hc⟩ := hr.at (Below.refl _ w) (by omega)
      have hck := hc k hlt
      clear hc hr
      generalize ms.getD k m0 = m at hck
      obtain ⟨c0, c1, c2, c3, c4, c5, c6⟩ := hck
      have hi0 : (0 : Int) ≤ (k : Int) := by omega
      have hi1 : (k : Int) < (len : Int) := by omega
      by_cases hd : (200 : Int) < (m.d.size : Int)
      · go_wp2
        go_ret
        exact ⟨false, rfl, (fun h => by cases h), below_drewN (Below.refl _ _) _⟩
      · by_cases ha : (200 : Int) < (m.a.size : Int)
        · go_wp2
          go_ret
          exact ⟨false, rfl, (fun h => by cases h), below_drewN (Below.refl _ _) _⟩
        · go_wp2
          exact ⟨⟨k + 1, by go_num, by omega, _, rfl⟩, by simp [intOf]; omega⟩
    · obtain rfl : k = len := by omega
      go_wp2
      go_ret
      exact ⟨_, rfl, fun h => by simp at h; omega, below_drewN (Below.refl _ _) _⟩

end Go.Proofs.Ytjjomlideieofaa.Msg
