/- A kind's word: event.Word, and the page's. -/
import Derived.Test.YtpakefgbjncdiabEventRows
import Derived.Below
namespace Go.Proofs.Ytpakefgbjncdiab.Ev
open Go Go.RowKit

def wordE (k : Int) : ByteArray := if k = 1 then ⟨#[115, 101, 110, 116]⟩ else if k = 2 then ⟨#[114, 101, 99, 101, 105, 118, 101, 100]⟩ else if k = 3 then ⟨#[97, 99, 107, 101, 100]⟩ else if k = 4 then ⟨#[101, 120, 112, 105, 114, 101, 100]⟩ else if k = 5 then ⟨#[99, 108, 111, 115, 101, 100]⟩ else ⟨#[]⟩
theorem word_any (k : Int) (w : World) : Calls Try.prog 9 #[.int .i64 k] w fun e w' => e = .returned (.string (wordE k)) ∧ w' = w := by
  by_cases h : 1 ≤ k ∧ k ≤ 5
  · rcases (by omega : k = 1 ∨ k = 2 ∨ k = 3 ∨ k = 4 ∨ k = 5) with rfl | rfl | rfl | rfl | rfl
    all_goals
      go_enter Try.func9, Try.ntmps9
      go_wp2
      go_ret
      exact ⟨rfl, rfl⟩
  · have HW := Lib.hid (show wordE k = ⟨#[]⟩ by unfold wordE; rw [if_neg (by omega), if_neg (by omega), if_neg (by omega), if_neg (by omega), if_neg (by omega)])
    have b1 : (k == 1) = false := by simp; omega
    have b2 : (k == 2) = false := by simp; omega
    have b3 : (k == 3) = false := by simp; omega
    have b4 : (k == 4) = false := by simp; omega
    have b5 : (k == 5) = false := by simp; omega
    go_enter Try.func9, Try.ntmps9
    go_wp2
    go_ret
    exact ⟨by rw [HW.out]; rfl, rfl⟩
set_option maxHeartbeats 1000000 in
theorem rword_any (k : Int) (w : World) : Calls Try.prog 10 #[.int .i64 k] w fun e w' => e = .returned (.string (wordE k)) ∧ Below w.heap.size w w' := by
  by_cases h0 : k < 0
  · have HW := Lib.hid (show wordE k = ⟨#[]⟩ by unfold wordE; rw [if_neg (by omega), if_neg (by omega), if_neg (by omega), if_neg (by omega), if_neg (by omega)])
    go_enter Try.func10, Try.ntmps10
    go_wp2
    go_ret
    exact ⟨by rw [HW.out]; rfl, (Below.refl _ _).alloc (Nat.le_refl _) _⟩
  · by_cases h4 : 5 < k
    · have HW := Lib.hid (show wordE k = ⟨#[]⟩ by unfold wordE; rw [if_neg (by omega), if_neg (by omega), if_neg (by omega), if_neg (by omega), if_neg (by omega)])
      go_enter Try.func10, Try.ntmps10
      go_wp2
      go_ret
      exact ⟨by rw [HW.out]; rfl, (Below.refl _ _).alloc (Nat.le_refl _) _⟩
    · rcases (by omega : k = 0 ∨ k = 1 ∨ k = 2 ∨ k = 3 ∨ k = 4 ∨ k = 5) with rfl | rfl | rfl | rfl | rfl | rfl
      all_goals
        go_enter Try.func10, Try.ntmps10
        go_wp2
        go_ret
        exact ⟨rfl, (Below.refl _ _).alloc (Nat.le_refl _) _⟩
end Go.Proofs.Ytpakefgbjncdiab.Ev
