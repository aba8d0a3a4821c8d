/- A kind's word: msg.Word, and the page's. -/
import Derived.Test.YtpakefgbjncdiaaMsgBox
import Derived.Below
namespace Go.Proofs.Ytpakefgbjncdiaa.Msg
open Go Go.RowKit

def wordM (k : Int) : ByteArray := if k = 1 then ⟨#[115, 101, 110, 100]⟩ else if k = 2 then ⟨#[114, 101, 99, 118]⟩ else if k = 3 then ⟨#[97, 99, 107]⟩ else if k = 4 then ⟨#[116, 105, 109, 101, 111, 117, 116]⟩ else ⟨#[]⟩
theorem word_any (k : Int) (w : World) : Calls Try.prog 10 #[.int .i64 k] w fun e w' => e = .returned (.string (wordM k)) ∧ w' = w := by
  by_cases h1 : k = 1
  · subst h1
    go_enter Try.func10, Try.ntmps10
    go_wp2
    go_ret
    exact ⟨rfl, rfl⟩
  · by_cases h2 : k = 2
    · subst h2
      go_enter Try.func10, Try.ntmps10
      go_wp2
      go_ret
      exact ⟨rfl, rfl⟩
    · by_cases h3 : k = 3
      · subst h3
        go_enter Try.func10, Try.ntmps10
        go_wp2
        go_ret
        exact ⟨rfl, rfl⟩
      · by_cases h4 : k = 4
        · subst h4
          go_enter Try.func10, Try.ntmps10
          go_wp2
          go_ret
          exact ⟨rfl, rfl⟩
        · have HW := Lib.hid (show wordM k = ⟨#[]⟩ by unfold wordM; rw [if_neg h1, if_neg h2, if_neg h3, if_neg h4])
          have b1 : (k == 1) = false := by simpa using h1
          have b2 : (k == 2) = false := by simpa using h2
          have b3 : (k == 3) = false := by simpa using h3
          have b4 : (k == 4) = false := by simpa using h4
          go_enter Try.func10, Try.ntmps10
          go_wp2
          go_ret
          exact ⟨by rw [HW.out]; rfl, rfl⟩
set_option maxHeartbeats 1000000 in
theorem rword_any (k : Int) (w : World) : Calls Try.prog 11 #[.int .i64 k] w fun e w' => e = .returned (.string (wordM k)) ∧ Below w.heap.size w w' := by
  by_cases h0 : k < 0
  · have HW := Lib.hid (show wordM k = ⟨#[]⟩ by unfold wordM; rw [if_neg (by omega), if_neg (by omega), if_neg (by omega), if_neg (by omega)])
    go_enter Try.func11, Try.ntmps11
    go_wp2
    go_ret
    exact ⟨by rw [HW.out]; rfl, (Below.refl _ _).alloc (Nat.le_refl _) _⟩
  · by_cases h4 : 4 < k
    · have HW := Lib.hid (show wordM k = ⟨#[]⟩ by unfold wordM; rw [if_neg (by omega), if_neg (by omega), if_neg (by omega), if_neg (by omega)])
      go_enter Try.func11, Try.ntmps11
      go_wp2
      go_ret
      exact ⟨by rw [HW.out]; rfl, (Below.refl _ _).alloc (Nat.le_refl _) _⟩
    · rcases (by omega : k = 0 ∨ k = 1 ∨ k = 2 ∨ k = 3 ∨ k = 4) with rfl | rfl | rfl | rfl | rfl
      all_goals
        go_enter Try.func11, Try.ntmps11
        go_wp2
        go_ret
        exact ⟨rfl, (Below.refl _ _).alloc (Nat.le_refl _) _⟩
end Go.Proofs.Ytpakefgbjncdiaa.Msg
