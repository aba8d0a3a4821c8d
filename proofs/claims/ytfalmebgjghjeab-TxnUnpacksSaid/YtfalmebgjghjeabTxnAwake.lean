/- The page's example of txn. -/
import Derived.Test.YtfalmebgjghjeabTxnPut
namespace Go.Proofs.Ytfalmebgjghjeab.txnApart
open Go Go.RowKit Msg Num Texts
open Packet (P5 textB)

theorem ex_bytes : tB 1 2 3 [] = ⟨#[1, 1, 1, 2, 1, 3, 0]⟩ := by
  have dig_small : ∀ {m : Nat}, m ≠ 0 → m < 256 → dig m = [(m : Int)] := fun {m} h0 h => by
    rw [dig_pos h0, Nat.div_eq_of_lt h, dig_zero, Nat.mod_eq_of_lt h]; rfl
  have n1 : numS 1 = ⟨#[1, 1]⟩ := by unfold numS; rw [dig_small (by decide) (by decide)]; simp [strOfNums]; rfl
  have n2 : numS 2 = ⟨#[1, 2]⟩ := by unfold numS; rw [dig_small (by decide) (by decide)]; simp [strOfNums]; rfl
  have n3 : numS 3 = ⟨#[1, 3]⟩ := by unfold numS; rw [dig_small (by decide) (by decide)]; simp [strOfNums]; rfl
  have n0 : numS 0 = ⟨#[0]⟩ := by simp [numS, dig_zero, strOfNums]; rfl
  have k1 : kS 1 = ⟨#[1, 1]⟩ := n1
  have k2 : kS 2 = ⟨#[1, 2]⟩ := n2
  have k3 : kS 3 = ⟨#[1, 3]⟩ := n3
  have k0 : kS (([] : List M7).length : Int) = ⟨#[0]⟩ := n0
  simp only [tB, k1, k2, k3, k0]
  rfl

set_option maxHeartbeats 1000000 in
theorem awake_any (w : World) : Calls Try.prog 4 #[] w fun e w' => e = .returned (.bool true) ∧ Below w.heap.size w w' := by
  have hp := fun W => txput_yes ⟨1, 2, 3, none, 0, 0, []⟩ W ⟨rfl, fun h => absurd h (by decide)⟩ ⟨by decide, by decide⟩ (fun m hm => by simp at hm) (by decide)
  simp only [ex_bytes] at hp
  have HP := Lib.hid hp
  clear hp
  go_enter Try.func4, Try.ntmps4
  go_wp2_with fail
  refine (HP.out _).mono ?_
  rintro e w1 ⟨rfl, b1⟩
  go_wp2
  go_ret
  exact ⟨rfl, b1⟩

end Go.Proofs.Ytfalmebgjghjeab.txnApart
