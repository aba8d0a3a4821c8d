/- The page's example of packet. -/
import Derived.Test.YtdljphbfbiganaaDoorPacketMath
namespace Go.Proofs.YtdljphbfbiganaaDoor.packetApart
open Go.RowKit Num Texts Packet

theorem dig_small {m : Nat} (h0 : m ≠ 0) (h : m < 256) : dig m = [(m : Int)] := by
  rw [dig_pos h0, Nat.div_eq_of_lt h, dig_zero, Nat.mod_eq_of_lt h]; rfl
theorem ex_bytes : (⟨1, 0, 2, 0, ⟨#[120]⟩⟩ : P5).bytes = ⟨#[1, 1, 0, 1, 2, 0, 1, 1, 120]⟩ := by
  have n1 : numS 1 = ⟨#[1, 1]⟩ := by unfold numS; rw [dig_small (by decide) (by decide)]; simp [strOfNums]; rfl
  have n2 : numS 2 = ⟨#[1, 2]⟩ := by unfold numS; rw [dig_small (by decide) (by decide)]; simp [strOfNums]; rfl
  have n0 : numS 0 = ⟨#[0]⟩ := by simp [numS, dig_zero, strOfNums]; rfl
  have k1 : kS 1 = ⟨#[1, 1]⟩ := n1
  have k2 : kS 2 = ⟨#[1, 2]⟩ := n2
  have k0 : kS 0 = ⟨#[0]⟩ := n0
  have t1 : textB ⟨#[120]⟩ = ⟨#[1, 1, 120]⟩ := by
    unfold textB textL
    rw [show (⟨#[120]⟩ : ByteArray).size = 1 from rfl, n1]
    rfl
  simp only [P5.bytes, k0, k1, k2, t1]
  rfl

end Go.Proofs.YtdljphbfbiganaaDoor.packetApart
