/- strings.IndexByte in the sixteen digits. -/
import Derived.Test.YtcanoegffffdfaaDoorShaHexMath
import Derived.Lib.Bytealg
import Derived.BigCall
namespace Go.Proofs.YtcanoegffffdfaaDoor.Sha
open Go Go.RowKit

theorem idx_of (n : Nat) (h : n < 256) : Lib.indexByte [48, 49, 50, 51, 52, 53, 54, 55, 56, 57, 97, 98, 99, 100, 101, 102] (n : Int).toNat.toUInt8 = hidx n := by
  have key : ∀ m : Fin 256, Lib.indexByte [48, 49, 50, 51, 52, 53, 54, 55, 56, 57, 97, 98, 99, 100, 101, 102] (m.val : Int).toNat.toUInt8 = hidx m.val := by decide +kernel
  exact key ⟨n, h⟩
theorem idx_any (n : Nat) (h : n < 256) (w : World) :
    Calls Tryd.prog 27 #[.string ⟨#[48, 49, 50, 51, 52, 53, 54, 55, 56, 57, 97, 98, 99, 100, 101, 102]⟩, .int .u8 (n : Int)] w fun e w' => e = .returned (.int .i64 (hidx n)) ∧ w' = w := by
  have hq : ∀ W : World, Calls Tryd.prog 36 #[.string ⟨#[48, 49, 50, 51, 52, 53, 54, 55, 56, 57, 97, 98, 99, 100, 101, 102]⟩, .int .u8 (n : Int)] W fun e w' => e = .returned (.int .i64 (hidx n)) ∧ w' = W := by
    intro W
    go_enter Tryd.func36, Tryd.ntmps36
    go_wp2
    rw [run_callFunc_extern Tryd.func43 (by kernel_rfl) (by kernel_rfl) (by kernel_rfl) (e := Extern.BytealgIndexByte.indexByte) (by kernel_rfl), Lib.run_indexByteString]
    simp only [Result.andThen]
    rw [Oper.upon_value]
    go_wp2
    go_ret
    exact ⟨by rw [← idx_of n h]; rfl, rfl⟩
  go_enter Tryd.func27, Tryd.ntmps27
  go_wp2_with fail
  refine (hq _).mono ?_
  rintro e w1 ⟨rfl, rfl⟩
  go_wp2
  go_ret
  exact ⟨rfl, rfl⟩
end Go.Proofs.YtcanoegffffdfaaDoor.Sha
