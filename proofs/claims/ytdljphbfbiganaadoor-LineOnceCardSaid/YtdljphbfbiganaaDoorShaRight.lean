/- A word turned: sha.right at each number that the program hands it, and the page's turned, power. -/
import Derived.Test.YtdljphbfbiganaaDoorShaMath
import Derived.Test.YtdljphbfbiganaaDoorRows
import Derived.WalkKit
import Derived.WalkSpells
import Derived.WalkLawsBesides
import Derived.BigQuiet
import Derived.Lib.Hide
import Derived.Outline
namespace Go.Proofs.YtdljphbfbiganaaDoor.Sha
open Go.RowKit

theorem rot_prog (x : W) (n m : Nat) (hn : n + m = 32) (p : Int) (hp : p = ((2 ^ m : Nat) : Int)) (r : Int) (hr : r = ((2 ^ n : Nat) : Int)) :
    bits .or .u32 (IntKind.u32.wrap ((x.toNat : Int) * p)) ((x.toNat : Int) / r) = ((rot x n).toNat : Int) := by
  have h1 : IntKind.u32.wrap ((x.toNat : Int) * p) = ((x <<< m).toNat : Int) := by
    rw [IntKind.wrap_u32', hp, BitVec.toNat_shiftLeft, Nat.shiftLeft_eq]; rfl
  rw [h1, hr, shr_w, or_w]
  have : rot x n = x <<< m ||| x >>> n := by unfold rot; rw [show 32 - n = m by omega, BitVec.or_comm]
  rw [this]

set_option maxHeartbeats 400000 in
theorem right_2 (x : W) (w : World) : Calls Tryd.prog 51 #[.int .u32 (x.toNat : Int), .int .i64 2] w fun e w' => e = .returned (.int .u32 ((rot x 2).toNat : Int)) ∧ w' = w := by
  have hx := lt32 x
  have h := rot_prog x 2 30 rfl 1073741824 rfl 4 rfl
  have H := Lib.hid h; clear h
  have hs : bits BinOp.and IntKind.u64 (IntKind.u64.wrap (-2)) 31 = 30 := by decide
  go_enter Tryd.func51, Tryd.ntmps51
  go_wp2
  go_ret
  exact ⟨congrArg (fun n => Ending.returned (.int .u32 n)) H.out, rfl⟩

set_option maxHeartbeats 400000 in
theorem right_6 (x : W) (w : World) : Calls Tryd.prog 51 #[.int .u32 (x.toNat : Int), .int .i64 6] w fun e w' => e = .returned (.int .u32 ((rot x 6).toNat : Int)) ∧ w' = w := by
  have hx := lt32 x
  have h := rot_prog x 6 26 rfl 67108864 rfl 64 rfl
  have H := Lib.hid h; clear h
  have hs : bits BinOp.and IntKind.u64 (IntKind.u64.wrap (-6)) 31 = 26 := by decide
  go_enter Tryd.func51, Tryd.ntmps51
  go_wp2
  go_ret
  exact ⟨congrArg (fun n => Ending.returned (.int .u32 n)) H.out, rfl⟩

set_option maxHeartbeats 400000 in
theorem right_7 (x : W) (w : World) : Calls Tryd.prog 51 #[.int .u32 (x.toNat : Int), .int .i64 7] w fun e w' => e = .returned (.int .u32 ((rot x 7).toNat : Int)) ∧ w' = w := by
  have hx := lt32 x
  have h := rot_prog x 7 25 rfl 33554432 rfl 128 rfl
  have H := Lib.hid h; clear h
  have hs : bits BinOp.and IntKind.u64 (IntKind.u64.wrap (-7)) 31 = 25 := by decide
  go_enter Tryd.func51, Tryd.ntmps51
  go_wp2
  go_ret
  exact ⟨congrArg (fun n => Ending.returned (.int .u32 n)) H.out, rfl⟩

set_option maxHeartbeats 400000 in
theorem right_11 (x : W) (w : World) : Calls Tryd.prog 51 #[.int .u32 (x.toNat : Int), .int .i64 11] w fun e w' => e = .returned (.int .u32 ((rot x 11).toNat : Int)) ∧ w' = w := by
  have hx := lt32 x
  have h := rot_prog x 11 21 rfl 2097152 rfl 2048 rfl
  have H := Lib.hid h; clear h
  have hs : bits BinOp.and IntKind.u64 (IntKind.u64.wrap (-11)) 31 = 21 := by decide
  go_enter Tryd.func51, Tryd.ntmps51
  go_wp2
  go_ret
  exact ⟨congrArg (fun n => Ending.returned (.int .u32 n)) H.out, rfl⟩

set_option maxHeartbeats 400000 in
theorem right_13 (x : W) (w : World) : Calls Tryd.prog 51 #[.int .u32 (x.toNat : Int), .int .i64 13] w fun e w' => e = .returned (.int .u32 ((rot x 13).toNat : Int)) ∧ w' = w := by
  have hx := lt32 x
  have h := rot_prog x 13 19 rfl 524288 rfl 8192 rfl
  have H := Lib.hid h; clear h
  have hs : bits BinOp.and IntKind.u64 (IntKind.u64.wrap (-13)) 31 = 19 := by decide
  go_enter Tryd.func51, Tryd.ntmps51
  go_wp2
  go_ret
  exact ⟨congrArg (fun n => Ending.returned (.int .u32 n)) H.out, rfl⟩

set_option maxHeartbeats 400000 in
theorem right_17 (x : W) (w : World) : Calls Tryd.prog 51 #[.int .u32 (x.toNat : Int), .int .i64 17] w fun e w' => e = .returned (.int .u32 ((rot x 17).toNat : Int)) ∧ w' = w := by
  have hx := lt32 x
  have h := rot_prog x 17 15 rfl 32768 rfl 131072 rfl
  have H := Lib.hid h; clear h
  have hs : bits BinOp.and IntKind.u64 (IntKind.u64.wrap (-17)) 31 = 15 := by decide
  go_enter Tryd.func51, Tryd.ntmps51
  go_wp2
  go_ret
  exact ⟨congrArg (fun n => Ending.returned (.int .u32 n)) H.out, rfl⟩

set_option maxHeartbeats 400000 in
theorem right_18 (x : W) (w : World) : Calls Tryd.prog 51 #[.int .u32 (x.toNat : Int), .int .i64 18] w fun e w' => e = .returned (.int .u32 ((rot x 18).toNat : Int)) ∧ w' = w := by
  have hx := lt32 x
  have h := rot_prog x 18 14 rfl 16384 rfl 262144 rfl
  have H := Lib.hid h; clear h
  have hs : bits BinOp.and IntKind.u64 (IntKind.u64.wrap (-18)) 31 = 14 := by decide
  go_enter Tryd.func51, Tryd.ntmps51
  go_wp2
  go_ret
  exact ⟨congrArg (fun n => Ending.returned (.int .u32 n)) H.out, rfl⟩

set_option maxHeartbeats 400000 in
theorem right_19 (x : W) (w : World) : Calls Tryd.prog 51 #[.int .u32 (x.toNat : Int), .int .i64 19] w fun e w' => e = .returned (.int .u32 ((rot x 19).toNat : Int)) ∧ w' = w := by
  have hx := lt32 x
  have h := rot_prog x 19 13 rfl 8192 rfl 524288 rfl
  have H := Lib.hid h; clear h
  have hs : bits BinOp.and IntKind.u64 (IntKind.u64.wrap (-19)) 31 = 13 := by decide
  go_enter Tryd.func51, Tryd.ntmps51
  go_wp2
  go_ret
  exact ⟨congrArg (fun n => Ending.returned (.int .u32 n)) H.out, rfl⟩

set_option maxHeartbeats 400000 in
theorem right_22 (x : W) (w : World) : Calls Tryd.prog 51 #[.int .u32 (x.toNat : Int), .int .i64 22] w fun e w' => e = .returned (.int .u32 ((rot x 22).toNat : Int)) ∧ w' = w := by
  have hx := lt32 x
  have h := rot_prog x 22 10 rfl 1024 rfl 4194304 rfl
  have H := Lib.hid h; clear h
  have hs : bits BinOp.and IntKind.u64 (IntKind.u64.wrap (-22)) 31 = 10 := by decide
  go_enter Tryd.func51, Tryd.ntmps51
  go_wp2
  go_ret
  exact ⟨congrArg (fun n => Ending.returned (.int .u32 n)) H.out, rfl⟩

set_option maxHeartbeats 400000 in
theorem right_25 (x : W) (w : World) : Calls Tryd.prog 51 #[.int .u32 (x.toNat : Int), .int .i64 25] w fun e w' => e = .returned (.int .u32 ((rot x 25).toNat : Int)) ∧ w' = w := by
  have hx := lt32 x
  have h := rot_prog x 25 7 rfl 128 rfl 33554432 rfl
  have H := Lib.hid h; clear h
  have hs : bits BinOp.and IntKind.u64 (IntKind.u64.wrap (-25)) 31 = 7 := by decide
  go_enter Tryd.func51, Tryd.ntmps51
  go_wp2
  go_ret
  exact ⟨congrArg (fun n => Ending.returned (.int .u32 n)) H.out, rfl⟩

theorem right_any (x : W) (n : Int) (w : World) (h : n = 2 ∨ n = 6 ∨ n = 7 ∨ n = 11 ∨ n = 13 ∨ n = 17 ∨ n = 18 ∨ n = 19 ∨ n = 22 ∨ n = 25) : Calls Tryd.prog 51 #[.int .u32 (x.toNat : Int), .int .i64 n] w fun e w' => e = .returned (.int .u32 ((rot x n.toNat).toNat : Int)) ∧ w' = w := by
  rcases h with rfl | rfl | rfl | rfl | rfl | rfl | rfl | rfl | rfl | rfl
  · exact right_2 x w
  · exact right_6 x w
  · exact right_7 x w
  · exact right_11 x w
  · exact right_13 x w
  · exact right_17 x w
  · exact right_18 x w
  · exact right_19 x w
  · exact right_22 x w
  · exact right_25 x w
end Go.Proofs.YtdljphbfbiganaaDoor.Sha
