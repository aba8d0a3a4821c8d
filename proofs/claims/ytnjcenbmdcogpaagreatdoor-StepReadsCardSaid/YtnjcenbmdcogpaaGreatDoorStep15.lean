/- The page's steps: what a kind has, its greatest number, whether a letter is in a text. -/
import Derived.Test.YtnjcenbmdcogpaaGreatDoorCommon
import Derived.Deep.RegionHeld3
namespace Go.Proofs.YtnjcenbmdcogpaaGreatDoor.St15
open Go Go.RowKit

set_option maxRecDepth 20000 in
theorem has_1 (W : World) : Calls Tryz.prog 35 #[.int .i64 1] W fun e w' => e = .returned (.string ⟨#[110]⟩) ∧ Below W.heap.size W w' := by
  go_enter Tryz.func35, Tryz.ntmps35
  go_wp2
  go_ret
  exact ⟨rfl, (Below.refl _ _).alloc (Nat.le_refl _) _⟩
theorem most_1 (W : World) : Calls Tryz.prog 36 #[.int .i64 1] W fun e w' => e = .returned (.int .i64 2147483647) ∧ Below W.heap.size W w' := by
  go_enter Tryz.func36, Tryz.ntmps36
  go_wp2
  go_ret
  exact ⟨rfl, Below.refl _ _⟩
set_option maxRecDepth 20000 in
theorem has_2 (W : World) : Calls Tryz.prog 35 #[.int .i64 2] W fun e w' => e = .returned (.string ⟨#[115]⟩) ∧ Below W.heap.size W w' := by
  go_enter Tryz.func35, Tryz.ntmps35
  go_wp2
  go_ret
  exact ⟨rfl, (Below.refl _ _).alloc (Nat.le_refl _) _⟩
theorem most_2 (W : World) : Calls Tryz.prog 36 #[.int .i64 2] W fun e w' => e = .returned (.int .i64 0) ∧ Below W.heap.size W w' := by
  go_enter Tryz.func36, Tryz.ntmps36
  go_wp2
  go_ret
  exact ⟨rfl, Below.refl _ _⟩
set_option maxRecDepth 20000 in
theorem has_3 (W : World) : Calls Tryz.prog 35 #[.int .i64 3] W fun e w' => e = .returned (.string ⟨#[112]⟩) ∧ Below W.heap.size W w' := by
  go_enter Tryz.func35, Tryz.ntmps35
  go_wp2
  go_ret
  exact ⟨rfl, (Below.refl _ _).alloc (Nat.le_refl _) _⟩
theorem most_3 (W : World) : Calls Tryz.prog 36 #[.int .i64 3] W fun e w' => e = .returned (.int .i64 0) ∧ Below W.heap.size W w' := by
  go_enter Tryz.func36, Tryz.ntmps36
  go_wp2
  go_ret
  exact ⟨rfl, Below.refl _ _⟩
set_option maxRecDepth 20000 in
theorem has_4 (W : World) : Calls Tryz.prog 35 #[.int .i64 4] W fun e w' => e = .returned (.string ⟨#[115]⟩) ∧ Below W.heap.size W w' := by
  go_enter Tryz.func35, Tryz.ntmps35
  go_wp2
  go_ret
  exact ⟨rfl, (Below.refl _ _).alloc (Nat.le_refl _) _⟩
theorem most_4 (W : World) : Calls Tryz.prog 36 #[.int .i64 4] W fun e w' => e = .returned (.int .i64 0) ∧ Below W.heap.size W w' := by
  go_enter Tryz.func36, Tryz.ntmps36
  go_wp2
  go_ret
  exact ⟨rfl, Below.refl _ _⟩
set_option maxRecDepth 20000 in
theorem has_5 (W : World) : Calls Tryz.prog 35 #[.int .i64 5] W fun e w' => e = .returned (.string ⟨#[110]⟩) ∧ Below W.heap.size W w' := by
  go_enter Tryz.func35, Tryz.ntmps35
  go_wp2
  go_ret
  exact ⟨rfl, (Below.refl _ _).alloc (Nat.le_refl _) _⟩
theorem most_5 (W : World) : Calls Tryz.prog 36 #[.int .i64 5] W fun e w' => e = .returned (.int .i64 7) ∧ Below W.heap.size W w' := by
  go_enter Tryz.func36, Tryz.ntmps36
  go_wp2
  go_ret
  exact ⟨rfl, Below.refl _ _⟩
set_option maxRecDepth 20000 in
theorem has_6 (W : World) : Calls Tryz.prog 35 #[.int .i64 6] W fun e w' => e = .returned (.string ⟨#[115, 110]⟩) ∧ Below W.heap.size W w' := by
  go_enter Tryz.func35, Tryz.ntmps35
  go_wp2
  go_ret
  exact ⟨rfl, (Below.refl _ _).alloc (Nat.le_refl _) _⟩
theorem most_6 (W : World) : Calls Tryz.prog 36 #[.int .i64 6] W fun e w' => e = .returned (.int .i64 4) ∧ Below W.heap.size W w' := by
  go_enter Tryz.func36, Tryz.ntmps36
  go_wp2
  go_ret
  exact ⟨rfl, Below.refl _ _⟩
set_option maxRecDepth 20000 in
theorem has_7 (W : World) : Calls Tryz.prog 35 #[.int .i64 7] W fun e w' => e = .returned (.string ⟨#[]⟩) ∧ Below W.heap.size W w' := by
  go_enter Tryz.func35, Tryz.ntmps35
  go_wp2
  go_ret
  exact ⟨rfl, (Below.refl _ _).alloc (Nat.le_refl _) _⟩
theorem most_7 (W : World) : Calls Tryz.prog 36 #[.int .i64 7] W fun e w' => e = .returned (.int .i64 0) ∧ Below W.heap.size W w' := by
  go_enter Tryz.func36, Tryz.ntmps36
  go_wp2
  go_ret
  exact ⟨rfl, Below.refl _ _⟩
set_option maxRecDepth 20000 in
theorem has_8 (W : World) : Calls Tryz.prog 35 #[.int .i64 8] W fun e w' => e = .returned (.string ⟨#[]⟩) ∧ Below W.heap.size W w' := by
  go_enter Tryz.func35, Tryz.ntmps35
  go_wp2
  go_ret
  exact ⟨rfl, (Below.refl _ _).alloc (Nat.le_refl _) _⟩
theorem most_8 (W : World) : Calls Tryz.prog 36 #[.int .i64 8] W fun e w' => e = .returned (.int .i64 0) ∧ Below W.heap.size W w' := by
  go_enter Tryz.func36, Tryz.ntmps36
  go_wp2
  go_ret
  exact ⟨rfl, Below.refl _ _⟩
set_option maxRecDepth 20000 in
theorem in_n_115 (W : World) : Calls Tryz.prog 37 #[.string ⟨#[110]⟩, .int .u8 115] W fun e w' => e = .returned (.bool false) ∧ w' = W := by
  go_enter Tryz.func37, Tryz.ntmps37
  go_wp2
  refine wp_loop_rounds 2 ?_
  rw [rounds_succ]
  go_wp2
  rw [rounds_succ]
  go_wp2
  go_ret
  exact ⟨rfl, rfl⟩
set_option maxRecDepth 20000 in
theorem in_n_112 (W : World) : Calls Tryz.prog 37 #[.string ⟨#[110]⟩, .int .u8 112] W fun e w' => e = .returned (.bool false) ∧ w' = W := by
  go_enter Tryz.func37, Tryz.ntmps37
  go_wp2
  refine wp_loop_rounds 2 ?_
  rw [rounds_succ]
  go_wp2
  rw [rounds_succ]
  go_wp2
  go_ret
  exact ⟨rfl, rfl⟩
set_option maxRecDepth 20000 in
theorem in_s_115 (W : World) : Calls Tryz.prog 37 #[.string ⟨#[115]⟩, .int .u8 115] W fun e w' => e = .returned (.bool true) ∧ w' = W := by
  go_enter Tryz.func37, Tryz.ntmps37
  go_wp2
  refine wp_loop_rounds 1 ?_
  rw [rounds_succ]
  go_wp2
  go_ret
  exact ⟨rfl, rfl⟩
set_option maxRecDepth 20000 in
theorem in_s_112 (W : World) : Calls Tryz.prog 37 #[.string ⟨#[115]⟩, .int .u8 112] W fun e w' => e = .returned (.bool false) ∧ w' = W := by
  go_enter Tryz.func37, Tryz.ntmps37
  go_wp2
  refine wp_loop_rounds 2 ?_
  rw [rounds_succ]
  go_wp2
  rw [rounds_succ]
  go_wp2
  go_ret
  exact ⟨rfl, rfl⟩
set_option maxRecDepth 20000 in
theorem in_p_115 (W : World) : Calls Tryz.prog 37 #[.string ⟨#[112]⟩, .int .u8 115] W fun e w' => e = .returned (.bool false) ∧ w' = W := by
  go_enter Tryz.func37, Tryz.ntmps37
  go_wp2
  refine wp_loop_rounds 2 ?_
  rw [rounds_succ]
  go_wp2
  rw [rounds_succ]
  go_wp2
  go_ret
  exact ⟨rfl, rfl⟩
set_option maxRecDepth 20000 in
theorem in_p_112 (W : World) : Calls Tryz.prog 37 #[.string ⟨#[112]⟩, .int .u8 112] W fun e w' => e = .returned (.bool true) ∧ w' = W := by
  go_enter Tryz.func37, Tryz.ntmps37
  go_wp2
  refine wp_loop_rounds 1 ?_
  rw [rounds_succ]
  go_wp2
  go_ret
  exact ⟨rfl, rfl⟩
set_option maxRecDepth 20000 in
theorem in_sn_115 (W : World) : Calls Tryz.prog 37 #[.string ⟨#[115, 110]⟩, .int .u8 115] W fun e w' => e = .returned (.bool true) ∧ w' = W := by
  go_enter Tryz.func37, Tryz.ntmps37
  go_wp2
  refine wp_loop_rounds 1 ?_
  rw [rounds_succ]
  go_wp2
  go_ret
  exact ⟨rfl, rfl⟩
set_option maxRecDepth 20000 in
theorem in_sn_112 (W : World) : Calls Tryz.prog 37 #[.string ⟨#[115, 110]⟩, .int .u8 112] W fun e w' => e = .returned (.bool false) ∧ w' = W := by
  go_enter Tryz.func37, Tryz.ntmps37
  go_wp2
  refine wp_loop_rounds 3 ?_
  rw [rounds_succ]
  go_wp2
  rw [rounds_succ]
  go_wp2
  rw [rounds_succ]
  go_wp2
  go_ret
  exact ⟨rfl, rfl⟩
set_option maxRecDepth 20000 in
theorem in_none_115 (W : World) : Calls Tryz.prog 37 #[.string ⟨#[]⟩, .int .u8 115] W fun e w' => e = .returned (.bool false) ∧ w' = W := by
  go_enter Tryz.func37, Tryz.ntmps37
  go_wp2
  refine wp_loop_rounds 1 ?_
  rw [rounds_succ]
  go_wp2
  go_ret
  exact ⟨rfl, rfl⟩
set_option maxRecDepth 20000 in
theorem in_none_112 (W : World) : Calls Tryz.prog 37 #[.string ⟨#[]⟩, .int .u8 112] W fun e w' => e = .returned (.bool false) ∧ w' = W := by
  go_enter Tryz.func37, Tryz.ntmps37
  go_wp2
  refine wp_loop_rounds 1 ?_
  rw [rounds_succ]
  go_wp2
  go_ret
  exact ⟨rfl, rfl⟩
end Go.Proofs.YtnjcenbmdcogpaaGreatDoor.St15
