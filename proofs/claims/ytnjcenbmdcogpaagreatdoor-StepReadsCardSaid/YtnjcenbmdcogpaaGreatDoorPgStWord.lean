/- The page's steps: words of kinds, more of what a kind has, two steps that are not right. -/
import Derived.Test.YtnjcenbmdcogpaaGreatDoorStep15R
import Derived.Test.YtnjcenbmdcogpaaGreatDoorStpWord
namespace Go.Proofs.YtnjcenbmdcogpaaGreatDoor.Sp
open Go Go.Lib Go.RowKit

set_option maxRecDepth 20000 in
theorem rword_1 (W : World) : Calls Tryz.prog 51 #[.int .i64 1] W fun e w' => e = .returned (.string (wdB 1)) ∧ Below W.heap.size W w' := by
  go_enter Tryz.func51, Tryz.ntmps51
  go_wp2
  go_ret
  exact ⟨rfl, (Below.refl _ _).alloc (Nat.le_refl _) _⟩

set_option maxRecDepth 20000 in
theorem rword_2 (W : World) : Calls Tryz.prog 51 #[.int .i64 2] W fun e w' => e = .returned (.string (wdB 2)) ∧ Below W.heap.size W w' := by
  go_enter Tryz.func51, Tryz.ntmps51
  go_wp2
  go_ret
  exact ⟨rfl, (Below.refl _ _).alloc (Nat.le_refl _) _⟩

set_option maxRecDepth 20000 in
theorem rword_3 (W : World) : Calls Tryz.prog 51 #[.int .i64 3] W fun e w' => e = .returned (.string (wdB 3)) ∧ Below W.heap.size W w' := by
  go_enter Tryz.func51, Tryz.ntmps51
  go_wp2
  go_ret
  exact ⟨rfl, (Below.refl _ _).alloc (Nat.le_refl _) _⟩

set_option maxRecDepth 20000 in
theorem rword_4 (W : World) : Calls Tryz.prog 51 #[.int .i64 4] W fun e w' => e = .returned (.string (wdB 4)) ∧ Below W.heap.size W w' := by
  go_enter Tryz.func51, Tryz.ntmps51
  go_wp2
  go_ret
  exact ⟨rfl, (Below.refl _ _).alloc (Nat.le_refl _) _⟩

set_option maxRecDepth 20000 in
theorem rword_5 (W : World) : Calls Tryz.prog 51 #[.int .i64 5] W fun e w' => e = .returned (.string (wdB 5)) ∧ Below W.heap.size W w' := by
  go_enter Tryz.func51, Tryz.ntmps51
  go_wp2
  go_ret
  exact ⟨rfl, (Below.refl _ _).alloc (Nat.le_refl _) _⟩

set_option maxRecDepth 20000 in
theorem rword_6 (W : World) : Calls Tryz.prog 51 #[.int .i64 6] W fun e w' => e = .returned (.string (wdB 6)) ∧ Below W.heap.size W w' := by
  go_enter Tryz.func51, Tryz.ntmps51
  go_wp2
  go_ret
  exact ⟨rfl, (Below.refl _ _).alloc (Nat.le_refl _) _⟩

set_option maxRecDepth 20000 in
theorem rword_7 (W : World) : Calls Tryz.prog 51 #[.int .i64 7] W fun e w' => e = .returned (.string (wdB 7)) ∧ Below W.heap.size W w' := by
  go_enter Tryz.func51, Tryz.ntmps51
  go_wp2
  go_ret
  exact ⟨rfl, (Below.refl _ _).alloc (Nat.le_refl _) _⟩

set_option maxRecDepth 20000 in
theorem rword_8 (W : World) : Calls Tryz.prog 51 #[.int .i64 8] W fun e w' => e = .returned (.string (wdB 8)) ∧ Below W.heap.size W w' := by
  go_enter Tryz.func51, Tryz.ntmps51
  go_wp2
  go_ret
  exact ⟨rfl, (Below.refl _ _).alloc (Nat.le_refl _) _⟩

theorem rword_any (k : Nat) (h1 : 1 ≤ k) (h8 : k ≤ 8) (w : World) : Calls Tryz.prog 51 #[.int .i64 (k : Int)] w fun e w' => e = .returned (.string (wdB k)) ∧ Below w.heap.size w w' := by
  match k, h1, h8 with
  | 1, _, _ => exact rword_1 w
  | 2, _, _ => exact rword_2 w
  | 3, _, _ => exact rword_3 w
  | 4, _, _ => exact rword_4 w
  | 5, _, _ => exact rword_5 w
  | 6, _, _ => exact rword_6 w
  | 7, _, _ => exact rword_7 w
  | 8, _, _ => exact rword_8 w

set_option maxRecDepth 20000 in
theorem has_0 (W : World) : Calls Tryz.prog 35 #[.int .i64 0] W fun e w' => e = .returned (.string ⟨#[63]⟩) ∧ Below W.heap.size W w' := by
  go_enter Tryz.func35, Tryz.ntmps35
  go_wp2
  go_ret
  exact ⟨rfl, (Below.refl _ _).alloc (Nat.le_refl _) _⟩

set_option maxRecDepth 20000 in
theorem in_q_112 (W : World) : Calls Tryz.prog 37 #[.string ⟨#[63]⟩, .int .u8 112] W fun e w' => e = .returned (.bool false) ∧ w' = W := by
  go_enter Tryz.func37, Tryz.ntmps37
  go_wp2
  refine wp_loop_rounds 2 ?_
  rw [rounds_succ]
  go_wp2
  rw [rounds_succ]
  go_wp2
  go_ret
  exact ⟨rfl, rfl⟩

set_option maxRecDepth 20000 in
theorem in_n_110 (W : World) : Calls Tryz.prog 37 #[.string ⟨#[110]⟩, .int .u8 110] W fun e w' => e = .returned (.bool true) ∧ w' = W := by
  go_enter Tryz.func37, Tryz.ntmps37
  go_wp2
  refine wp_loop_rounds 1 ?_
  rw [rounds_succ]
  go_wp2
  go_ret
  exact ⟨rfl, rfl⟩

set_option maxRecDepth 20000 in
theorem in_s_110 (W : World) : Calls Tryz.prog 37 #[.string ⟨#[115]⟩, .int .u8 110] W fun e w' => e = .returned (.bool false) ∧ w' = W := by
  go_enter Tryz.func37, Tryz.ntmps37
  go_wp2
  refine wp_loop_rounds 2 ?_
  rw [rounds_succ]
  go_wp2
  rw [rounds_succ]
  go_wp2
  go_ret
  exact ⟨rfl, rfl⟩

set_option maxRecDepth 20000 in
theorem in_p_110 (W : World) : Calls Tryz.prog 37 #[.string ⟨#[112]⟩, .int .u8 110] W fun e w' => e = .returned (.bool false) ∧ w' = W := by
  go_enter Tryz.func37, Tryz.ntmps37
  go_wp2
  refine wp_loop_rounds 2 ?_
  rw [rounds_succ]
  go_wp2
  rw [rounds_succ]
  go_wp2
  go_ret
  exact ⟨rfl, rfl⟩

set_option maxRecDepth 20000 in
theorem in_sn_110 (W : World) : Calls Tryz.prog 37 #[.string ⟨#[115, 110]⟩, .int .u8 110] W fun e w' => e = .returned (.bool true) ∧ w' = W := by
  go_enter Tryz.func37, Tryz.ntmps37
  go_wp2
  refine wp_loop_rounds 2 ?_
  rw [rounds_succ]
  go_wp2
  rw [rounds_succ]
  go_wp2
  go_ret
  exact ⟨rfl, rfl⟩

set_option maxRecDepth 20000 in
theorem in_none_110 (W : World) : Calls Tryz.prog 37 #[.string ⟨#[]⟩, .int .u8 110] W fun e w' => e = .returned (.bool false) ∧ w' = W := by
  go_enter Tryz.func37, Tryz.ntmps37
  go_wp2
  refine wp_loop_rounds 1 ?_
  rw [rounds_succ]
  go_wp2
  go_ret
  exact ⟨rfl, rfl⟩

end Go.Proofs.YtnjcenbmdcogpaaGreatDoor.Sp
