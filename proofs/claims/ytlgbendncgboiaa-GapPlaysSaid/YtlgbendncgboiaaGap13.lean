/- gap: sort.Sort at two runs that stand right; slices.Clone of two. -/
import Derived.Test.YtlgbendncgboiaaGap12
namespace Go.Proofs.Ytlgbendncgboiaa.Gp
open Go Go.RowKit

theorem n_len (v : Value) (W : World) : (method 213 48 v "Len").run Try.prog W = .ok (68, v) W := by kernel_rfl
theorem n_less (v : Value) (W : World) : (method 213 48 v "Less").run Try.prog W = .ok (69, v) W := by kernel_rfl
set_option maxRecDepth 20000 in
set_option maxHeartbeats 2000000 in
theorem ins_two (g cap : Nat) (x y : Int × Int) (hxy : x.1 ≤ y.1) (W : World) (hr : RowIs W g [x, y]) : Calls Try.prog 36 #[.iface 48 (.slice (some ⟨g, 0, none⟩) 2 cap), .int .i64 0, .int .i64 2] W fun e w' => e = .returned (.tuple #[]) ∧ ∃ q, w' = W.drewN q := by
  have HL := Lib.hid (less_any g cap [x, y] 1 0 y x rfl rfl W hr)
  rw [decide_eq_false (show ¬ y.1 < x.1 by omega)] at HL
  have hm := n_less (.slice (some ⟨g, 0, none⟩) 2 cap) W
  clear hr hxy
  go_enter Try.func36, Try.ntmps36
  go_wp2
  refine wp_loop_rounds 2 ?_
  rw [rounds_succ]
  go_wp2
  refine wp_loop_rounds 1 ?_
  rw [rounds_succ]
  go_wp2_with fail
  refine HL.out.mono ?_
  rintro _ w1 ⟨rfl, q, rfl⟩
  go_wp2
  rw [rounds_succ]
  go_wp2
  go_end0
  exact ⟨rfl, q, rfl⟩
set_option maxRecDepth 20000 in
set_option maxHeartbeats 2000000 in
theorem pdq_two (g cap : Nat) (x y : Int × Int) (lim : Int) (hxy : x.1 ≤ y.1) (W : World) (hr : RowIs W g [x, y]) : Calls Try.prog 33 #[.iface 48 (.slice (some ⟨g, 0, none⟩) 2 cap), .int .i64 0, .int .i64 2, .int .i64 lim] W fun e w' => e = .returned (.tuple #[]) ∧ ∃ q, w' = W.drewN q := by
  have HI := Lib.hid (ins_two g cap x y hxy W hr)
  clear hr hxy
  go_enter Try.func33, Try.ntmps33
  go_wp2
  refine wp_loop_rounds 1 ?_
  rw [rounds_succ]
  go_wp2_with fail
  refine HI.out.mono ?_
  rintro _ w1 ⟨rfl, q, rfl⟩
  go_wp2
  first
    | exact bodyPost_ret (results_none rfl _ _ _) rfl ⟨rfl, q, rfl⟩
    | exact bodyPost_end (results_none rfl _ _ _) rfl ⟨rfl, q, rfl⟩
set_option maxRecDepth 20000 in
theorem len64_two (W : World) : Calls Try.prog 35 #[.int .u64 2] W fun e w' => e = .returned (.int .i64 2) ∧ w' = W := by
  go_enter Try.func35, Try.ntmps35
  go_wp2
  go_ret
  exact ⟨by kernel_rfl, rfl⟩
set_option maxRecDepth 20000 in
theorem len_two (W : World) : Calls Try.prog 32 #[.int .u64 2] W fun e w' => e = .returned (.int .i64 2) ∧ w' = W := by
  go_enter Try.func32, Try.ntmps32
  go_wp2_with fail
  refine (len64_two _).mono ?_
  rintro _ w1 ⟨rfl, rfl⟩
  go_wp2
  go_ret
  exact ⟨rfl, rfl⟩
set_option maxRecDepth 20000 in
theorem sort_two (g cap : Nat) (x y : Int × Int) (hxy : x.1 ≤ y.1) (W : World) (hr : RowIs W g [x, y]) : Calls Try.prog 27 #[.iface 48 (.slice (some ⟨g, 0, none⟩) 2 cap)] W fun e w' => e = .returned (.tuple #[]) ∧ ∃ q, w' = W.drewN q := by
  have hm := n_len (.slice (some ⟨g, 0, none⟩) 2 cap) W
  have HP := Lib.hid (fun lim => pdq_two g cap x y lim hxy W hr)
  clear hr hxy
  go_enter Try.func27, Try.ntmps27
  go_wp2_with fail
  refine (rlen_any _ _ _ _).mono ?_
  rintro _ w1 ⟨rfl, rfl⟩
  go_wp2_with fail
  refine (len_two _).mono ?_
  rintro _ w2 ⟨rfl, rfl⟩
  go_wp2_with fail
  refine (HP.out _).mono ?_
  rintro _ w3 ⟨rfl, q, rfl⟩
  go_wp2
  go_end0
  exact ⟨rfl, q, rfl⟩
set_option maxRecDepth 20000 in
theorem sort_nil (W : World) : Calls Try.prog 27 #[.iface 48 (.slice none 0 0)] W fun e w' => e = .returned (.tuple #[]) ∧ w' = W := by
  have hm := n_len (.slice none 0 0) W
  go_enter Try.func27, Try.ntmps27
  go_wp2_with fail
  refine (rlen_any _ _ _ _).mono ?_
  rintro _ w1 ⟨rfl, rfl⟩
  go_wp2
  first
    | exact bodyPost_ret (results_none rfl _ _ _) rfl ⟨rfl, rfl⟩
    | exact bodyPost_end (results_none rfl _ _ _) rfl ⟨rfl, rfl⟩
set_option maxRecDepth 20000 in
theorem clone_nil (W : World) : Calls Try.prog 26 #[.slice none 0 0] W fun e w' => e = .returned (.slice none 0 0) ∧ w' = W := by
  have he : (binOp .eql 48 (.slice none 0 0) (.slice none 0 0)).run Try.prog W = .ok (.bool true) W := by kernel_rfl
  go_enter Try.func26, Try.ntmps26
  go_wp2
  go_ret
  exact ⟨rfl, rfl⟩
set_option maxRecDepth 20000 in
theorem runs_none (H : Nat) (W : World) (h : W.heap[H]? = some (.cells #[.slice none 0 0] THp (0, 0))) : Calls Try.prog 15 #[.pointer (some ⟨H, 0, none⟩)] W fun e w' => e = .returned (.slice none 0 0) ∧ w' = W := by
  have c0 := cell_of_row W H 0 _ _ (0, 0) h
  clear h
  go_enter Try.func15, Try.ntmps15
  go_wp2_with fail
  refine (clone_nil _).mono ?_
  rintro _ w1 ⟨rfl, rfl⟩
  go_wp2_with fail
  refine (sort_nil _).mono ?_
  rintro _ w2 ⟨rfl, rfl⟩
  go_wp2
  go_ret
  exact ⟨rfl, rfl⟩
set_option maxRecDepth 20000 in
theorem len_none (H : Nat) (W : World) (h : W.heap[H]? = some (.cells #[.slice none 0 0] THp (0, 0))) : Calls Try.prog 16 #[.pointer (some ⟨H, 0, none⟩)] W fun e w' => e = .returned (.int .u64 0) ∧ w' = W := by
  have c0 := cell_of_row W H 0 _ _ (0, 0) h
  clear h
  go_enter Try.func16, Try.ntmps16
  go_wp2
  refine wp_loop_rounds 1 ?_
  rw [rounds_succ]
  go_wp2
  go_ret
  exact ⟨rfl, rfl⟩
end Go.Proofs.Ytlgbendncgboiaa.Gp
