/- 'ConfDirs' holds for every input, with no condition: directions have numbers of their own, and go back. -/
import Derived.Test.YtoojifhaaglljaaConfPlainRow
namespace Go.Proofs.Ytoojifhaaglljaa.Conf
open Go.RowKit

set_option maxRecDepth 20000 in
set_option maxHeartbeats 1000000 in
theorem workers_any (c : Cfg) (hn : c.n ≤ 4) (w : World) :
    Calls Try.prog 64 #[.agg c.cells] w fun e w' => e = .returned (.int .i64 (if code c 11 0 = 0 then 2 * (c.n : Int) else 0)) ∧ Below w.heap.size w w' := by
  have HC := Lib.hid (check_any c)
  have hn0 : (0 : Int) ≤ (c.n : Int) := by omega
  have hn4 : (c.n : Int) ≤ 4 := by omega
  by_cases hc : code c 11 0 = 0
  · rw [if_pos hc]
    rw [hc] at HC
    unfold Cfg.cells at *
    go_enter Try.func64, Try.ntmps64
    go_wp2_with fail
    refine (HC.out _).mono ?_
    rintro e w2 ⟨rfl, hb⟩
    have x0 : w2.cell? ⟨w.heap.size, 0, none⟩ = some (.slice c.A c.n c.cap) := (hb.cell (p := ⟨w.heap.size, 0, none⟩) (by simp)).trans (by simp)
    go_wp2
    go_ret
    exact ⟨rfl, ((Below.refl _ _).alloc (Nat.le_refl _) _).trans (hb.mono (by simp))⟩
  · rw [if_neg hc]
    unfold Cfg.cells at *
    go_enter Try.func64, Try.ntmps64
    go_wp2_with fail
    refine (HC.out _).mono ?_
    rintro e w2 ⟨rfl, hb⟩
    go_wp2
    go_ret
    exact ⟨rfl, ((Below.refl _ _).alloc (Nat.le_refl _) _).trans (hb.mono (by simp))⟩
end Go.Proofs.Ytoojifhaaglljaa.Conf

namespace Go.Proofs.Ytoojifhaaglljaa.confDirs
open Go.RowKit Conf

theorem code_plain (A : Option Addr) (cap : Nat) : code (plain A 2 cap 1) 11 0 = 0 := by rfl


theorem dir_in (n : Int) (h0 : 0 ≤ n) (h7 : n ≤ 7) (w : World) :
    Calls Try.prog 28 #[.int .i64 n] w fun e w' => e = .returned (.tuple #[.int .i64 (n / 2), .int .i64 (n % 2)]) ∧ ∃ k, w' = w.drewN k := by
  have e1 : wrap64 (n.tdiv 2) = n / 2 := by rw [Int.tdiv_eq_ediv_of_nonneg h0]; exact IntWalk.wrap64_in _ ⟨by omega, by omega⟩
  have e2 : wrap64 (n.tmod 2) = n % 2 := by rw [Int.tmod_eq_emod_of_nonneg h0]; exact IntWalk.wrap64_in _ ⟨by omega, by omega⟩
  have h8 : n < 8 := by omega
  go_enter Try.func28, Try.ntmps28
  go_wp2
  go_ret2
  exact ⟨rfl, 0, rfl⟩

theorem dir_out (n : Int) (h : n < 0 ∨ 7 < n) (w : World) :
    Calls Try.prog 28 #[.int .i64 n] w fun e w' => e = .returned (.tuple #[.int .i64 (-1), .int .i64 (-1)]) ∧ ∃ k, w' = w.drewN k := by
  rcases h with h | h
  · go_enter Try.func28, Try.ntmps28
    go_wp2
    go_ret2
    exact ⟨rfl, 0, rfl⟩
  · have h8 : 8 ≤ n := by omega
    have h0 : 0 ≤ n := by omega
    go_enter Try.func28, Try.ntmps28
    go_wp2
    go_ret2
    exact ⟨rfl, 0, rfl⟩

theorem number_in (c f : Int) (h0 : 0 ≤ c) (h3 : c ≤ 3) (hf : f = 0 ∨ f = 1) (w : World) :
    Calls Try.prog 29 #[.int .i64 c, .int .i64 f] w fun e w' => e = .returned (.int .i64 (2 * c + f)) ∧ ∃ k, w' = w.drewN k := by
  have h4 : c < 4 := by omega
  rcases hf with rfl | rfl
  · go_enter Try.func29, Try.ntmps29
    go_wp2
    go_ret
    exact ⟨by simp, 0, rfl⟩
  · go_enter Try.func29, Try.ntmps29
    go_wp2
    go_ret
    exact ⟨rfl, 0, rfl⟩

theorem number_out (c f : Int) (h : c < 0 ∨ 3 < c ∨ f < 0 ∨ 1 < f) (w : World) :
    Calls Try.prog 29 #[.int .i64 c, .int .i64 f] w fun e w' => e = .returned (.int .i64 (-1)) ∧ ∃ k, w' = w.drewN k := by
  by_cases h1 : c < 0
  · go_enter Try.func29, Try.ntmps29
    go_wp2
    go_ret
    exact ⟨rfl, 0, rfl⟩
  · by_cases h2 : 3 < c
    · have h2 : 4 ≤ c := by omega
      go_enter Try.func29, Try.ntmps29
      go_wp2
      go_ret
      exact ⟨rfl, 0, rfl⟩
    · have h3 : c < 4 := by omega
      have f0 : (f != 0) = true := by simp; omega
      have f1 : (f != 1) = true := by simp; omega
      go_enter Try.func29, Try.ntmps29
      go_wp2
      go_ret
      exact ⟨rfl, 0, rfl⟩

theorem workers_plain (A : Option Addr) (cap : Nat) (w : World) :
    Calls Try.prog 64 #[.agg (plain A 2 cap 1).cells] w fun e w' => e = .returned (.int .i64 4) ∧ Below w.heap.size w w' := by
  have h := workers_any (plain A 2 cap 1) (by decide : 2 ≤ 4) w
  rw [if_pos (code_plain A cap)] at h
  exact h

set_option maxRecDepth 20000 in
set_option maxHeartbeats 1000000 in
theorem awake_any (w : World) : Calls Try.prog 30 #[] w fun e w' => e = .returned (.bool true) ∧ Below w.heap.size w w' := by
  go_enter Try.func30, Try.ntmps30
  go_wp2_with (first
    | (go_at_call 28; ((with_reducible refine (dir_in 3 (by decide) (by decide) _).mono ?_); rintro e w1 ⟨rfl, q, rfl⟩))
    | (go_at_call 65; (refine (plain_mid 2 (by decide) 1 _).mono ?_; rintro e w2 ⟨A, cap, rfl, hown, hb⟩))
    | (go_at_call 64; (refine (workers_plain A cap _).mono ?_; rintro e w3 ⟨rfl, hb3⟩)))
  go_ret
  exact ⟨rfl, (below_drewN (Below.refl _ _) q).trans (hb.trans (hb3.mono hb.size))⟩

theorem drewN_drewN (w : World) (a b : Nat) : (w.drewN a).drewN b = w.drewN (a + b) := by simp [World.drewN, Nat.add_assoc]
theorem below_aw {w w1 : World} {q : Nat} (hb : Below (w.drewN q).heap.size (w.drewN q) w1) : Below w.heap.size w w1 := (below_drewN (Below.refl _ _) q).trans hb

set_option maxRecDepth 20000 in
set_option maxHeartbeats 1000000 in
theorem walk_low_cl (n c f : Int) (hn : n < 0) (hc : c < 0) (w : World) :
    Calls Try.prog 8 #[.int .i64 n, .int .i64 c, .int .i64 f] w fun e w' => e = .returned (.bool true) ∧ Below w.heap.size w w' := by
  have D1 := Lib.hid (dir_out n (by omega))
  have N2 := Lib.hid (number_out c f (by omega))
  go_enter Try.func8, Try.ntmps8
  go_wp2_with fail
  refine (D1.out _).mono ?_
  rintro e w1 ⟨rfl, q1, rfl⟩
  go_wp2_with fail
  refine (N2.out _).mono ?_
  rintro e w1 ⟨rfl, q2, rfl⟩
  go_wp2_with fail
  refine (awake_any _).mono ?_
  rintro e w1 ⟨rfl, hb⟩
  go_wp2
  go_ret
  exact ⟨rfl, below_aw hb⟩

set_option maxRecDepth 20000 in
set_option maxHeartbeats 1000000 in
theorem walk_low_ch (n c f : Int) (hn : n < 0) (hc0 : 0 ≤ c) (hc : 3 < c) (w : World) :
    Calls Try.prog 8 #[.int .i64 n, .int .i64 c, .int .i64 f] w fun e w' => e = .returned (.bool true) ∧ Below w.heap.size w w' := by
  have D1 := Lib.hid (dir_out n (by omega))
  have N2 := Lib.hid (number_out c f (by omega))
  go_enter Try.func8, Try.ntmps8
  go_wp2_with fail
  refine (D1.out _).mono ?_
  rintro e w1 ⟨rfl, q1, rfl⟩
  go_wp2_with fail
  refine (N2.out _).mono ?_
  rintro e w1 ⟨rfl, q2, rfl⟩
  go_wp2_with fail
  refine (awake_any _).mono ?_
  rintro e w1 ⟨rfl, hb⟩
  go_wp2
  go_ret
  exact ⟨rfl, below_aw hb⟩

set_option maxRecDepth 20000 in
set_option maxHeartbeats 1000000 in
theorem walk_low_fl (n c f : Int) (hn : n < 0) (hc0 : 0 ≤ c) (hc3 : c ≤ 3) (hf : f < 0) (w : World) :
    Calls Try.prog 8 #[.int .i64 n, .int .i64 c, .int .i64 f] w fun e w' => e = .returned (.bool true) ∧ Below w.heap.size w w' := by
  have D1 := Lib.hid (dir_out n (by omega))
  have N2 := Lib.hid (number_out c f (by omega))
  go_enter Try.func8, Try.ntmps8
  go_wp2_with fail
  refine (D1.out _).mono ?_
  rintro e w1 ⟨rfl, q1, rfl⟩
  go_wp2_with fail
  refine (N2.out _).mono ?_
  rintro e w1 ⟨rfl, q2, rfl⟩
  go_wp2_with fail
  refine (awake_any _).mono ?_
  rintro e w1 ⟨rfl, hb⟩
  go_wp2
  go_ret
  exact ⟨rfl, below_aw hb⟩

set_option maxRecDepth 20000 in
set_option maxHeartbeats 1000000 in
theorem walk_low_fh (n c f : Int) (hn : n < 0) (hc0 : 0 ≤ c) (hc3 : c ≤ 3) (hf0 : 0 ≤ f) (hf : 1 < f) (w : World) :
    Calls Try.prog 8 #[.int .i64 n, .int .i64 c, .int .i64 f] w fun e w' => e = .returned (.bool true) ∧ Below w.heap.size w w' := by
  have D1 := Lib.hid (dir_out n (by omega))
  have N2 := Lib.hid (number_out c f (by omega))
  go_enter Try.func8, Try.ntmps8
  go_wp2_with fail
  refine (D1.out _).mono ?_
  rintro e w1 ⟨rfl, q1, rfl⟩
  go_wp2_with fail
  refine (N2.out _).mono ?_
  rintro e w1 ⟨rfl, q2, rfl⟩
  go_wp2_with fail
  refine (awake_any _).mono ?_
  rintro e w1 ⟨rfl, hb⟩
  go_wp2
  go_ret
  exact ⟨rfl, below_aw hb⟩

set_option maxRecDepth 20000 in
set_option maxHeartbeats 1000000 in
theorem walk_low_in (n c f : Int) (hn : n < 0) (hc0 : 0 ≤ c) (hc3 : c ≤ 3) (hf0 : 0 ≤ f) (hf1 : f ≤ 1) (w : World) :
    Calls Try.prog 8 #[.int .i64 n, .int .i64 c, .int .i64 f] w fun e w' => e = .returned (.bool true) ∧ Below w.heap.size w w' := by
  have D1 := Lib.hid (dir_out n (by omega))
  have hd : (2 * c + f) / 2 = c ∧ (2 * c + f) % 2 = f := by omega
  have N2 := Lib.hid (number_in c f hc0 hc3 (by omega))
  have d2 := dir_in (2 * c + f) (by omega) (by omega)
  rw [hd.1, hd.2] at d2
  have D2 := Lib.hid d2
  clear hd d2
  go_enter Try.func8, Try.ntmps8
  go_wp2_with fail
  refine (D1.out _).mono ?_
  rintro e w1 ⟨rfl, q1, rfl⟩
  go_wp2_with fail
  refine (N2.out _).mono ?_
  rintro e w1 ⟨rfl, q2, rfl⟩
  go_wp2_with fail
  refine (D2.out _).mono ?_
  rintro e w1 ⟨rfl, q4, rfl⟩
  go_wp2_with fail
  refine (awake_any _).mono ?_
  rintro e w1 ⟨rfl, hb⟩
  go_wp2
  go_ret
  exact ⟨rfl, below_aw hb⟩

set_option maxRecDepth 20000 in
set_option maxHeartbeats 1000000 in
theorem walk_in_cl (n c f : Int) (h0 : 0 ≤ n) (h7 : n ≤ 7) (hc : c < 0) (w : World) :
    Calls Try.prog 8 #[.int .i64 n, .int .i64 c, .int .i64 f] w fun e w' => e = .returned (.bool true) ∧ Below w.heap.size w w' := by
  have e1 : wrap64 (n.tdiv 2) = n / 2 := by rw [Int.tdiv_eq_ediv_of_nonneg h0]; exact IntWalk.wrap64_in _ ⟨by omega, by omega⟩
  have e2 : wrap64 (n.tmod 2) = n % 2 := by rw [Int.tmod_eq_emod_of_nonneg h0]; exact IntWalk.wrap64_in _ ⟨by omega, by omega⟩
  have hn : 2 * (n / 2) + n % 2 = n := by omega
  have n1 := number_in (n / 2) (n % 2) (by omega) (by omega) (by omega)
  rw [hn] at n1
  have N1 := Lib.hid n1
  have D1 := Lib.hid (dir_in n h0 h7)
  clear hn n1
  have N2 := Lib.hid (number_out c f (by omega))
  go_enter Try.func8, Try.ntmps8
  go_wp2_with fail
  refine (D1.out _).mono ?_
  rintro e w1 ⟨rfl, q1, rfl⟩
  go_wp2_with fail
  refine (N2.out _).mono ?_
  rintro e w1 ⟨rfl, q2, rfl⟩
  go_wp2_with fail
  refine (N1.out _).mono ?_
  rintro e w1 ⟨rfl, q3, rfl⟩
  go_wp2_with fail
  refine (awake_any _).mono ?_
  rintro e w1 ⟨rfl, hb⟩
  go_wp2
  go_ret
  exact ⟨rfl, below_aw hb⟩

set_option maxRecDepth 20000 in
set_option maxHeartbeats 1000000 in
theorem walk_in_ch (n c f : Int) (h0 : 0 ≤ n) (h7 : n ≤ 7) (hc0 : 0 ≤ c) (hc : 3 < c) (w : World) :
    Calls Try.prog 8 #[.int .i64 n, .int .i64 c, .int .i64 f] w fun e w' => e = .returned (.bool true) ∧ Below w.heap.size w w' := by
  have e1 : wrap64 (n.tdiv 2) = n / 2 := by rw [Int.tdiv_eq_ediv_of_nonneg h0]; exact IntWalk.wrap64_in _ ⟨by omega, by omega⟩
  have e2 : wrap64 (n.tmod 2) = n % 2 := by rw [Int.tmod_eq_emod_of_nonneg h0]; exact IntWalk.wrap64_in _ ⟨by omega, by omega⟩
  have hn : 2 * (n / 2) + n % 2 = n := by omega
  have n1 := number_in (n / 2) (n % 2) (by omega) (by omega) (by omega)
  rw [hn] at n1
  have N1 := Lib.hid n1
  have D1 := Lib.hid (dir_in n h0 h7)
  clear hn n1
  have N2 := Lib.hid (number_out c f (by omega))
  go_enter Try.func8, Try.ntmps8
  go_wp2_with fail
  refine (D1.out _).mono ?_
  rintro e w1 ⟨rfl, q1, rfl⟩
  go_wp2_with fail
  refine (N2.out _).mono ?_
  rintro e w1 ⟨rfl, q2, rfl⟩
  go_wp2_with fail
  refine (N1.out _).mono ?_
  rintro e w1 ⟨rfl, q3, rfl⟩
  go_wp2_with fail
  refine (awake_any _).mono ?_
  rintro e w1 ⟨rfl, hb⟩
  go_wp2
  go_ret
  exact ⟨rfl, below_aw hb⟩

set_option maxRecDepth 20000 in
set_option maxHeartbeats 1000000 in
theorem walk_in_fl (n c f : Int) (h0 : 0 ≤ n) (h7 : n ≤ 7) (hc0 : 0 ≤ c) (hc3 : c ≤ 3) (hf : f < 0) (w : World) :
    Calls Try.prog 8 #[.int .i64 n, .int .i64 c, .int .i64 f] w fun e w' => e = .returned (.bool true) ∧ Below w.heap.size w w' := by
  have e1 : wrap64 (n.tdiv 2) = n / 2 := by rw [Int.tdiv_eq_ediv_of_nonneg h0]; exact IntWalk.wrap64_in _ ⟨by omega, by omega⟩
  have e2 : wrap64 (n.tmod 2) = n % 2 := by rw [Int.tmod_eq_emod_of_nonneg h0]; exact IntWalk.wrap64_in _ ⟨by omega, by omega⟩
  have hn : 2 * (n / 2) + n % 2 = n := by omega
  have n1 := number_in (n / 2) (n % 2) (by omega) (by omega) (by omega)
  rw [hn] at n1
  have N1 := Lib.hid n1
  have D1 := Lib.hid (dir_in n h0 h7)
  clear hn n1
  have N2 := Lib.hid (number_out c f (by omega))
  go_enter Try.func8, Try.ntmps8
  go_wp2_with fail
  refine (D1.out _).mono ?_
  rintro e w1 ⟨rfl, q1, rfl⟩
  go_wp2_with fail
  refine (N2.out _).mono ?_
  rintro e w1 ⟨rfl, q2, rfl⟩
  go_wp2_with fail
  refine (N1.out _).mono ?_
  rintro e w1 ⟨rfl, q3, rfl⟩
  go_wp2_with fail
  refine (awake_any _).mono ?_
  rintro e w1 ⟨rfl, hb⟩
  go_wp2
  go_ret
  exact ⟨rfl, below_aw hb⟩

set_option maxRecDepth 20000 in
set_option maxHeartbeats 1000000 in
theorem walk_in_fh (n c f : Int) (h0 : 0 ≤ n) (h7 : n ≤ 7) (hc0 : 0 ≤ c) (hc3 : c ≤ 3) (hf0 : 0 ≤ f) (hf : 1 < f) (w : World) :
    Calls Try.prog 8 #[.int .i64 n, .int .i64 c, .int .i64 f] w fun e w' => e = .returned (.bool true) ∧ Below w.heap.size w w' := by
  have e1 : wrap64 (n.tdiv 2) = n / 2 := by rw [Int.tdiv_eq_ediv_of_nonneg h0]; exact IntWalk.wrap64_in _ ⟨by omega, by omega⟩
  have e2 : wrap64 (n.tmod 2) = n % 2 := by rw [Int.tmod_eq_emod_of_nonneg h0]; exact IntWalk.wrap64_in _ ⟨by omega, by omega⟩
  have hn : 2 * (n / 2) + n % 2 = n := by omega
  have n1 := number_in (n / 2) (n % 2) (by omega) (by omega) (by omega)
  rw [hn] at n1
  have N1 := Lib.hid n1
  have D1 := Lib.hid (dir_in n h0 h7)
  clear hn n1
  have N2 := Lib.hid (number_out c f (by omega))
  go_enter Try.func8, Try.ntmps8
  go_wp2_with fail
  refine (D1.out _).mono ?_
  rintro e w1 ⟨rfl, q1, rfl⟩
  go_wp2_with fail
  refine (N2.out _).mono ?_
  rintro e w1 ⟨rfl, q2, rfl⟩
  go_wp2_with fail
  refine (N1.out _).mono ?_
  rintro e w1 ⟨rfl, q3, rfl⟩
  go_wp2_with fail
  refine (awake_any _).mono ?_
  rintro e w1 ⟨rfl, hb⟩
  go_wp2
  go_ret
  exact ⟨rfl, below_aw hb⟩

set_option maxRecDepth 20000 in
set_option maxHeartbeats 1000000 in
theorem walk_in_in (n c f : Int) (h0 : 0 ≤ n) (h7 : n ≤ 7) (hc0 : 0 ≤ c) (hc3 : c ≤ 3) (hf0 : 0 ≤ f) (hf1 : f ≤ 1) (w : World) :
    Calls Try.prog 8 #[.int .i64 n, .int .i64 c, .int .i64 f] w fun e w' => e = .returned (.bool true) ∧ Below w.heap.size w w' := by
  have e1 : wrap64 (n.tdiv 2) = n / 2 := by rw [Int.tdiv_eq_ediv_of_nonneg h0]; exact IntWalk.wrap64_in _ ⟨by omega, by omega⟩
  have e2 : wrap64 (n.tmod 2) = n % 2 := by rw [Int.tmod_eq_emod_of_nonneg h0]; exact IntWalk.wrap64_in _ ⟨by omega, by omega⟩
  have hn : 2 * (n / 2) + n % 2 = n := by omega
  have n1 := number_in (n / 2) (n % 2) (by omega) (by omega) (by omega)
  rw [hn] at n1
  have N1 := Lib.hid n1
  have D1 := Lib.hid (dir_in n h0 h7)
  clear hn n1
  have hd : (2 * c + f) / 2 = c ∧ (2 * c + f) % 2 = f := by omega
  have N2 := Lib.hid (number_in c f hc0 hc3 (by omega))
  have d2 := dir_in (2 * c + f) (by omega) (by omega)
  rw [hd.1, hd.2] at d2
  have D2 := Lib.hid d2
  clear hd d2
  go_enter Try.func8, Try.ntmps8
  go_wp2_with fail
  refine (D1.out _).mono ?_
  rintro e w1 ⟨rfl, q1, rfl⟩
  go_wp2_with fail
  refine (N2.out _).mono ?_
  rintro e w1 ⟨rfl, q2, rfl⟩
  go_wp2_with fail
  refine (N1.out _).mono ?_
  rintro e w1 ⟨rfl, q3, rfl⟩
  go_wp2_with fail
  refine (D2.out _).mono ?_
  rintro e w1 ⟨rfl, q4, rfl⟩
  go_wp2_with fail
  refine (awake_any _).mono ?_
  rintro e w1 ⟨rfl, hb⟩
  go_wp2
  go_ret
  exact ⟨rfl, below_aw hb⟩

set_option maxRecDepth 20000 in
set_option maxHeartbeats 1000000 in
theorem walk_high_cl (n c f : Int) (h0 : 0 ≤ n) (hn : 7 < n) (hc : c < 0) (w : World) :
    Calls Try.prog 8 #[.int .i64 n, .int .i64 c, .int .i64 f] w fun e w' => e = .returned (.bool true) ∧ Below w.heap.size w w' := by
  have D1 := Lib.hid (dir_out n (by omega))
  have N2 := Lib.hid (number_out c f (by omega))
  go_enter Try.func8, Try.ntmps8
  go_wp2_with fail
  refine (D1.out _).mono ?_
  rintro e w1 ⟨rfl, q1, rfl⟩
  go_wp2_with fail
  refine (N2.out _).mono ?_
  rintro e w1 ⟨rfl, q2, rfl⟩
  go_wp2_with fail
  refine (awake_any _).mono ?_
  rintro e w1 ⟨rfl, hb⟩
  go_wp2
  go_ret
  exact ⟨rfl, below_aw hb⟩

set_option maxRecDepth 20000 in
set_option maxHeartbeats 1000000 in
theorem walk_high_ch (n c f : Int) (h0 : 0 ≤ n) (hn : 7 < n) (hc0 : 0 ≤ c) (hc : 3 < c) (w : World) :
    Calls Try.prog 8 #[.int .i64 n, .int .i64 c, .int .i64 f] w fun e w' => e = .returned (.bool true) ∧ Below w.heap.size w w' := by
  have D1 := Lib.hid (dir_out n (by omega))
  have N2 := Lib.hid (number_out c f (by omega))
  go_enter Try.func8, Try.ntmps8
  go_wp2_with fail
  refine (D1.out _).mono ?_
  rintro e w1 ⟨rfl, q1, rfl⟩
  go_wp2_with fail
  refine (N2.out _).mono ?_
  rintro e w1 ⟨rfl, q2, rfl⟩
  go_wp2_with fail
  refine (awake_any _).mono ?_
  rintro e w1 ⟨rfl, hb⟩
  go_wp2
  go_ret
  exact ⟨rfl, below_aw hb⟩

set_option maxRecDepth 20000 in
set_option maxHeartbeats 1000000 in
theorem walk_high_fl (n c f : Int) (h0 : 0 ≤ n) (hn : 7 < n) (hc0 : 0 ≤ c) (hc3 : c ≤ 3) (hf : f < 0) (w : World) :
    Calls Try.prog 8 #[.int .i64 n, .int .i64 c, .int .i64 f] w fun e w' => e = .returned (.bool true) ∧ Below w.heap.size w w' := by
  have D1 := Lib.hid (dir_out n (by omega))
  have N2 := Lib.hid (number_out c f (by omega))
  go_enter Try.func8, Try.ntmps8
  go_wp2_with fail
  refine (D1.out _).mono ?_
  rintro e w1 ⟨rfl, q1, rfl⟩
  go_wp2_with fail
  refine (N2.out _).mono ?_
  rintro e w1 ⟨rfl, q2, rfl⟩
  go_wp2_with fail
  refine (awake_any _).mono ?_
  rintro e w1 ⟨rfl, hb⟩
  go_wp2
  go_ret
  exact ⟨rfl, below_aw hb⟩

set_option maxRecDepth 20000 in
set_option maxHeartbeats 1000000 in
theorem walk_high_fh (n c f : Int) (h0 : 0 ≤ n) (hn : 7 < n) (hc0 : 0 ≤ c) (hc3 : c ≤ 3) (hf0 : 0 ≤ f) (hf : 1 < f) (w : World) :
    Calls Try.prog 8 #[.int .i64 n, .int .i64 c, .int .i64 f] w fun e w' => e = .returned (.bool true) ∧ Below w.heap.size w w' := by
  have D1 := Lib.hid (dir_out n (by omega))
  have N2 := Lib.hid (number_out c f (by omega))
  go_enter Try.func8, Try.ntmps8
  go_wp2_with fail
  refine (D1.out _).mono ?_
  rintro e w1 ⟨rfl, q1, rfl⟩
  go_wp2_with fail
  refine (N2.out _).mono ?_
  rintro e w1 ⟨rfl, q2, rfl⟩
  go_wp2_with fail
  refine (awake_any _).mono ?_
  rintro e w1 ⟨rfl, hb⟩
  go_wp2
  go_ret
  exact ⟨rfl, below_aw hb⟩

set_option maxRecDepth 20000 in
set_option maxHeartbeats 1000000 in
theorem walk_high_in (n c f : Int) (h0 : 0 ≤ n) (hn : 7 < n) (hc0 : 0 ≤ c) (hc3 : c ≤ 3) (hf0 : 0 ≤ f) (hf1 : f ≤ 1) (w : World) :
    Calls Try.prog 8 #[.int .i64 n, .int .i64 c, .int .i64 f] w fun e w' => e = .returned (.bool true) ∧ Below w.heap.size w w' := by
  have D1 := Lib.hid (dir_out n (by omega))
  have hd : (2 * c + f) / 2 = c ∧ (2 * c + f) % 2 = f := by omega
  have N2 := Lib.hid (number_in c f hc0 hc3 (by omega))
  have d2 := dir_in (2 * c + f) (by omega) (by omega)
  rw [hd.1, hd.2] at d2
  have D2 := Lib.hid d2
  clear hd d2
  go_enter Try.func8, Try.ntmps8
  go_wp2_with fail
  refine (D1.out _).mono ?_
  rintro e w1 ⟨rfl, q1, rfl⟩
  go_wp2_with fail
  refine (N2.out _).mono ?_
  rintro e w1 ⟨rfl, q2, rfl⟩
  go_wp2_with fail
  refine (D2.out _).mono ?_
  rintro e w1 ⟨rfl, q4, rfl⟩
  go_wp2_with fail
  refine (awake_any _).mono ?_
  rintro e w1 ⟨rfl, hb⟩
  go_wp2
  go_ret
  exact ⟨rfl, below_aw hb⟩

theorem walk (n : Int) (_ : (Lit.int .i64 n).wf = true) (c : Int) (_ : (Lit.int .i64 c).wf = true) (f : Int) (_ : (Lit.int .i64 f).wf = true) (w : World) :
    Calls Try.prog 8 #[.int .i64 n, .int .i64 c, .int .i64 f] w fun e w' => e = .returned (.bool true) ∧ Below w.heap.size w w' := by
  by_cases n0 : n < 0
  · by_cases c0 : c < 0
    · exact walk_low_cl n c f n0 c0 w
    · by_cases c3 : 3 < c
      · exact walk_low_ch n c f n0 (by omega) c3 w
      · by_cases f0 : f < 0
        · exact walk_low_fl n c f n0 (by omega) (by omega) f0 w
        · by_cases f1 : 1 < f
          · exact walk_low_fh n c f n0 (by omega) (by omega) (by omega) f1 w
          · exact walk_low_in n c f n0 (by omega) (by omega) (by omega) (by omega) w
  · by_cases n7 : 7 < n
    · by_cases c0 : c < 0
      · exact walk_high_cl n c f (by omega) n7 c0 w
      · by_cases c3 : 3 < c
        · exact walk_high_ch n c f (by omega) n7 (by omega) c3 w
        · by_cases f0 : f < 0
          · exact walk_high_fl n c f (by omega) n7 (by omega) (by omega) f0 w
          · by_cases f1 : 1 < f
            · exact walk_high_fh n c f (by omega) n7 (by omega) (by omega) (by omega) f1 w
            · exact walk_high_in n c f (by omega) n7 (by omega) (by omega) (by omega) (by omega) w
    · by_cases c0 : c < 0
      · exact walk_in_cl n c f (by omega) (by omega) c0 w
      · by_cases c3 : 3 < c
        · exact walk_in_ch n c f (by omega) (by omega) (by omega) c3 w
        · by_cases f0 : f < 0
          · exact walk_in_fl n c f (by omega) (by omega) (by omega) (by omega) f0 w
          · by_cases f1 : 1 < f
            · exact walk_in_fh n c f (by omega) (by omega) (by omega) (by omega) (by omega) f1 w
            · exact walk_in_in n c f (by omega) (by omega) (by omega) (by omega) (by omega) (by omega) w
end Go.Proofs.Ytoojifhaaglljaa.confDirs
