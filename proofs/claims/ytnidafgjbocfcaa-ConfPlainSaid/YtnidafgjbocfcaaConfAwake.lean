/- conf.Workers, and the page's example. -/
import Derived.Test.YtnidafgjbocfcaaConfPlainRow
namespace Go.Proofs.Ytnidafgjbocfcaa.Conf
open Go.RowKit

set_option maxRecDepth 20000 in
set_option maxHeartbeats 1000000 in
theorem workers_any (c : Cfg) (hn : c.n ≤ 4) (w : World) :
    Calls Try.prog 59 #[.agg c.cells] w fun e w' => e = .returned (.int .i64 (if code c 11 0 = 0 then 2 * (c.n : Int) else 0)) ∧ Below w.heap.size w w' := by
  have HC := Lib.hid (check_any c)
  have hn0 : (0 : Int) ≤ (c.n : Int) := by omega
  have hn4 : (c.n : Int) ≤ 4 := by omega
  by_cases hc : code c 11 0 = 0
  · rw [if_pos hc]
    rw [hc] at HC
    unfold Cfg.cells at *
    go_enter Try.func59, Try.ntmps59
    go_wp2_with fail
    refine (HC.out _).mono ?_
    rintro e w2 ⟨rfl, hb⟩
    have x0 : w2.cell? ⟨w.heap.size, 0, none⟩ = some (.slice c.A c.n c.cap) := (hb.cell (p := ⟨w.heap.size, 0, none⟩) (by simp)).trans (by simp)
    go_wp2
    go_ret
    exact ⟨rfl, ((Below.refl _ _).alloc (Nat.le_refl _) _).trans (hb.mono (by simp))⟩
  · rw [if_neg hc]
    unfold Cfg.cells at *
    go_enter Try.func59, Try.ntmps59
    go_wp2_with fail
    refine (HC.out _).mono ?_
    rintro e w2 ⟨rfl, hb⟩
    go_wp2
    go_ret
    exact ⟨rfl, ((Below.refl _ _).alloc (Nat.le_refl _) _).trans (hb.mono (by simp))⟩
theorem code_plain (A : Option Addr) (cap : Nat) : code (plain A 2 cap 1) 11 0 = 0 := by rfl


theorem dir_in (n : Int) (h0 : 0 ≤ n) (h7 : n ≤ 7) (w : World) :
    Calls Try.prog 58 #[.int .i64 n] w fun e w' => e = .returned (.tuple #[.int .i64 (n / 2), .int .i64 (n % 2)]) ∧ ∃ k, w' = w.drewN k := by
  have e1 : wrap64 (n.tdiv 2) = n / 2 := by rw [Int.tdiv_eq_ediv_of_nonneg h0]; exact IntWalk.wrap64_in _ ⟨by omega, by omega⟩
  have e2 : wrap64 (n.tmod 2) = n % 2 := by rw [Int.tmod_eq_emod_of_nonneg h0]; exact IntWalk.wrap64_in _ ⟨by omega, by omega⟩
  have h8 : n < 8 := by omega
  go_enter Try.func58, Try.ntmps58
  go_wp2
  go_ret2
  exact ⟨rfl, 0, rfl⟩

theorem workers_plain (A : Option Addr) (cap : Nat) (w : World) :
    Calls Try.prog 59 #[.agg (plain A 2 cap 1).cells] w fun e w' => e = .returned (.int .i64 4) ∧ Below w.heap.size w w' := by
  have h := workers_any (plain A 2 cap 1) (by decide : 2 ≤ 4) w
  rw [if_pos (code_plain A cap)] at h
  exact h

set_option maxRecDepth 20000 in
set_option maxHeartbeats 1000000 in
theorem awake_any (w : World) : Calls Try.prog 26 #[] w fun e w' => e = .returned (.bool true) ∧ Below w.heap.size w w' := by
  go_enter Try.func26, Try.ntmps26
  go_wp2_with (first
    | (go_at_call 58; ((with_reducible refine (dir_in 3 (by decide) (by decide) _).mono ?_); rintro e w1 ⟨rfl, q, rfl⟩))
    | (go_at_call 27; (refine (plain_mid 2 (by decide) 1 _).mono ?_; rintro e w2 ⟨A, cap, rfl, hown, hb⟩))
    | (go_at_call 59; (refine (workers_plain A cap _).mono ?_; rintro e w3 ⟨rfl, hb3⟩)))
  go_ret
  exact ⟨rfl, (below_drewN (Below.refl _ _) q).trans (hb.trans (hb3.mono hb.size))⟩

end Go.Proofs.Ytnidafgjbocfcaa.Conf
