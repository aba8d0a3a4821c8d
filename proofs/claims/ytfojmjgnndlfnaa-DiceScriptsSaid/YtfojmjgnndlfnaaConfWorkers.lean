/- conf.Workers. -/
import Derived.Test.YtfojmjgnndlfnaaConfCheck
namespace Go.Proofs.Ytfojmjgnndlfnaa.Conf
open Go.RowKit

set_option maxRecDepth 20000 in
set_option maxHeartbeats 1000000 in
theorem workers_any (c : Cfg) (hn : c.n ≤ 4) (w : World) :
    Calls Try.prog 22 #[.agg c.cells] w fun e w' => e = .returned (.int .i64 (if code c 11 0 = 0 then 2 * (c.n : Int) else 0)) ∧ Below w.heap.size w w' := by
  have HC := Lib.hid (check_any c)
  have hn0 : (0 : Int) ≤ (c.n : Int) := by omega
  have hn4 : (c.n : Int) ≤ 4 := by omega
  by_cases hc : code c 11 0 = 0
  · rw [if_pos hc]
    rw [hc] at HC
    unfold Cfg.cells at *
    go_enter Try.func22, Try.ntmps22
    go_wp2_with fail
    refine (HC.out _).mono ?_
    rintro e w2 ⟨rfl, hb⟩
    have x0 : w2.cell? ⟨w.heap.size, 0, none⟩ = some (.slice c.A c.n c.cap) := (hb.cell (p := ⟨w.heap.size, 0, none⟩) (by simp)).trans (by simp)
    go_wp2
    go_ret
    exact ⟨rfl, ((Below.refl _ _).alloc (Nat.le_refl _) _).trans (hb.mono (by simp))⟩
  · rw [if_neg hc]
    unfold Cfg.cells at *
    go_enter Try.func22, Try.ntmps22
    go_wp2_with fail
    refine (HC.out _).mono ?_
    rintro e w2 ⟨rfl, hb⟩
    go_wp2
    go_ret
    exact ⟨rfl, ((Below.refl _ _).alloc (Nat.le_refl _) _).trans (hb.mono (by simp))⟩
set_option maxRecDepth 20000 in
set_option maxHeartbeats 1000000 in
theorem workers_20 (c : Cfg) (hn : c.n ≤ 20) (w : World) :
    Calls Try.prog 22 #[.agg c.cells] w fun e w' => e = .returned (.int .i64 (if code c 11 0 = 0 then 2 * (c.n : Int) else 0)) ∧ Below w.heap.size w w' := by
  have HC := Lib.hid (check_any c)
  have hn0 : (0 : Int) ≤ (c.n : Int) := by omega
  have hn4 : (c.n : Int) ≤ 20 := by omega
  by_cases hc : code c 11 0 = 0
  · rw [if_pos hc]
    rw [hc] at HC
    unfold Cfg.cells at *
    go_enter Try.func22, Try.ntmps22
    go_wp2_with fail
    refine (HC.out _).mono ?_
    rintro e w2 ⟨rfl, hb⟩
    have x0 : w2.cell? ⟨w.heap.size, 0, none⟩ = some (.slice c.A c.n c.cap) := (hb.cell (p := ⟨w.heap.size, 0, none⟩) (by simp)).trans (by simp)
    go_wp2
    go_ret
    exact ⟨rfl, ((Below.refl _ _).alloc (Nat.le_refl _) _).trans (hb.mono (by simp))⟩
  · rw [if_neg hc]
    unfold Cfg.cells at *
    go_enter Try.func22, Try.ntmps22
    go_wp2_with fail
    refine (HC.out _).mono ?_
    rintro e w2 ⟨rfl, hb⟩
    go_wp2
    go_ret
    exact ⟨rfl, ((Below.refl _ _).alloc (Nat.le_refl _) _).trans (hb.mono (by simp))⟩
end Go.Proofs.Ytfojmjgnndlfnaa.Conf
