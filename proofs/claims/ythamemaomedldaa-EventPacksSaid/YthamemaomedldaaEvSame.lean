/- The page's Same of events. -/
import Derived.Test.YthamemaomedldaaEvRows2
import Derived.Deep.QuietTactic
import Derived.BigQuiet
namespace Go.Proofs.Ythamemaomedldaa.Ev
open Go Go.RowKit

theorem eneq_run (m : E8) (W : World) : (binOp .neq 30 (.agg #[.int .i64 m.k, .int .u64 m.h, .int .i64 m.c, .int .i64 m.f, .int .u64 m.s, .int .u64 m.t, .string m.d, .string m.a]) (.agg #[.int .i64 m.k, .int .u64 m.h, .int .i64 m.c, .int .i64 m.f, .int .u64 m.s, .int .u64 m.t, .string m.d, .string m.a])).run Try.prog W = .ok (.bool false) W := by
  go_simp

set_option maxRecDepth 20000 in
set_option maxHeartbeats 1000000 in
theorem same_evs (A B : Option Addr) (n c d : Nat) (ms : List E8) (w : World) (hn : n ≤ 9223372036854775807) (ha : Rd w A n ms) (hb : Rd w B n ms) :
    Calls Try.prog 11 #[.slice A n c, .slice B n d] w fun e w' => e = .returned (.bool true) ∧ Below w.heap.size w w' := by
  go_enter Try.func11, Try.ntmps11
  go_wp2
  go_loopw [5] (fun i wr => ∃ k : Nat, i = .int .i64 (k : Int) ∧ k ≤ n ∧ ∃ q, wr = w.drewN q) (fun i _ => n - (intOf i).toNat)
  case atStart => exact ⟨0, rfl, Nat.zero_le _, 0, rfl⟩
  case round =>
    obtain ⟨k, rfl, hk, q, rfl⟩ := hrel
    by_cases hlt : k < n
    · obtain ⟨b, off, rfl, _, hc⟩ := ha.at (Below.refl _ w) (by omega)
      obtain ⟨b', off', rfl, _, hc'⟩ := hb.at (Below.refl _ w) (by omega)
      have hck := hc k hlt
      have hck' := hc' k hlt
      clear hc hc' ha hb
      generalize ms.getD k e0 = m at hck hck'
      obtain ⟨c0, c1, c2, c3, c4, c5, c6, c7⟩ := hck
      obtain ⟨d0, d1, d2, d3, d4, d5, d6, d7⟩ := hck'
      have hne := eneq_run m
      have hi0 : (0 : Int) ≤ (k : Int) := by omega
      have hi1 : (k : Int) < (n : Int) := by omega
      go_wp2
      go_quiet (fail)
      go_wp2
      exact ⟨⟨k + 1, by go_num, by omega, _, rfl⟩, by simp [intOf]; omega⟩
    · obtain rfl : k = n := by omega
      go_wp2
      go_ret
      exact ⟨rfl, below_drewN (Below.refl _ _) _⟩
end Go.Proofs.Ythamemaomedldaa.Ev
