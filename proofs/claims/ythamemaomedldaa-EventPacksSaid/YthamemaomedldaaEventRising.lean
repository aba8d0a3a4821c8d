/- Whether heights rise. -/
import Derived.Test.YthamemaomedldaaEventRows
import Derived.LoopTactic
import Derived.Deep.QuietTactic
namespace Go.Proofs.Ythamemaomedldaa.Ev
open Go Go.RowKit

/-- Do the first n heights rise? -/
def up (ms : List E8) : Nat → Bool
  | 0 => true
  | n + 1 => up ms n && (n == 0 || decide ((ms.getD (n - 1) e0).h ≤ (ms.getD n e0).h))

theorem up_one (ms : List E8) : up ms 1 = true := rfl
theorem up_step (ms : List E8) (i p : Nat) (hp : p + 1 = i) (a b : E8) (ha : ms.getD i e0 = a) (hb : ms.getD p e0 = b) : up ms (i + 1) = (up ms i && decide (b.h ≤ a.h)) := by
  subst hp ha hb
  rw [up]
  simp
theorem up_false {ms : List E8} {n : Nat} (h : up ms n = false) : ∀ m, n ≤ m → up ms m = false
  | 0, hm => by rw [show n = 0 from by omega] at h; cases h
  | m + 1, hm => by
    by_cases he : n = m + 1
    · subst he; exact h
    · rw [up, up_false h m (by omega)]; rfl

set_option maxHeartbeats 1000000 in
theorem rising_any (A : Option Addr) (len cap : Nat) (ms : List E8) (w : World) (hr : Rd w A len ms) (hlen : len ≤ 1000000) :
    Calls Try.prog 13 #[.slice A len cap] w fun e w' => e = .returned (.bool (up ms len)) ∧ Below w.heap.size w w' := by
  go_enter Try.func13, Try.ntmps13
  go_wp2
  go_loopw [3] (fun i wr => ∃ k : Nat, i = .int .i64 (k : Int) ∧ 1 ≤ k ∧ (k = 1 ∨ k ≤ len) ∧ Hid (up ms k = true) ∧ ∃ q, wr = w.drewN q) (fun i _ => len - (intOf i).toNat)
  case atStart => exact ⟨1, rfl, Nat.le_refl _, .inl rfl, Lib.hid rfl, 0, rfl⟩
  case round =>
    obtain ⟨k, rfl, hk1, hk2, hu, q, rfl⟩ := hrel
    by_cases hlt : k < len
    · obtain ⟨p, rfl⟩ : ∃ p, k = p + 1 := ⟨k - 1, by omega⟩
      obtain ⟨b, off, rfl, _, hc⟩ := hr.at (Below.refl _ w) (by omega)
      have ha := hc (p + 1) hlt
      have hb := hc p (by omega)
      clear hc hr
      have HU := Lib.hid (up_step ms (p + 1) p rfl _ _ rfl rfl)
      generalize hgi : p + 1 = i at *
      have e1 : (i : Int) - 1 = (p : Int) := by omega
      generalize ms.getD i e0 = x at ha HU
      generalize ms.getD p e0 = y at hb HU
      have a1 := ha.2.1
      have b1 := hb.2.1
      clear ha hb
      have hi0 : (0 : Int) ≤ (i : Int) := by omega
      have hi1 : (i : Int) < (len : Int) := by omega
      have hp0 : (0 : Int) ≤ (p : Int) := by omega
      have hp1 : (p : Int) < (len : Int) := by omega
      have HG := Lib.hid hgi
      clear hgi
      by_cases hx : x.h < y.h
      · go_wp2
        go_quiet (fail)
        go_wp2
        go_ret
        refine ⟨?_, below_drewN (below_drewN (Below.refl _ _) _) _⟩
        rw [up_false (n := i + 1) (by rw [HU.out, hu.out]; simp; omega) len (by omega)]
        try rfl
      · have hx' : y.h ≤ x.h := by omega
        go_wp2
        go_quiet (fail)
        go_wp2
        exact ⟨⟨i + 1, by go_num, by omega, .inr (by omega), Lib.hid (by rw [HU.out, hu.out]; simpa using hx'), _, rfl⟩, by simp [intOf]; omega⟩
    · go_wp2
      go_ret
      refine ⟨?_, below_drewN (Below.refl _ _) _⟩
      by_cases h0 : len = 0
      · subst h0; rfl
      · obtain rfl : k = len := by omega
        rw [hu.out]
        try rfl

theorem word_ack (w : World) : Calls Try.prog 14 #[.int .i64 3] w fun e w' => e = .returned (.string ⟨#[97, 99, 107, 101, 100]⟩) ∧ w' = w := by
  go_enter Try.func14, Try.ntmps14
  go_wp2
  go_ret
  exact ⟨rfl, rfl⟩
end Go.Proofs.Ythamemaomedldaa.Ev
