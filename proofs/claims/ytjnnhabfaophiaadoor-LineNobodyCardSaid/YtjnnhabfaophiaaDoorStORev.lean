/- reverseRange -/
import Derived.Test.YtjnnhabfaophiaaDoorStOBase
import Derived.Deep.RegionHeld3
import Derived.Sort.Walk7
namespace Go.Proofs.YtjnnhabfaophiaaDoor.So
open Go Go.RowKit Go.Sort Go.Proofs
set_option linter.unusedVariables false

set_option maxHeartbeats 2000000 in
set_option maxRecDepth 20000 in
theorem rev_any (g n cap : Nat) (hn : n < 4611686018427387904) (a b : Nat) (hab : a ≤ b) (hb : b ≤ n) (d : Array Int) (w0 w : World) (H0 : AtO g n w0 d w) :
    Calls Tryd.prog 57 #[.slice (some ⟨g, 0, none⟩) n cap, .int .i64 (a : Int), .int .i64 (b : Int)] w fun e w' => e = .returned (.tuple #[]) ∧ AtO g n w0 (reverseRange d a b) w' := by
  go_enter Tryd.func57, Tryd.ntmps57
  have HH := Lib.hid H0
  clear H0
  go_wp2
  go_loopg [6, 7] (b - a) (fun k s6 s7 wr => ∃ (i jn : Nat) (jz : Int) (dk : Array Int), s6 = .int .i64 (i : Int) ∧ s7 = .int .i64 jz ∧ ((i : Int) < jz → jz = jn ∧ jn < n) ∧ (¬ (i : Int) < jz → ¬ i < jn) ∧ jn - i ≤ k ∧
    AtO g n w0 dk wr ∧ Hid (reverseLoop i jn dk = reverseLoop a (b - 1) d))
  case atStart => exact ⟨a, b - 1, (b : Int) - 1, d, rfl, rfl, fun h => ⟨by omega, by omega⟩, fun h => by omega, by omega, HH.out, Lib.hid rfl⟩
  case round =>
    clear HH
    obtain ⟨i, jn, jz, dk, rfl, rfl, h1, h2, hk, H, HR⟩ := hrel
    have HD := Lib.hid H
    by_cases hlt : (i : Int) < jz
    · obtain ⟨rfl, hjn⟩ := h1 hlt
      have hij : i < jn := by omega
      have d1 : decide ((i : Int) < (jn : Int)) = true := decide_eq_true hlt
      clear h1 h2
      have i0 : (0 : Int) ≤ (i : Int) := by omega
      have i1 : (i : Int) < (n : Int) := by omega
      have ci := H.cell i (by omega)
      obtain ⟨x, hx⟩ : ∃ x, x = (dk)[i]! := ⟨_, rfl⟩
      rw [← hx] at ci
      have jn0 : (0 : Int) ≤ (jn : Int) := by omega
      have jn1 : (jn : Int) < (n : Int) := by omega
      have cjn := H.cell jn (by omega)
      obtain ⟨y, hy⟩ : ∃ y, y = (dk)[jn]! := ⟨_, rfl⟩
      rw [← hy] at cjn
      have HPQ := Lib.hid (And.intro (And.intro (Eq.refl i) hx) (And.intro (Eq.refl jn) hy))
      have fz := H.frz
      clear hx hy H
      have H3 := HD.out.swapL HPQ.out (by omega) (by omega)
      have HS := Lib.hid H3
      clear H3
      go_wp2_with fail
      go_region
      go_wp2
      go_roundg (jn - 1 - (i + 1))
      case measure => omega
      case rel => exact ⟨i + 1, jn - 1, (jn : Int) - 1, swp dk i jn, by go_num, rfl, fun h => ⟨by omega, by omega⟩, fun h => by omega, Nat.le_refl _, HS.out _, Lib.hid (by rw [← HR.out]; conv => rhs; rw [reverseLoop, if_pos hij])⟩
    · have hnot := h2 hlt
      have d1 : decide ((i : Int) < jz) = false := decide_eq_false hlt
      clear H h1
      go_wp2
      refine bodyPost_end (results_none rfl _ _ _) rfl ⟨rfl, ?_⟩
      have e := HR.out
      rw [reverseLoop, if_neg hnot] at e
      rw [reverseRange, ← e]
      exact HD.out
end Go.Proofs.YtjnnhabfaophiaaDoor.So
