/- insertionSort -/
import Derived.Test.YtjnnhabfaophiaaDoorStOBase
import Derived.Deep.RegionHeld3
namespace Go.Proofs.YtjnnhabfaophiaaDoor.So
open Go Go.RowKit Go.Sort
set_option linter.unusedVariables false

set_option maxHeartbeats 2000000 in
set_option maxRecDepth 20000 in
theorem ins_any (g n cap : Nat) (hn : n < 4611686018427387904) (a b : Nat) (hab : a ≤ b) (hb : b ≤ n) (d : Array Int) (w0 w : World) (H0 : AtO g n w0 d w) :
    Calls Tryd.prog 53 #[.slice (some ⟨g, 0, none⟩) n cap, .int .i64 (a : Int), .int .i64 (b : Int)] w fun e w' => e = .returned (.tuple #[]) ∧ AtO g n w0 (insertionSort ltInt d a b) w' := by
  go_enter Tryd.func53, Tryd.ntmps53
  have HH := Lib.hid H0
  clear H0
  go_wp2
  go_loopw [6] (fun vi wr => ∃ (i : Nat) (dk : Array Int), vi = .int .i64 (i : Int) ∧ a < i ∧ i ≤ b + 1 ∧ AtO g n w0 dk wr ∧ Hid (insOuter ltInt a b i dk = insOuter ltInt a b (a + 1) d)) (fun vi _ => b + 1 - (intOf vi).toNat)
  case atStart => exact ⟨a + 1, d, by go_num, by omega, by omega, HH.out, Lib.hid rfl⟩
  case round =>
    clear HH
    obtain ⟨i, dk, rfl, hai, hib, H, HO⟩ := hrel
    by_cases hlt : i < b
    · have d1 : decide ((i : Int) < (b : Int)) = true := decide_eq_true (by omega)
      have H1 := Lib.hid H
      clear H
      go_wp2
      go_loopw [7] (fun vj wr2 => ∃ (j : Nat) (dj : Array Int), vj = .int .i64 (j : Int) ∧ a ≤ j ∧ j ≤ i ∧ AtO g n w0 dj wr2 ∧ Hid (insInner ltInt a j dj = insInner ltInt a i dk)) (fun vj _ => (intOf vj).toNat)
      case atStart => exact ⟨i, dk, rfl, by omega, Nat.le_refl _, H1.out, Lib.hid rfl⟩
      case round =>
        clear H1
        obtain ⟨j, dj, rfl, haj, hji, H, HI⟩ := hrel
        have HD := Lib.hid H
        by_cases hja : a < j
        · have d2 : decide ((a : Int) < (j : Int)) = true := decide_eq_true (by omega)
          obtain ⟨p, hp⟩ : ∃ p, p + 1 = j := ⟨j - 1, by omega⟩
          have e1 : (j : Int) - 1 = (p : Int) := by omega
          have hj0 : (0 : Int) ≤ (j : Int) := by omega
          have hj1 : (j : Int) < (n : Int) := by omega
          have hp0 : (0 : Int) ≤ (p : Int) := by omega
          have hp1 : (p : Int) < (n : Int) := by omega
          have cj := H.cell j (by omega)
          have cp := H.cell p (by omega)
          have fz := H.frz
          obtain ⟨x, hx⟩ : ∃ x, x = dj[j]! := ⟨_, rfl⟩
          obtain ⟨y, hy⟩ : ∃ y, y = dj[p]! := ⟨_, rfl⟩
          rw [← hx] at cj
          rw [← hy] at cp
          have HV := Lib.hid (And.intro hx hy)
          have HP := Lib.hid hp
          clear H hx hy hp
          cases hl : ltInt x y with
          | true =>
            have HL := Lib.hid hl
            go_wp2_with fail
            go_quiet ((go_at_call 59; exact Calls.quiet_of_same (less_u _ _ _)))
            go_wp2_with fail
            go_region
            go_wp2
            go_roundw
            case rel =>
              refine ⟨p, swp dj j p, rfl, by omega, by omega, ?_, Lib.hid ?_⟩
              · have h9 := (HD.out.drewN (nq + 1)).swap j p (by omega) (by omega)
                rw [← HV.out.1, ← HV.out.2] at h9
                exact h9
              · have h9 := insInner_go ltInt a j dj hja (by rw [← HP.out, Nat.add_sub_cancel, HP.out, ← HV.out.1, ← HV.out.2]; exact HL.out)
                rw [show j - 1 = p by have := HP.out; omega] at h9
                rw [← HI.out, h9]
            case measure => simp [intOf]; have := HP.out; omega
          | false =>
            have HL := Lib.hid hl
            go_wp2_with fail
            go_quiet ((go_at_call 59; exact Calls.quiet_of_same (less_u _ _ _)))
            go_wp2
            go_roundw
            case rel => exact ⟨i + 1, dj, by go_num, by omega, by omega, HD.out.drewN _, Lib.hid (by rw [← HO.out, insOuter_go _ _ _ _ _ hlt, ← HI.out, insInner_stop _ _ _ _ (Or.inr (by rw [← HP.out, Nat.add_sub_cancel, HP.out, ← HV.out.1, ← HV.out.2]; exact HL.out))])⟩
            case measure => simp [intOf]; omega
        · have d2 : decide ((a : Int) < (j : Int)) = false := decide_eq_false (by omega)
          clear H
          go_wp2_with fail
          go_quiet ((go_at_call 59; exact Calls.quiet_of_same (less_u _ _ _)))
          go_wp2
          go_roundw
          case rel => exact ⟨i + 1, dj, by go_num, by omega, by omega, HD.out.drewN _, Lib.hid (by rw [← HO.out, insOuter_go _ _ _ _ _ hlt, ← HI.out, insInner_stop _ _ _ _ (Or.inl (by omega))])⟩
          case measure => simp [intOf]; omega
    · have d1 : decide ((i : Int) < (b : Int)) = false := decide_eq_false (by omega)
      have H1 := Lib.hid H
      clear H
      go_wp2
      exact bodyPost_end (results_none rfl _ _ _) rfl ⟨rfl, by unfold insertionSort; rw [← HO.out, insOuter_stop _ _ _ _ _ hlt]; exact H1.out⟩
end Go.Proofs.YtjnnhabfaophiaaDoor.So
