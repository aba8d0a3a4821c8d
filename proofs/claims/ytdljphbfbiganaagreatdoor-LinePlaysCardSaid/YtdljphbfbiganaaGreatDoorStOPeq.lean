import Derived.Test.YtdljphbfbiganaaGreatDoorGStOBits
import Derived.Deep.RegionHeld3
import Derived.Sort.WalkC
import Derived.Deep.CutBlock
import Derived.Deep.DeepCutAuto
/- partitionEqual -/
namespace Go.Proofs.YtdljphbfbiganaaGreatDoor.So
open Go Go.RowKit Go.Sort Go.Proofs Go.Lib
set_option linter.unusedVariables false

set_option maxHeartbeats 12800000 in
set_option maxRecDepth 20000 in
theorem peq_any (g n cap : Nat) (hn : n < 4611686018427387904) (a b pivot : Nat) (hap : a ≤ pivot) (hpb : pivot < b) (hb : b ≤ n) (d : Array Int) (w0 w : World) (H0 : AtO g n w0 d w) :
    Calls Tryz.prog 86 #[.slice (some ⟨g, 0, none⟩) n cap, .int .i64 (a : Int), .int .i64 (b : Int), .int .i64 (pivot : Int)] w fun e w' => e = .returned (.int .i64 ((Sort.partitionEqual ltInt d a b pivot).1 : Int)) ∧ AtO g n w0 ((Sort.partitionEqual ltInt d a b pivot).2) w' := by
  have HH := Lib.hid H0
  clear H0
  go_enter Tryz.func86, Tryz.ntmps86
  go_upto_region 1 with fail
  go_cut [] (fun wx => AtO g n w0 (Sort.swp d a pivot) wx)
  case first =>
    by_cases hpq : a = pivot
    · subst hpq
      have a0 : (0 : Int) ≤ (a : Int) := by omega
      have a1 : (a : Int) < (n : Int) := by omega
      have ca := HH.out.cell a (by omega)
      obtain ⟨x, hx⟩ : ∃ x, x = (d)[a]! := ⟨_, rfl⟩
      rw [← hx] at ca
      have fz := HH.out.frz
      have HS := Lib.hid (HH.out.swapL (p := a) (q := a) (P := a) (Q := a) (x := x) (y := x) ⟨⟨rfl, hx⟩, rfl, hx⟩ (by omega) (by omega))
      clear hx
      go_region
      go_wp2
      go_meet
      exact HS.out _
    · have hqp : ¬ pivot = a := fun e => hpq e.symm
      have a0 : (0 : Int) ≤ (a : Int) := by omega
      have a1 : (a : Int) < (n : Int) := by omega
      have ca := HH.out.cell a (by omega)
      obtain ⟨x, hx⟩ : ∃ x, x = (d)[a]! := ⟨_, rfl⟩
      rw [← hx] at ca
      have pivot0 : (0 : Int) ≤ (pivot : Int) := by omega
      have pivot1 : (pivot : Int) < (n : Int) := by omega
      have cpivot := HH.out.cell pivot (by omega)
      obtain ⟨y, hy⟩ : ∃ y, y = (d)[pivot]! := ⟨_, rfl⟩
      rw [← hy] at cpivot
      have HPQ := Lib.hid (And.intro (And.intro (Eq.refl a) hx) (And.intro (Eq.refl pivot) hy))
      have fz := HH.out.frz
      clear hx hy 
      have HS := Lib.hid (HH.out.swapL HPQ.out (by omega) (by omega))
      go_region
      go_wp2
      go_meet
      exact HS.out _
  case rest =>
    have HW := Lib.hid hcut
    clear hcut HH
    go_wp2
    go_loopw [9, 10] (fun vi vj wr => ∃ (i j : Nat) (dk : Array Int), vi = .int .i64 (i : Int) ∧ vj = .int .i64 (j : Int) ∧ a < i ∧ i ≤ j + 1 ∧ j < b ∧ AtO g n w0 dk wr ∧ Hid (Sort.partEqLoop ltInt a i j dk = Sort.partEqLoop ltInt a (a + 1) (b - 1) (Sort.swp d a pivot))) (fun vi vj _ => (intOf vj).toNat + 1 - (intOf vi).toNat)
    case atStart => exact ⟨a + 1, b - 1, Sort.swp d a pivot, by go_num, by go_num, by omega, by omega, by omega, HW.out, Lib.hid rfl⟩
    case round =>
      clear HW
      obtain ⟨i, j, dk, rfl, rfl, hai, hij, hjb, H, AE⟩ := hrel
      have HX := Lib.hid H
      clear H
      go_wp2
      go_loopw [9] (fun vi w1 => ∃ (iu : Nat), vi = .int .i64 (iu : Int) ∧ i ≤ iu ∧ iu ≤ j + 1 ∧ AtO g n w0 dk w1 ∧ Hid (Sort.scanUp (fun x => !ltInt dk[a]! x) dk j iu = Sort.scanUp (fun x => !ltInt dk[a]! x) dk j i)) (fun vi _ => j + 1 - (intOf vi).toNat)
      case atStart => exact ⟨i, rfl, Nat.le_refl _, hij, HX.out, Lib.hid rfl⟩
      case round =>
        clear HX
        obtain ⟨iu, rfl, hii, hij', H, hsc⟩ := hrel
        have HD := Lib.hid H
        by_cases hle : iu ≤ j
        · have hlez : (iu : Int) ≤ (j : Int) := by omega
          cases hlv : ltInt dk[a]! dk[iu]! with
          | false =>
            have HV := Lib.hid hlv
            have a0 : (0 : Int) ≤ (a : Int) := by omega
            have a1 : (a : Int) < (n : Int) := by omega
            have ca := H.cell a (by omega)
            obtain ⟨x, hx⟩ : ∃ x, x = (dk)[a]! := ⟨_, rfl⟩
            rw [← hx] at ca
            have iu0 : (0 : Int) ≤ (iu : Int) := by omega
            have iu1 : (iu : Int) < (n : Int) := by omega
            have ciu := H.cell iu (by omega)
            obtain ⟨y, hy⟩ : ∃ y, y = (dk)[iu]! := ⟨_, rfl⟩
            rw [← hy] at ciu
            have HPQ := Lib.hid (And.intro (And.intro (Eq.refl a) hx) (And.intro (Eq.refl iu) hy))
            have fz := H.frz
            have hl : ltInt x y = false := by rw [hx, hy]; exact hlv
            clear hx hy hlv H
            go_wp2_with fail
            go_quiet ((go_at_call 85; exact Calls.quiet_of_same (less_u _ _ _)))
            go_wp2
            go_roundw
            case rel => exact ⟨iu + 1, by go_num, by omega, by omega, HD.out.drewN _, Lib.hid ((scanUp_go (fun x => !ltInt dk[a]! x) dk j iu hle (by simp [HV.out])).symm.trans hsc.out)⟩
            case measure => simp [intOf]; omega
          | true =>
            have HV := Lib.hid hlv
            have a0 : (0 : Int) ≤ (a : Int) := by omega
            have a1 : (a : Int) < (n : Int) := by omega
            have ca := H.cell a (by omega)
            obtain ⟨x, hx⟩ : ∃ x, x = (dk)[a]! := ⟨_, rfl⟩
            rw [← hx] at ca
            have iu0 : (0 : Int) ≤ (iu : Int) := by omega
            have iu1 : (iu : Int) < (n : Int) := by omega
            have ciu := H.cell iu (by omega)
            obtain ⟨y, hy⟩ : ∃ y, y = (dk)[iu]! := ⟨_, rfl⟩
            rw [← hy] at ciu
            have HPQ := Lib.hid (And.intro (And.intro (Eq.refl a) hx) (And.intro (Eq.refl iu) hy))
            have fz := H.frz
            have hl : ltInt x y = true := by rw [hx, hy]; exact hlv
            clear hx hy hlv H
            have hi2 : Hid (iu = Sort.scanUp (fun x => !ltInt dk[a]! x) dk j i) := Lib.hid ((scanUp_end (fun x => !ltInt dk[a]! x) dk j iu (Or.inr (by simp [HV.out]))).symm.trans hsc.out)
            go_wp2_with fail
            go_quiet ((go_at_call 85; exact Calls.quiet_of_same (less_u _ _ _)))
            have HN := Lib.hid (HD.out.drewN nq)
            clear HPQ hsc HD HV
            clear ca ciu a0 a1 iu0 iu1 hl fz
            go_wp2
            go_loopw [10] (fun vj w2 => ∃ (ju : Nat), vj = .int .i64 (ju : Int) ∧ ju ≤ j ∧ iu ≤ ju + 1 ∧ AtO g n w0 dk w2 ∧ Hid (Sort.scanDown (fun x => ltInt dk[a]! x) dk iu ju = Sort.scanDown (fun x => ltInt dk[a]! x) dk iu j)) (fun vj _ => (intOf vj).toNat)
            case atStart => exact ⟨j, rfl, Nat.le_refl _, hij', HN.out, Lib.hid rfl⟩
            case round =>
              clear HN
              obtain ⟨ju, rfl, hjj, hij2, H, hsd⟩ := hrel
              have HD := Lib.hid H
              by_cases hle2 : iu ≤ ju
              · have hle2z : (iu : Int) ≤ (ju : Int) := by omega
                cases hlv2 : ltInt dk[a]! dk[ju]! with
                | true =>
                  have HV2 := Lib.hid hlv2
                  have a0 : (0 : Int) ≤ (a : Int) := by omega
                  have a1 : (a : Int) < (n : Int) := by omega
                  have ca := H.cell a (by omega)
                  obtain ⟨x, hx⟩ : ∃ x, x = (dk)[a]! := ⟨_, rfl⟩
                  rw [← hx] at ca
                  have ju0 : (0 : Int) ≤ (ju : Int) := by omega
                  have ju1 : (ju : Int) < (n : Int) := by omega
                  have cju := H.cell ju (by omega)
                  obtain ⟨y, hy⟩ : ∃ y, y = (dk)[ju]! := ⟨_, rfl⟩
                  rw [← hy] at cju
                  have HPQ := Lib.hid (And.intro (And.intro (Eq.refl a) hx) (And.intro (Eq.refl ju) hy))
                  have fz := H.frz
                  have hl : ltInt x y = true := by rw [hx, hy]; exact hlv2
                  clear hx hy hlv2 H
                  go_wp2_with fail
                  go_quiet ((go_at_call 85; exact Calls.quiet_of_same (less_u _ _ _)))
                  go_wp2
                  go_roundw
                  case rel => exact ⟨ju - 1, by go_num, by omega, by omega, HD.out.drewN _, Lib.hid ((scanDown_go (fun x => ltInt dk[a]! x) dk iu ju hle2 (by omega) (by simp [HV2.out])).symm.trans hsd.out)⟩
                  case measure => simp [intOf]; omega
                | false =>
                  have HV2 := Lib.hid hlv2
                  have a0 : (0 : Int) ≤ (a : Int) := by omega
                  have a1 : (a : Int) < (n : Int) := by omega
                  have ca := H.cell a (by omega)
                  obtain ⟨x, hx⟩ : ∃ x, x = (dk)[a]! := ⟨_, rfl⟩
                  rw [← hx] at ca
                  have ju0 : (0 : Int) ≤ (ju : Int) := by omega
                  have ju1 : (ju : Int) < (n : Int) := by omega
                  have cju := H.cell ju (by omega)
                  obtain ⟨y, hy⟩ : ∃ y, y = (dk)[ju]! := ⟨_, rfl⟩
                  rw [← hy] at cju
                  have HPQ := Lib.hid (And.intro (And.intro (Eq.refl a) hx) (And.intro (Eq.refl ju) hy))
                  have fz := H.frz
                  have hl : ltInt x y = false := by rw [hx, hy]; exact hlv2
                  clear hx hy hlv2 H
                  have hj2 : Hid (ju = Sort.scanDown (fun x => ltInt dk[a]! x) dk iu j) := Lib.hid ((scanDown_end (fun x => ltInt dk[a]! x) dk iu ju (Or.inr (by simp [HV2.out]))).symm.trans hsd.out)
                  have hlt3 := scans_lt ltInt a i j dk (by omega) hi2.out hj2.out hle2
                  clear hsd
                  go_wp2_with fail
                  go_quiet ((go_at_call 85; exact Calls.quiet_of_same (less_u _ _ _)))
                  have HN := Lib.hid (HD.out.drewN nq)
                  clear HPQ
                  clear ca cju a0 a1 ju0 ju1 hl fz
                  go_upto_region 8 with fail
                  obtain ⟨w3, hw3⟩ : ∃ X, X = wr.drewN nq := ⟨_, rfl⟩
                  rw [← hw3] at HN ⊢
                  clear hw3
                  have hne : ¬ iu = ju := by omega
                  have hne2 : ¬ ju = iu := by omega
                  have iu0 : (0 : Int) ≤ (iu : Int) := by omega
                  have iu1 : (iu : Int) < (n : Int) := by omega
                  have ciu := HN.out.cell iu (by omega)
                  obtain ⟨u, hu⟩ : ∃ u, u = (dk)[iu]! := ⟨_, rfl⟩
                  rw [← hu] at ciu
                  have ju0 : (0 : Int) ≤ (ju : Int) := by omega
                  have ju1 : (ju : Int) < (n : Int) := by omega
                  have cju := HN.out.cell ju (by omega)
                  obtain ⟨z, hz⟩ : ∃ z, z = (dk)[ju]! := ⟨_, rfl⟩
                  rw [← hz] at cju
                  have HPQ := Lib.hid (And.intro (And.intro (Eq.refl iu) hu) (And.intro (Eq.refl ju) hz))
                  have fz := HN.out.frz
                  clear hu hz 
                  have HS := Lib.hid (HN.out.swapL HPQ.out (by omega) (by omega))
                  go_region
                  go_wp2
                  go_roundw
                  case rel => exact ⟨iu + 1, ju - 1, Sort.swp dk iu ju, by go_num, by go_num, by omega, by omega, by omega, HS.out _, Lib.hid (by rw [← AE.out]; exact (partEq_go ltInt a i j dk hi2.out hj2.out (by omega)).symm)⟩
                  case measure => simp [intOf]; omega
              · have hle2z : decide ((iu : Int) ≤ (ju : Int)) = false := decide_eq_false (by omega)
                have hj2 : Hid (ju = Sort.scanDown (fun x => ltInt dk[a]! x) dk iu j) := Lib.hid ((scanDown_end (fun x => ltInt dk[a]! x) dk iu ju (Or.inl hle2)).symm.trans hsd.out)
                have hgt : (ju : Int) < (iu : Int) := by omega
                clear hsd H
                go_wp2_with fail
                go_quiet ((go_at_call 85; exact Calls.quiet_of_same (less_u _ _ _)))
                have HN := Lib.hid (HD.out.drewN nq)
                go_wp2
                go_ret
                have e := partEq_break ltInt a i j dk hi2.out hj2.out (by omega)
                exact ⟨by unfold Sort.partitionEqual; rw [← AE.out, e]; rfl, by unfold Sort.partitionEqual; rw [← AE.out, e]; exact HN.out⟩
        · have hlez : decide ((iu : Int) ≤ (j : Int)) = false := decide_eq_false (by omega)
          have hi2 : Hid (iu = Sort.scanUp (fun x => !ltInt dk[a]! x) dk j i) := Lib.hid ((scanUp_end (fun x => !ltInt dk[a]! x) dk j iu (Or.inl hle)).symm.trans hsc.out)
          clear H
          go_wp2_with fail
          go_quiet ((go_at_call 85; exact Calls.quiet_of_same (less_u _ _ _)))
          have HN := Lib.hid (HD.out.drewN nq)
          clear hsc HD
          go_wp2
          go_loopw [10] (fun vj w2 => ∃ (ju : Nat), vj = .int .i64 (ju : Int) ∧ ju ≤ j ∧ iu ≤ ju + 1 ∧ AtO g n w0 dk w2 ∧ Hid (Sort.scanDown (fun x => ltInt dk[a]! x) dk iu ju = Sort.scanDown (fun x => ltInt dk[a]! x) dk iu j)) (fun vj _ => (intOf vj).toNat)
          case atStart => exact ⟨j, rfl, Nat.le_refl _, hij', HN.out, Lib.hid rfl⟩
          case round =>
            clear HN
            obtain ⟨ju, rfl, hjj, hij2, H, hsd⟩ := hrel
            have HD := Lib.hid H
            by_cases hle2 : iu ≤ ju
            · exfalso; omega
            · have hle2z : decide ((iu : Int) ≤ (ju : Int)) = false := decide_eq_false (by omega)
              have hj2 : Hid (ju = Sort.scanDown (fun x => ltInt dk[a]! x) dk iu j) := Lib.hid ((scanDown_end (fun x => ltInt dk[a]! x) dk iu ju (Or.inl hle2)).symm.trans hsd.out)
              have hgt : (ju : Int) < (iu : Int) := by omega
              clear hsd H
              go_wp2_with fail
              go_quiet ((go_at_call 85; exact Calls.quiet_of_same (less_u _ _ _)))
              have HN := Lib.hid (HD.out.drewN nq)
              go_wp2
              go_ret
              have e := partEq_break ltInt a i j dk hi2.out hj2.out (by omega)
              exact ⟨by unfold Sort.partitionEqual; rw [← AE.out, e]; rfl, by unfold Sort.partitionEqual; rw [← AE.out, e]; exact HN.out⟩
end Go.Proofs.YtdljphbfbiganaaGreatDoor.So
