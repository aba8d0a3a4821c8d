import Derived.Test.YtdljphbfbiganaaGreatDoorGStOBits
import Derived.Deep.RegionHeld3
import Derived.Sort.WalkC4
import Derived.Deep.CutBlock
import Derived.Deep.DeepCutAuto
/- partition -/
namespace Go.Proofs.YtdljphbfbiganaaGreatDoor.So
open Go Go.RowKit Go.Sort Go.Proofs Go.Lib
set_option linter.unusedVariables false

set_option maxHeartbeats 25600000 in
set_option maxRecDepth 20000 in
theorem part_any (g n cap : Nat) (hn : n < 4611686018427387904) (a b pivot : Nat) (hap : a ≤ pivot) (hpb : pivot < b) (hb : b ≤ n) (d : Array Int) (w0 w : World) (H0 : AtO g n w0 d w) :
    Calls Tryz.prog 87 #[.slice (some ⟨g, 0, none⟩) n cap, .int .i64 (a : Int), .int .i64 (b : Int), .int .i64 (pivot : Int)] w fun e w' => e = .returned (.tuple #[.int .i64 ((Sort.partition ltInt d a b pivot).1 : Int), .bool (Sort.partition ltInt d a b pivot).2.1]) ∧ AtO g n w0 ((Sort.partition ltInt d a b pivot).2.2) w' := by
  have HH := Lib.hid H0
  clear H0
  go_enter Tryz.func87, Tryz.ntmps87
  go_upto_region 1 with fail
  go_cut [] (fun wx => AtO g n w0 (Sort.swp d a pivot) wx)
  case first =>
    by_cases hpq : a = pivot
    · subst hpq
      have a0 : (0 : Int) ≤ (a : Int) := by omega
      have a1 : (a : Int) < (n : Int) := by omega
      have ca := HH.out.cell a (by omega)
      obtain ⟨x, hx⟩ : ∃ x, x = (d)[a]! := ⟨_, rfl⟩
      rw [← hx] at ca
      have fz := HH.out.frz
      have HS := Lib.hid (HH.out.swapL (p := a) (q := a) (P := a) (Q := a) (x := x) (y := x) ⟨⟨rfl, hx⟩, rfl, hx⟩ (by omega) (by omega))
      clear hx
      go_region
      go_wp2
      go_meet
      exact HS.out _
    · have hqp : ¬ pivot = a := fun e => hpq e.symm
      have a0 : (0 : Int) ≤ (a : Int) := by omega
      have a1 : (a : Int) < (n : Int) := by omega
      have ca := HH.out.cell a (by omega)
      obtain ⟨x, hx⟩ : ∃ x, x = (d)[a]! := ⟨_, rfl⟩
      rw [← hx] at ca
      have pivot0 : (0 : Int) ≤ (pivot : Int) := by omega
      have pivot1 : (pivot : Int) < (n : Int) := by omega
      have cpivot := HH.out.cell pivot (by omega)
      obtain ⟨y, hy⟩ : ∃ y, y = (d)[pivot]! := ⟨_, rfl⟩
      rw [← hy] at cpivot
      have HPQ := Lib.hid (And.intro (And.intro (Eq.refl a) hx) (And.intro (Eq.refl pivot) hy))
      have fz := HH.out.frz
      clear hx hy 
      have HS := Lib.hid (HH.out.swapL HPQ.out (by omega) (by omega))
      go_region
      go_wp2
      go_meet
      exact HS.out _
  case rest =>
    obtain ⟨i, hi⟩ : ∃ i : Nat, i = a + 1 := ⟨_, rfl⟩
    obtain ⟨j, hj⟩ : ∃ j : Nat, j = b - 1 := ⟨_, rfl⟩
    obtain ⟨dk, hdk⟩ : ∃ dk : Array Int, dk = Sort.swp d a pivot := ⟨_, rfl⟩
    rw [← hdk] at hcut
    have HW := Lib.hid hcut
    have hai : a < i := by omega
    have hij : i ≤ j + 1 := by omega
    have hjb : j < b := by omega
    have ei : (a : Int) + 1 = (i : Int) := by omega
    have ej : (b : Int) - 1 = (j : Int) := by omega
    have Hi : Hid (i = a + 1) := Lib.hid hi
    have Hj : Hid (j = b - 1) := Lib.hid hj
    have Hdk : Hid (dk = Sort.swp d a pivot) := Lib.hid hdk
    clear hi hj hdk hcut HH
    go_upto_region 3 with fail
    (try rw [ei]); (try rw [ej])
    clear ei ej
    go_loopw [10] (fun vi w1 => ∃ (iu : Nat), vi = .int .i64 (iu : Int) ∧ i ≤ iu ∧ iu ≤ j + 1 ∧ AtO g n w0 dk w1 ∧ Hid (Sort.scanUp (fun x => ltInt x dk[a]!) dk j iu = Sort.scanUp (fun x => ltInt x dk[a]!) dk j i)) (fun vi _ => j + 1 - (intOf vi).toNat)
    case atStart => exact ⟨i, rfl, Nat.le_refl _, hij, HW.out, Lib.hid rfl⟩
    case round =>
      clear HW
      obtain ⟨iu, rfl, hii, hij', H, hsc⟩ := hrel
      have HD := Lib.hid H
      by_cases hle : iu ≤ j
      · have hlez : (iu : Int) ≤ (j : Int) := by omega
        cases hlv : ltInt dk[iu]! dk[a]! with
        | true =>
          have HV := Lib.hid hlv
          have iu0 : (0 : Int) ≤ (iu : Int) := by omega
          have iu1 : (iu : Int) < (n : Int) := by omega
          have ciu := H.cell iu (by omega)
          obtain ⟨x, hx⟩ : ∃ x, x = (dk)[iu]! := ⟨_, rfl⟩
          rw [← hx] at ciu
          have a0 : (0 : Int) ≤ (a : Int) := by omega
          have a1 : (a : Int) < (n : Int) := by omega
          have ca := H.cell a (by omega)
          obtain ⟨y, hy⟩ : ∃ y, y = (dk)[a]! := ⟨_, rfl⟩
          rw [← hy] at ca
          have HPQ := Lib.hid (And.intro (And.intro (Eq.refl iu) hx) (And.intro (Eq.refl a) hy))
          have fz := H.frz
          have hl : ltInt x y = true := by rw [hx, hy]; exact hlv
          clear hx hy hlv H
          go_wp2_with fail
          go_quiet ((go_at_call 85; exact Calls.quiet_of_same (less_u _ _ _)))
          go_wp2
          go_roundw
          case rel => exact ⟨iu + 1, by go_num, by omega, by omega, HD.out.drewN _, Lib.hid ((scanUp_go (fun x => ltInt x dk[a]!) dk j iu hle (by simp [HV.out])).symm.trans hsc.out)⟩
          case measure => simp [intOf]; omega
        | false =>
          have HV := Lib.hid hlv
          have iu0 : (0 : Int) ≤ (iu : Int) := by omega
          have iu1 : (iu : Int) < (n : Int) := by omega
          have ciu := H.cell iu (by omega)
          obtain ⟨x, hx⟩ : ∃ x, x = (dk)[iu]! := ⟨_, rfl⟩
          rw [← hx] at ciu
          have a0 : (0 : Int) ≤ (a : Int) := by omega
          have a1 : (a : Int) < (n : Int) := by omega
          have ca := H.cell a (by omega)
          obtain ⟨y, hy⟩ : ∃ y, y = (dk)[a]! := ⟨_, rfl⟩
          rw [← hy] at ca
          have HPQ := Lib.hid (And.intro (And.intro (Eq.refl iu) hx) (And.intro (Eq.refl a) hy))
          have fz := H.frz
          have hl : ltInt x y = false := by rw [hx, hy]; exact hlv
          clear hx hy hlv H
          have hi2 : Hid (iu = Sort.scanUp (fun x => ltInt x dk[a]!) dk j i) := Lib.hid ((scanUp_end (fun x => ltInt x dk[a]!) dk j iu (Or.inr (by simp [HV.out]))).symm.trans hsc.out)
          go_wp2_with fail
          go_quiet ((go_at_call 85; exact Calls.quiet_of_same (less_u _ _ _)))
          have HN := Lib.hid (HD.out.drewN nq)
          clear HPQ hsc HD HV
          clear ciu ca iu0 iu1 a0 a1 hl fz
          go_wp2
          go_loopw [11] (fun vj w2 => ∃ (ju : Nat), vj = .int .i64 (ju : Int) ∧ ju ≤ j ∧ iu ≤ ju + 1 ∧ AtO g n w0 dk w2 ∧ Hid (Sort.scanDown (fun x => !ltInt x dk[a]!) dk iu ju = Sort.scanDown (fun x => !ltInt x dk[a]!) dk iu j)) (fun vj _ => (intOf vj).toNat)
          case atStart => exact ⟨j, rfl, Nat.le_refl _, hij', HN.out, Lib.hid rfl⟩
          case round =>
            clear HN
            obtain ⟨ju, rfl, hjj, hij2, H, hsd⟩ := hrel
            have HD := Lib.hid H
            by_cases hle2 : iu ≤ ju
            · have hle2z : (iu : Int) ≤ (ju : Int) := by omega
              cases hlv2 : ltInt dk[ju]! dk[a]! with
              | false =>
                have HV2 := Lib.hid hlv2
                have ju0 : (0 : Int) ≤ (ju : Int) := by omega
                have ju1 : (ju : Int) < (n : Int) := by omega
                have cju := H.cell ju (by omega)
                obtain ⟨x, hx⟩ : ∃ x, x = (dk)[ju]! := ⟨_, rfl⟩
                rw [← hx] at cju
                have a0 : (0 : Int) ≤ (a : Int) := by omega
                have a1 : (a : Int) < (n : Int) := by omega
                have ca := H.cell a (by omega)
                obtain ⟨y, hy⟩ : ∃ y, y = (dk)[a]! := ⟨_, rfl⟩
                rw [← hy] at ca
                have HPQ := Lib.hid (And.intro (And.intro (Eq.refl ju) hx) (And.intro (Eq.refl a) hy))
                have fz := H.frz
                have hl : ltInt x y = false := by rw [hx, hy]; exact hlv2
                clear hx hy hlv2 H
                go_wp2_with fail
                go_quiet ((go_at_call 85; exact Calls.quiet_of_same (less_u _ _ _)))
                go_wp2
                go_roundw
                case rel => exact ⟨ju - 1, by go_num, by omega, by omega, HD.out.drewN _, Lib.hid ((scanDown_go (fun x => !ltInt x dk[a]!) dk iu ju hle2 (by omega) (by simp [HV2.out])).symm.trans hsd.out)⟩
                case measure => simp [intOf]; omega
              | true =>
                have HV2 := Lib.hid hlv2
                have ju0 : (0 : Int) ≤ (ju : Int) := by omega
                have ju1 : (ju : Int) < (n : Int) := by omega
                have cju := H.cell ju (by omega)
                obtain ⟨x, hx⟩ : ∃ x, x = (dk)[ju]! := ⟨_, rfl⟩
                rw [← hx] at cju
                have a0 : (0 : Int) ≤ (a : Int) := by omega
                have a1 : (a : Int) < (n : Int) := by omega
                have ca := H.cell a (by omega)
                obtain ⟨y, hy⟩ : ∃ y, y = (dk)[a]! := ⟨_, rfl⟩
                rw [← hy] at ca
                have HPQ := Lib.hid (And.intro (And.intro (Eq.refl ju) hx) (And.intro (Eq.refl a) hy))
                have fz := H.frz
                have hl : ltInt x y = true := by rw [hx, hy]; exact hlv2
                clear hx hy hlv2 H
                have hj2 : Hid (ju = Sort.scanDown (fun x => !ltInt x dk[a]!) dk iu j) := Lib.hid ((scanDown_end (fun x => !ltInt x dk[a]!) dk iu ju (Or.inr (by simp [HV2.out]))).symm.trans hsd.out)
                have hlt3 := part_scans_lt ltInt a i j dk (by omega) hi2.out hj2.out hle2
                clear hsd
                go_wp2_with fail
                go_quiet ((go_at_call 85; exact Calls.quiet_of_same (less_u _ _ _)))
                have HN := Lib.hid (HD.out.drewN nq)
                clear HPQ
                clear cju ca ju0 ju1 a0 a1 hl fz
                go_upto_region 10 with fail
                obtain ⟨w3, hw3⟩ : ∃ X, X = wr.drewN nq := ⟨_, rfl⟩
                rw [← hw3] at HN ⊢
                clear hw3
                have hne : ¬ iu = ju := by omega
                have hne2 : ¬ ju = iu := by omega
                have iu0 : (0 : Int) ≤ (iu : Int) := by omega
                have iu1 : (iu : Int) < (n : Int) := by omega
                have ciu := HN.out.cell iu (by omega)
                obtain ⟨u, hu⟩ : ∃ u, u = (dk)[iu]! := ⟨_, rfl⟩
                rw [← hu] at ciu
                have ju0 : (0 : Int) ≤ (ju : Int) := by omega
                have ju1 : (ju : Int) < (n : Int) := by omega
                have cju := HN.out.cell ju (by omega)
                obtain ⟨z, hz⟩ : ∃ z, z = (dk)[ju]! := ⟨_, rfl⟩
                rw [← hz] at cju
                have HPQ := Lib.hid (And.intro (And.intro (Eq.refl iu) hu) (And.intro (Eq.refl ju) hz))
                have fz := HN.out.frz
                clear hu hz 
                have HS := Lib.hid (HN.out.swapL HPQ.out (by omega) (by omega))
                go_region
                go_wp2
                (try rw [decide_eq_false (show ¬ ju < iu by omega)])
                obtain ⟨I0, hI0⟩ : ∃ I0 : Nat, I0 = iu + 1 := ⟨_, rfl⟩
                obtain ⟨J0, hJ0⟩ : ∃ J0 : Nat, J0 = ju - 1 := ⟨_, rfl⟩
                obtain ⟨D0, hD0⟩ : ∃ D0 : Array Int, D0 = Sort.swp dk iu ju := ⟨_, rfl⟩
                have PF : Hid (Sort.partition ltInt d a b pivot = ((Sort.partLoop ltInt a I0 J0 D0).1, false, Sort.swp (Sort.partLoop ltInt a I0 J0 D0).2 (Sort.partLoop ltInt a I0 J0 D0).1 a)) := Lib.hid (by
                  rw [hI0, hJ0, hD0]; exact part_first_go ltInt d a b pivot Hi.out Hj.out Hdk.out hi2.out hj2.out (by omega))
                have HS0 := Lib.hid (HS.out)
                clear HPQ fz ciu cju iu0 iu1 ju0 ju1 hne hne2 HN HS
                go_loopw [10, 11] (fun vi vj wr => ∃ (i j : Nat) (dk : Array Int), vi = .int .i64 (i : Int) ∧ vj = .int .i64 (j : Int) ∧ a < i ∧ i ≤ j + 1 ∧ j < b ∧ AtO g n w0 dk wr ∧ Hid (Sort.partLoop ltInt a i j dk = Sort.partLoop ltInt a I0 J0 D0)) (fun vi vj _ => (intOf vj).toNat + 1 - (intOf vi).toNat)
                case atStart => exact ⟨iu + 1, ju - 1, Sort.swp dk iu ju, by go_num, by go_num, by omega, by omega, by omega, HS0.out _, Lib.hid (by rw [hI0, hJ0, hD0])⟩
                case round =>
                  clear hI0 hJ0 hD0 hj2 hi2 hlt3 HS0 Hi Hj Hdk
                  obtain ⟨i, j, dk, rfl, rfl, hai, hij, hjb, H, AE⟩ := hrel
                  have HX := Lib.hid H
                  clear H
                  go_wp2
                  go_loopw [10] (fun vi w1 => ∃ (iu : Nat), vi = .int .i64 (iu : Int) ∧ i ≤ iu ∧ iu ≤ j + 1 ∧ AtO g n w0 dk w1 ∧ Hid (Sort.scanUp (fun x => ltInt x dk[a]!) dk j iu = Sort.scanUp (fun x => ltInt x dk[a]!) dk j i)) (fun vi _ => j + 1 - (intOf vi).toNat)
                  case atStart => exact ⟨i, rfl, Nat.le_refl _, hij, HX.out, Lib.hid rfl⟩
                  case round =>
                    clear HX
                    obtain ⟨iu, rfl, hii, hij', H, hsc⟩ := hrel
                    have HD := Lib.hid H
                    by_cases hle : iu ≤ j
                    · have hlez : (iu : Int) ≤ (j : Int) := by omega
                      cases hlv : ltInt dk[iu]! dk[a]! with
                      | true =>
                        have HV := Lib.hid hlv
                        have iu0 : (0 : Int) ≤ (iu : Int) := by omega
                        have iu1 : (iu : Int) < (n : Int) := by omega
                        have ciu := H.cell iu (by omega)
                        obtain ⟨x, hx⟩ : ∃ x, x = (dk)[iu]! := ⟨_, rfl⟩
                        rw [← hx] at ciu
                        have a0 : (0 : Int) ≤ (a : Int) := by omega
                        have a1 : (a : Int) < (n : Int) := by omega
                        have ca := H.cell a (by omega)
                        obtain ⟨y, hy⟩ : ∃ y, y = (dk)[a]! := ⟨_, rfl⟩
                        rw [← hy] at ca
                        have HPQ := Lib.hid (And.intro (And.intro (Eq.refl iu) hx) (And.intro (Eq.refl a) hy))
                        have fz := H.frz
                        have hl : ltInt x y = true := by rw [hx, hy]; exact hlv
                        clear hx hy hlv H
                        go_wp2_with fail
                        go_quiet ((go_at_call 85; exact Calls.quiet_of_same (less_u _ _ _)))
                        go_wp2
                        go_roundw
                        case rel => exact ⟨iu + 1, by go_num, by omega, by omega, HD.out.drewN _, Lib.hid ((scanUp_go (fun x => ltInt x dk[a]!) dk j iu hle (by simp [HV.out])).symm.trans hsc.out)⟩
                        case measure => simp [intOf]; omega
                      | false =>
                        have HV := Lib.hid hlv
                        have iu0 : (0 : Int) ≤ (iu : Int) := by omega
                        have iu1 : (iu : Int) < (n : Int) := by omega
                        have ciu := H.cell iu (by omega)
                        obtain ⟨x, hx⟩ : ∃ x, x = (dk)[iu]! := ⟨_, rfl⟩
                        rw [← hx] at ciu
                        have a0 : (0 : Int) ≤ (a : Int) := by omega
                        have a1 : (a : Int) < (n : Int) := by omega
                        have ca := H.cell a (by omega)
                        obtain ⟨y, hy⟩ : ∃ y, y = (dk)[a]! := ⟨_, rfl⟩
                        rw [← hy] at ca
                        have HPQ := Lib.hid (And.intro (And.intro (Eq.refl iu) hx) (And.intro (Eq.refl a) hy))
                        have fz := H.frz
                        have hl : ltInt x y = false := by rw [hx, hy]; exact hlv
                        clear hx hy hlv H
                        have hi2 : Hid (iu = Sort.scanUp (fun x => ltInt x dk[a]!) dk j i) := Lib.hid ((scanUp_end (fun x => ltInt x dk[a]!) dk j iu (Or.inr (by simp [HV.out]))).symm.trans hsc.out)
                        go_wp2_with fail
                        go_quiet ((go_at_call 85; exact Calls.quiet_of_same (less_u _ _ _)))
                        have HN := Lib.hid (HD.out.drewN nq)
                        clear HPQ hsc HD HV
                        clear ciu ca iu0 iu1 a0 a1 hl fz
                        go_wp2
                        go_loopw [11] (fun vj w2 => ∃ (ju : Nat), vj = .int .i64 (ju : Int) ∧ ju ≤ j ∧ iu ≤ ju + 1 ∧ AtO g n w0 dk w2 ∧ Hid (Sort.scanDown (fun x => !ltInt x dk[a]!) dk iu ju = Sort.scanDown (fun x => !ltInt x dk[a]!) dk iu j)) (fun vj _ => (intOf vj).toNat)
                        case atStart => exact ⟨j, rfl, Nat.le_refl _, hij', HN.out, Lib.hid rfl⟩
                        case round =>
                          clear HN
                          obtain ⟨ju, rfl, hjj, hij2, H, hsd⟩ := hrel
                          have HD := Lib.hid H
                          by_cases hle2 : iu ≤ ju
                          · have hle2z : (iu : Int) ≤ (ju : Int) := by omega
                            cases hlv2 : ltInt dk[ju]! dk[a]! with
                            | false =>
                              have HV2 := Lib.hid hlv2
                              have ju0 : (0 : Int) ≤ (ju : Int) := by omega
                              have ju1 : (ju : Int) < (n : Int) := by omega
                              have cju := H.cell ju (by omega)
                              obtain ⟨x, hx⟩ : ∃ x, x = (dk)[ju]! := ⟨_, rfl⟩
                              rw [← hx] at cju
                              have a0 : (0 : Int) ≤ (a : Int) := by omega
                              have a1 : (a : Int) < (n : Int) := by omega
                              have ca := H.cell a (by omega)
                              obtain ⟨y, hy⟩ : ∃ y, y = (dk)[a]! := ⟨_, rfl⟩
                              rw [← hy] at ca
                              have HPQ := Lib.hid (And.intro (And.intro (Eq.refl ju) hx) (And.intro (Eq.refl a) hy))
                              have fz := H.frz
                              have hl : ltInt x y = false := by rw [hx, hy]; exact hlv2
                              clear hx hy hlv2 H
                              go_wp2_with fail
                              go_quiet ((go_at_call 85; exact Calls.quiet_of_same (less_u _ _ _)))
                              go_wp2
                              go_roundw
                              case rel => exact ⟨ju - 1, by go_num, by omega, by omega, HD.out.drewN _, Lib.hid ((scanDown_go (fun x => !ltInt x dk[a]!) dk iu ju hle2 (by omega) (by simp [HV2.out])).symm.trans hsd.out)⟩
                              case measure => simp [intOf]; omega
                            | true =>
                              have HV2 := Lib.hid hlv2
                              have ju0 : (0 : Int) ≤ (ju : Int) := by omega
                              have ju1 : (ju : Int) < (n : Int) := by omega
                              have cju := H.cell ju (by omega)
                              obtain ⟨x, hx⟩ : ∃ x, x = (dk)[ju]! := ⟨_, rfl⟩
                              rw [← hx] at cju
                              have a0 : (0 : Int) ≤ (a : Int) := by omega
                              have a1 : (a : Int) < (n : Int) := by omega
                              have ca := H.cell a (by omega)
                              obtain ⟨y, hy⟩ : ∃ y, y = (dk)[a]! := ⟨_, rfl⟩
                              rw [← hy] at ca
                              have HPQ := Lib.hid (And.intro (And.intro (Eq.refl ju) hx) (And.intro (Eq.refl a) hy))
                              have fz := H.frz
                              have hl : ltInt x y = true := by rw [hx, hy]; exact hlv2
                              clear hx hy hlv2 H
                              have hj2 : Hid (ju = Sort.scanDown (fun x => !ltInt x dk[a]!) dk iu j) := Lib.hid ((scanDown_end (fun x => !ltInt x dk[a]!) dk iu ju (Or.inr (by simp [HV2.out]))).symm.trans hsd.out)
                              have hlt3 := part_scans_lt ltInt a i j dk (by omega) hi2.out hj2.out hle2
                              clear hsd
                              go_wp2_with fail
                              go_quiet ((go_at_call 85; exact Calls.quiet_of_same (less_u _ _ _)))
                              have HN := Lib.hid (HD.out.drewN nq)
                              clear HPQ
                              clear cju ca ju0 ju1 a0 a1 hl fz
                              go_upto_region 18 with fail
                              obtain ⟨w3, hw3⟩ : ∃ X, X = wr.drewN nq := ⟨_, rfl⟩
                              rw [← hw3] at HN ⊢
                              clear hw3
                              have hne : ¬ iu = ju := by omega
                              have hne2 : ¬ ju = iu := by omega
                              have iu0 : (0 : Int) ≤ (iu : Int) := by omega
                              have iu1 : (iu : Int) < (n : Int) := by omega
                              have ciu := HN.out.cell iu (by omega)
                              obtain ⟨u, hu⟩ : ∃ u, u = (dk)[iu]! := ⟨_, rfl⟩
                              rw [← hu] at ciu
                              have ju0 : (0 : Int) ≤ (ju : Int) := by omega
                              have ju1 : (ju : Int) < (n : Int) := by omega
                              have cju := HN.out.cell ju (by omega)
                              obtain ⟨z, hz⟩ : ∃ z, z = (dk)[ju]! := ⟨_, rfl⟩
                              rw [← hz] at cju
                              have HPQ := Lib.hid (And.intro (And.intro (Eq.refl iu) hu) (And.intro (Eq.refl ju) hz))
                              have fz := HN.out.frz
                              clear hu hz 
                              have HS := Lib.hid (HN.out.swapL HPQ.out (by omega) (by omega))
                              go_region
                              go_wp2
                              go_roundw
                              case rel => exact ⟨iu + 1, ju - 1, Sort.swp dk iu ju, by go_num, by go_num, by omega, by omega, by omega, HS.out _, Lib.hid (by rw [← AE.out]; exact (part_go ltInt a i j dk hi2.out hj2.out (by omega)).symm)⟩
                              case measure => simp [intOf]; omega
                          · have hle2z : decide ((iu : Int) ≤ (ju : Int)) = false := decide_eq_false (by omega)
                            have hj2 : Hid (ju = Sort.scanDown (fun x => !ltInt x dk[a]!) dk iu j) := Lib.hid ((scanDown_end (fun x => !ltInt x dk[a]!) dk iu ju (Or.inl hle2)).symm.trans hsd.out)
                            have hgt : (ju : Int) < (iu : Int) := by omega
                            clear hsd H
                            go_wp2_with fail
                            go_quiet ((go_at_call 85; exact Calls.quiet_of_same (less_u _ _ _)))
                            have HN := Lib.hid (HD.out.drewN nq)
                            go_upto_region 21 with fail
                            obtain ⟨w3, hw3⟩ : ∃ X, X = wr.drewN nq := ⟨_, rfl⟩
                            rw [← hw3] at HN ⊢
                            clear hw3 hle2z
                            have ju0 : (0 : Int) ≤ (ju : Int) := by omega
                            have ju1 : (ju : Int) < (n : Int) := by omega
                            have cju := HN.out.cell ju (by omega)
                            obtain ⟨u, hu⟩ : ∃ u, u = (dk)[ju]! := ⟨_, rfl⟩
                            rw [← hu] at cju
                            obtain ⟨aa, haa⟩ : ∃ aa : Nat, aa = a := ⟨_, rfl⟩
                            have eaa : (a : Int) = (aa : Int) := by omega
                            have waa : IntKind.i64.wrap (aa : Int) = (aa : Int) := by rw [IntKind.wrap_i64]; omega
                            have aa0 : (0 : Int) ≤ (aa : Int) := by omega
                            have aa1 : (aa : Int) < (n : Int) := by omega
                            have caa := HN.out.cell aa (by omega)
                            obtain ⟨z, hz⟩ : ∃ z, z = (dk)[aa]! := ⟨_, rfl⟩
                            rw [← hz] at caa
                            have HPQ := Lib.hid (And.intro (And.intro (Eq.refl ju) hu) (And.intro haa hz))
                            have fz := HN.out.frz
                            clear hu hz haa 
                            have HS := Lib.hid (HN.out.swapL HPQ.out (by omega) (by omega))
                            by_cases hpq : ju = aa
                            · subst hpq
                              obtain rfl : u = z := by have h1 := cju.symm.trans caa; injection h1 with h1; injection h1
                              go_region
                              go_wp2
                              go_ret2
                              have e := part_break ltInt a i j dk hi2.out hj2.out (by omega)
                              rw [PF.out, ← AE.out, e]
                              exact ⟨rfl, HS.out _⟩
                            · have hqp : ¬ aa = ju := fun e => hpq e.symm
                              go_region
                              go_wp2
                              go_ret2
                              have e := part_break ltInt a i j dk hi2.out hj2.out (by omega)
                              rw [PF.out, ← AE.out, e]
                              exact ⟨rfl, HS.out _⟩
                    · have hlez : decide ((iu : Int) ≤ (j : Int)) = false := decide_eq_false (by omega)
                      have hi2 : Hid (iu = Sort.scanUp (fun x => ltInt x dk[a]!) dk j i) := Lib.hid ((scanUp_end (fun x => ltInt x dk[a]!) dk j iu (Or.inl hle)).symm.trans hsc.out)
                      clear H
                      go_wp2_with fail
                      go_quiet ((go_at_call 85; exact Calls.quiet_of_same (less_u _ _ _)))
                      have HN := Lib.hid (HD.out.drewN nq)
                      clear hsc HD
                      go_wp2
                      go_loopw [11] (fun vj w2 => ∃ (ju : Nat), vj = .int .i64 (ju : Int) ∧ ju ≤ j ∧ iu ≤ ju + 1 ∧ AtO g n w0 dk w2 ∧ Hid (Sort.scanDown (fun x => !ltInt x dk[a]!) dk iu ju = Sort.scanDown (fun x => !ltInt x dk[a]!) dk iu j)) (fun vj _ => (intOf vj).toNat)
                      case atStart => exact ⟨j, rfl, Nat.le_refl _, hij', HN.out, Lib.hid rfl⟩
                      case round =>
                        clear HN
                        obtain ⟨ju, rfl, hjj, hij2, H, hsd⟩ := hrel
                        have HD := Lib.hid H
                        by_cases hle2 : iu ≤ ju
                        · exfalso; omega
                        · have hle2z : decide ((iu : Int) ≤ (ju : Int)) = false := decide_eq_false (by omega)
                          have hj2 : Hid (ju = Sort.scanDown (fun x => !ltInt x dk[a]!) dk iu j) := Lib.hid ((scanDown_end (fun x => !ltInt x dk[a]!) dk iu ju (Or.inl hle2)).symm.trans hsd.out)
                          have hgt : (ju : Int) < (iu : Int) := by omega
                          clear hsd H
                          go_wp2_with fail
                          go_quiet ((go_at_call 85; exact Calls.quiet_of_same (less_u _ _ _)))
                          have HN := Lib.hid (HD.out.drewN nq)
                          go_upto_region 21 with fail
                          obtain ⟨w3, hw3⟩ : ∃ X, X = wr.drewN nq := ⟨_, rfl⟩
                          rw [← hw3] at HN ⊢
                          clear hw3 hle2z
                          have ju0 : (0 : Int) ≤ (ju : Int) := by omega
                          have ju1 : (ju : Int) < (n : Int) := by omega
                          have cju := HN.out.cell ju (by omega)
                          obtain ⟨u, hu⟩ : ∃ u, u = (dk)[ju]! := ⟨_, rfl⟩
                          rw [← hu] at cju
                          obtain ⟨aa, haa⟩ : ∃ aa : Nat, aa = a := ⟨_, rfl⟩
                          have eaa : (a : Int) = (aa : Int) := by omega
                          have waa : IntKind.i64.wrap (aa : Int) = (aa : Int) := by rw [IntKind.wrap_i64]; omega
                          have aa0 : (0 : Int) ≤ (aa : Int) := by omega
                          have aa1 : (aa : Int) < (n : Int) := by omega
                          have caa := HN.out.cell aa (by omega)
                          obtain ⟨z, hz⟩ : ∃ z, z = (dk)[aa]! := ⟨_, rfl⟩
                          rw [← hz] at caa
                          have HPQ := Lib.hid (And.intro (And.intro (Eq.refl ju) hu) (And.intro haa hz))
                          have fz := HN.out.frz
                          clear hu hz haa 
                          have HS := Lib.hid (HN.out.swapL HPQ.out (by omega) (by omega))
                          by_cases hpq : ju = aa
                          · subst hpq
                            obtain rfl : u = z := by have h1 := cju.symm.trans caa; injection h1 with h1; injection h1
                            go_region
                            go_wp2
                            go_ret2
                            have e := part_break ltInt a i j dk hi2.out hj2.out (by omega)
                            rw [PF.out, ← AE.out, e]
                            exact ⟨rfl, HS.out _⟩
                          · have hqp : ¬ aa = ju := fun e => hpq e.symm
                            go_region
                            go_wp2
                            go_ret2
                            have e := part_break ltInt a i j dk hi2.out hj2.out (by omega)
                            rw [PF.out, ← AE.out, e]
                            exact ⟨rfl, HS.out _⟩
            · have hle2z : decide ((iu : Int) ≤ (ju : Int)) = false := decide_eq_false (by omega)
              have hj2 : Hid (ju = Sort.scanDown (fun x => !ltInt x dk[a]!) dk iu j) := Lib.hid ((scanDown_end (fun x => !ltInt x dk[a]!) dk iu ju (Or.inl hle2)).symm.trans hsd.out)
              have hgt : (ju : Int) < (iu : Int) := by omega
              clear hsd H
              go_wp2_with fail
              go_quiet ((go_at_call 85; exact Calls.quiet_of_same (less_u _ _ _)))
              have HN := Lib.hid (HD.out.drewN nq)
              go_upto_region 8 with fail
              obtain ⟨w3, hw3⟩ : ∃ X, X = wr.drewN nq := ⟨_, rfl⟩
              rw [← hw3] at HN ⊢
              clear hw3 hle2z
              have ju0 : (0 : Int) ≤ (ju : Int) := by omega
              have ju1 : (ju : Int) < (n : Int) := by omega
              have cju := HN.out.cell ju (by omega)
              obtain ⟨u, hu⟩ : ∃ u, u = (dk)[ju]! := ⟨_, rfl⟩
              rw [← hu] at cju
              obtain ⟨aa, haa⟩ : ∃ aa : Nat, aa = a := ⟨_, rfl⟩
              have eaa : (a : Int) = (aa : Int) := by omega
              have waa : IntKind.i64.wrap (aa : Int) = (aa : Int) := by rw [IntKind.wrap_i64]; omega
              have aa0 : (0 : Int) ≤ (aa : Int) := by omega
              have aa1 : (aa : Int) < (n : Int) := by omega
              have caa := HN.out.cell aa (by omega)
              obtain ⟨z, hz⟩ : ∃ z, z = (dk)[aa]! := ⟨_, rfl⟩
              rw [← hz] at caa
              have HPQ := Lib.hid (And.intro (And.intro (Eq.refl ju) hu) (And.intro haa hz))
              have fz := HN.out.frz
              clear hu hz haa 
              have HS := Lib.hid (HN.out.swapL HPQ.out (by omega) (by omega))
              by_cases hpq : ju = aa
              · subst hpq
                obtain rfl : u = z := by have h1 := cju.symm.trans caa; injection h1 with h1; injection h1
                go_region
                go_wp2
                go_ret2
                have e := part_first_break ltInt d a b pivot Hi.out Hj.out Hdk.out hi2.out hj2.out (by omega)
                rw [e]
                exact ⟨rfl, HS.out _⟩
              · have hqp : ¬ aa = ju := fun e => hpq e.symm
                go_region
                go_wp2
                go_ret2
                have e := part_first_break ltInt d a b pivot Hi.out Hj.out Hdk.out hi2.out hj2.out (by omega)
                rw [e]
                exact ⟨rfl, HS.out _⟩
      · have hlez : decide ((iu : Int) ≤ (j : Int)) = false := decide_eq_false (by omega)
        have hi2 : Hid (iu = Sort.scanUp (fun x => ltInt x dk[a]!) dk j i) := Lib.hid ((scanUp_end (fun x => ltInt x dk[a]!) dk j iu (Or.inl hle)).symm.trans hsc.out)
        clear H
        go_wp2_with fail
        go_quiet ((go_at_call 85; exact Calls.quiet_of_same (less_u _ _ _)))
        have HN := Lib.hid (HD.out.drewN nq)
        clear hsc HD
        go_wp2
        go_loopw [11] (fun vj w2 => ∃ (ju : Nat), vj = .int .i64 (ju : Int) ∧ ju ≤ j ∧ iu ≤ ju + 1 ∧ AtO g n w0 dk w2 ∧ Hid (Sort.scanDown (fun x => !ltInt x dk[a]!) dk iu ju = Sort.scanDown (fun x => !ltInt x dk[a]!) dk iu j)) (fun vj _ => (intOf vj).toNat)
        case atStart => exact ⟨j, rfl, Nat.le_refl _, hij', HN.out, Lib.hid rfl⟩
        case round =>
          clear HN
          obtain ⟨ju, rfl, hjj, hij2, H, hsd⟩ := hrel
          have HD := Lib.hid H
          by_cases hle2 : iu ≤ ju
          · exfalso; omega
          · have hle2z : decide ((iu : Int) ≤ (ju : Int)) = false := decide_eq_false (by omega)
            have hj2 : Hid (ju = Sort.scanDown (fun x => !ltInt x dk[a]!) dk iu j) := Lib.hid ((scanDown_end (fun x => !ltInt x dk[a]!) dk iu ju (Or.inl hle2)).symm.trans hsd.out)
            have hgt : (ju : Int) < (iu : Int) := by omega
            clear hsd H
            go_wp2_with fail
            go_quiet ((go_at_call 85; exact Calls.quiet_of_same (less_u _ _ _)))
            have HN := Lib.hid (HD.out.drewN nq)
            go_upto_region 8 with fail
            obtain ⟨w3, hw3⟩ : ∃ X, X = wr.drewN nq := ⟨_, rfl⟩
            rw [← hw3] at HN ⊢
            clear hw3 hle2z
            have ju0 : (0 : Int) ≤ (ju : Int) := by omega
            have ju1 : (ju : Int) < (n : Int) := by omega
            have cju := HN.out.cell ju (by omega)
            obtain ⟨u, hu⟩ : ∃ u, u = (dk)[ju]! := ⟨_, rfl⟩
            rw [← hu] at cju
            obtain ⟨aa, haa⟩ : ∃ aa : Nat, aa = a := ⟨_, rfl⟩
            have eaa : (a : Int) = (aa : Int) := by omega
            have waa : IntKind.i64.wrap (aa : Int) = (aa : Int) := by rw [IntKind.wrap_i64]; omega
            have aa0 : (0 : Int) ≤ (aa : Int) := by omega
            have aa1 : (aa : Int) < (n : Int) := by omega
            have caa := HN.out.cell aa (by omega)
            obtain ⟨z, hz⟩ : ∃ z, z = (dk)[aa]! := ⟨_, rfl⟩
            rw [← hz] at caa
            have HPQ := Lib.hid (And.intro (And.intro (Eq.refl ju) hu) (And.intro haa hz))
            have fz := HN.out.frz
            clear hu hz haa 
            have HS := Lib.hid (HN.out.swapL HPQ.out (by omega) (by omega))
            by_cases hpq : ju = aa
            · subst hpq
              obtain rfl : u = z := by have h1 := cju.symm.trans caa; injection h1 with h1; injection h1
              go_region
              go_wp2
              go_ret2
              have e := part_first_break ltInt d a b pivot Hi.out Hj.out Hdk.out hi2.out hj2.out (by omega)
              rw [e]
              exact ⟨rfl, HS.out _⟩
            · have hqp : ¬ aa = ju := fun e => hpq e.symm
              go_region
              go_wp2
              go_ret2
              have e := part_first_break ltInt d a b pivot Hi.out Hj.out Hdk.out hi2.out hj2.out (by omega)
              rw [e]
              exact ⟨rfl, HS.out _⟩
end Go.Proofs.YtdljphbfbiganaaGreatDoor.So
