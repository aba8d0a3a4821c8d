import Derived.Test.YtdljphbfbiganaaGreatDoorGStOBase
import Derived.Test.YtdljphbfbiganaaGreatDoorGStOSift
import Derived.Test.YtdljphbfbiganaaGreatDoorStOPar
import Derived.Test.YtdljphbfbiganaaGreatDoorStOPeq
import Derived.Test.YtdljphbfbiganaaGreatDoorStOPart
import Derived.Test.YtdljphbfbiganaaGreatDoorStOPiv
import Derived.Test.YtdljphbfbiganaaGreatDoorGStOBits
import Derived.Test.YtdljphbfbiganaaGreatDoorGStOBase
import Derived.Deep.RegionHeld3
import Derived.Sort.AssemblyPlain
import Derived.Sort.Walk13
import Derived.Sort.Walk13a
import Derived.Deep.CutBlock
import Derived.Deep.DeepCutAuto
/- pdqsort -/
namespace Go.Proofs.YtdljphbfbiganaaGreatDoor.So
open Go Go.RowKit Go.Sort Go.Proofs Go.Lib
set_option linter.unusedVariables false

set_option maxHeartbeats 25600000 in
set_option maxRecDepth 20000 in
theorem pdq_all (g n cap : Nat) (hn : n < 4611686018427387904) (w0 : World) :
    ∀ (N a b limit : Nat) (d : Array Int) (w : World), b - a < N → AtO g n w0 d w → a ≤ b → b ≤ n → limit < 4611686018427387904 → Go.Sort.Below ltInt a b d →
    Calls Tryz.prog 69 #[.slice (some ⟨g, 0, none⟩) n cap, .int .i64 (a : Int), .int .i64 (b : Int), .int .i64 (limit : Int)] w fun e w' => e = .returned (.tuple #[]) ∧ AtO g n w0 (Sort.pdq ltInt d a b limit true true) w' := by
  have hO := swo_ltInt
  intro N
  induction N with
  | zero => intro _ _ _ _ _ h; exact absurd h (Nat.not_lt_zero _)
  | succ N ih =>
    intro a b limit d w hN hT hab hb hlimit hBel0
    have H0 := Lib.hid hT
    have IH := Lib.hid ih
    have HBel0 := Lib.hid hBel0
    clear ih hT hBel0
    go_enter Tryz.func69, Tryz.ntmps69
    go_wp2
    go_loopg [1, 2, 3, 8, 9] (b - a) (fun kx s1 s2 s3 s8 s9 wr => ∃ (a' b' lim : Nat) (wb wp : Bool) (dk : Array Int), s1 = .int .i64 (a' : Int) ∧ s2 = .int .i64 (b' : Int) ∧ s3 = .int .i64 (lim : Int) ∧ s8 = .bool wb ∧ s9 = .bool wp ∧
      a' ≤ b' ∧ b' ≤ n ∧ b' - a' ≤ kx ∧ kx ≤ b - a ∧ lim ≤ limit ∧ Hid (Go.Sort.Below ltInt a' b' dk) ∧ AtO g n w0 (dk) wr ∧ Hid (Sort.pdq ltInt dk a' b' lim wb wp = Sort.pdq ltInt d a b limit true true))
    case atStart => exact ⟨a, b, limit, true, true, d, rfl, rfl, rfl, rfl, rfl, hab, hb, Nat.le_refl _, Nat.le_refl _, Nat.le_refl _, HBel0, H0.out, Lib.hid rfl⟩
    case round =>
      clear H0 HBel0
      obtain ⟨a', b', lim, wb, wp, dk, rfl, rfl, rfl, rfl, rfl, hab', hb', hkx, hkN, hlim, hBel, h, A⟩ := hrel
      have hds' : dk.size = n := h.sz
      have H := Lib.hid h
      clear h
      by_cases h12 : b' - a' ≤ 12
      · have h12z : (b' : Int) - (a' : Int) ≤ 12 := by omega
        go_wp2_with fail
        refine (ins_any g n cap hn a' b' hab' hb' dk w0 wr H.out).mono ?_
        rintro _ w9 ⟨rfl, hh⟩
        have H1 := Lib.hid hh
        clear hh
        go_wp2
        (try simp only [Exit.inBlock, Exit.then]); refine bodyPost_ret (results_none rfl _ _ _) rfl ?_
        refine ⟨rfl, ?_⟩
        rw [← A.out, pdq_small h12]
        exact H1.out
      · have h12z : ¬ ((b' : Int) - (a' : Int) ≤ 12) := by omega
        by_cases hl0 : lim = 0
        · subst hl0
          have hl0z : ((0 : Nat) : Int) = 0 := rfl
          go_wp2_with fail
          refine (heap_any g n cap hn a' b' hab' hb' dk w0 wr H.out).mono ?_
          rintro _ w9 ⟨rfl, hh⟩
          have H1 := Lib.hid hh
          clear hh
          go_wp2
          (try simp only [Exit.inBlock, Exit.then]); refine bodyPost_ret (results_none rfl _ _ _) rfl ?_
          refine ⟨rfl, ?_⟩
          rw [← A.out, pdq_heap h12 rfl]
          exact H1.out
        · have hl0z : ¬ ((lim : Int) = 0) := by omega
          obtain ⟨s1, B1, hc1, s2, B2, hpv, s3, B3⟩ := rd_facts (lt := ltInt) (limit := lim) (wb := wb) (wp := wp) hO partialInsertionSort_holds reverseRange_holds (show a' < b' by omega) (show b' ≤ dk.size by omega) hBel.out
          have HB3 := Lib.hid B3
          clear B1 B2 B3
          go_upto_if 35 with fail
          go_cut [3] from 19 (fun s3 wc => s3 = .int .i64 ((rd ltInt dk a' b' lim wb wp).lim : Int) ∧ AtO g n w0 ((rd ltInt dk a' b' lim wb wp).d1) wc)
          case first =>
            cases wb
            · have ell : (lim : Int) - 1 = ((lim - 1 : Nat) : Int) := by omega
              go_wp2_with fail
              refine (brk_any g n cap hn a' b' hab' hb' dk w0 wr H.out).mono ?_
              rintro _ w9 ⟨rfl, hh⟩
              have H1 := Lib.hid hh
              clear hh
              go_wp2
              go_meet
              case rel => exact ⟨by first | rfl | (show Value.int .i64 _ = Value.int .i64 ((lim - 1 : Nat) : Int); congr 1), by rw [rd_false.1]; exact H1.out⟩
            · go_wp2_with fail
              go_meet
              case rel => exact ⟨rfl, by rw [rd_true.1]; exact H.out⟩
          case rest =>
            obtain ⟨rfl, h1⟩ := hcut
            have H1 := Lib.hid h1
            clear h1 H
            go_wp2_with fail
            refine (piv_any g n cap hn a' b' (by omega) hb' (rd ltInt dk a' b' lim wb wp).d1 w0 wc H1.out).mono ?_
            rintro _ w2 ⟨rfl, h2⟩
            have H2 := Lib.hid h2
            clear h2 H1
            rw [show choosePivot ltInt (rd ltInt dk a' b' lim wb wp).d1 a' b' = (rd ltInt dk a' b' lim wb wp).c from rfl]
            go_upto_if 50 with fail
            go_cut [11, 12] from 19 (fun s11 s12 wc => s11 = .int .i64 ((rd ltInt dk a' b' lim wb wp).pivot : Int) ∧ s12 = .int .i64 (hintCode (rd ltInt dk a' b' lim wb wp).hint) ∧ AtO g n w0 ((rd ltInt dk a' b' lim wb wp).d2) wc)
            case first =>
              by_cases hh : (rd ltInt dk a' b' lim wb wp).c.2 = .decreasing
              · have hcode : hintCode (rd ltInt dk a' b' lim wb wp).c.2 = 2 := by rw [hh]; rfl
                obtain ⟨e2, epv, eht⟩ := rd_dec hh
                go_wp2_with fail
                refine (rev_any g n cap hn a' b' hab' hb' (rd ltInt dk a' b' lim wb wp).d1 w0 w2 H2.out).mono ?_
                rintro _ w9 ⟨rfl, hh⟩
                have H3 := Lib.hid hh
                clear hh
                go_wp2
                go_meet
                case rel =>
                  refine ⟨?_, by rw [eht]; rfl, by rw [e2]; exact H3.out⟩
                  rw [epv]
                  congr 1
                  omega
              · have hcode : ¬ (hintCode (rd ltInt dk a' b' lim wb wp).c.2 = 2) := fun h => hh (hintCode_two h)
                obtain ⟨e2, epv, eht⟩ := rd_not hh
                go_wp2_with fail
                go_meet
                case rel => exact ⟨by rw [epv], by rw [eht], by rw [e2]; exact H2.out⟩
            case rest =>
              obtain ⟨rfl, rfl, h3⟩ := hcut
              have H3 := Lib.hid h3
              clear h3 H2
              go_upto_region 15 with fail
              go_cut [12, 68] from 19 (fun s12 s68 wx => s12 = .int .i64 (hintCode (rd ltInt dk a' b' lim wb wp).hint) ∧ s68 = .bool (wb && wp && decide ((rd ltInt dk a' b' lim wb wp).hint = .increasing)) ∧ wx = wc)
              case first =>
                cases wb <;> cases wp <;> cases hh3 : (rd ltInt dk a' b' lim _ _).hint <;>
                  (have hcode3 := congrArg hintCode hh3
                   simp only [hintCode] at hcode3
                   go_wp2_with fail
                   go_meet
                   exact ⟨by simp [hh3, hintCode], by simp [hh3, hintCode], rfl⟩)
              case rest =>
                obtain ⟨rfl, rfl, rfl⟩ := hcut
                go_upto_if 68 with fail
                go_cut [] from 19 (fun wx => (rd ltInt dk a' b' lim wb wp).pi.2 = false ∧ AtO g n w0 ((rd ltInt dk a' b' lim wb wp).pi.1) wx)
                case first =>
                  cases h68 : (wb && wp && decide ((rd ltInt dk a' b' lim wb wp).hint = .increasing))
                  · have epi := rd_pi_no h68
                    go_wp2_with fail
                    go_meet
                    case rel => exact ⟨by rw [epi], by rw [epi]; exact H3.out⟩
                  · have epi := rd_pi_yes h68
                    have hc19 := par_any g n cap hn a' b' (by omega) hb' (rd ltInt dk a' b' lim wb wp).d2 w0 wc H3.out
                    rw [← epi] at hc19
                    have HC19 := Lib.hid hc19
                    clear hc19
                    go_wp2_with fail
                    refine HC19.out.mono ?_
                    rintro _ w4 ⟨rfl, h4⟩
                    have H4 := Lib.hid h4
                    clear h4 HC19
                    cases hp2 : (rd ltInt dk a' b' lim wb wp).pi.2 with
                    | false =>
                      go_wp2
                      go_meet
                      exact ⟨hp2, H4.out⟩
                    | true =>
                      go_wp2
                      (try simp only [Exit.inBlock, Exit.then]); refine bodyPost_ret (results_none rfl _ _ _) rfl ?_
                      refine ⟨rfl, ?_⟩
                      rw [← A.out, pdq_done h12 hl0 hp2]
                      exact H4.out
                case rest =>
                  obtain ⟨hp2, h5⟩ := hcut
                  have H5 := Lib.hid h5
                  have HP2 := Lib.hid hp2
                  clear h5 H3 hp2
                  obtain ⟨pv, hpv2⟩ : ∃ pv, pv = (rd ltInt dk a' b' lim wb wp).pivot := ⟨_, rfl⟩
                  obtain ⟨dp, hdp⟩ : ∃ dp, dp = (rd ltInt dk a' b' lim wb wp).pi.1 := ⟨_, rfl⟩
                  have hpvb : pv < n := by omega
                  rw [← hpv2]
                  rw [← hdp] at H5
                  have HV2 := Lib.hid hpv2
                  have HDP := Lib.hid hdp
                  clear hpv2 hdp
                  go_upto_region 17 with fail
                  go_cut [87] from 19 (fun s83 wx => s83 = .bool (decide (a' > 0) && !ltInt dp[a' - 1]! dp[pv]!) ∧ AtO g n w0 (dp) wx)
                  case first =>
                    clear HV2 HDP HB3
                    rcases Nat.eq_zero_or_pos a' with ha0 | ha0
                    · have ha0z : decide ((0 : Int) < (a' : Int)) = false := decide_eq_false (by omega)
                      go_wp2_with fail
                      go_quiet ((go_at_call 85; exact Calls.quiet_of_same (less_u _ _ _)))
                      go_wp2
                      go_meet
                      case rel => exact ⟨by simp [ha0], H5.out.drewN _⟩
                    · have ha0z : (0 : Int) < (a' : Int) := by omega
                      cases hlv : ltInt dp[a' - 1]! dp[pv]! with
                      | false =>
                        have HV := Lib.hid hlv
                        obtain ⟨q, hq⟩ : ∃ q : Nat, q = a' - 1 := ⟨_, rfl⟩
                        have eq : (a' : Int) - 1 = (q : Int) := by omega
                        have wq : IntKind.i64.wrap (q : Int) = (q : Int) := by rw [IntKind.wrap_i64]; omega
                        have q0 : (0 : Int) ≤ (q : Int) := by omega
                        have q1 : (q : Int) < (n : Int) := by omega
                        have cq := H5.out.cell q (by omega)
                        obtain ⟨x, hx⟩ : ∃ x, x = (dp)[q]! := ⟨_, rfl⟩
                        rw [← hx] at cq
                        have pv0 : (0 : Int) ≤ (pv : Int) := by omega
                        have pv1 : (pv : Int) < (n : Int) := by omega
                        have cpv := H5.out.cell pv (by omega)
                        obtain ⟨y, hy⟩ : ∃ y, y = (dp)[pv]! := ⟨_, rfl⟩
                        rw [← hy] at cpv
                        have HPQ := Lib.hid (And.intro (And.intro hq hx) (And.intro (Eq.refl pv) hy))
                        have fz := H5.out.frz
                        have hl : ltInt x y = false := by rw [hx, hq, hy]; exact hlv
                        clear hx hy hq hlv
                        go_wp2_with fail
                        go_quiet ((go_at_call 85; exact Calls.quiet_of_same (less_u _ _ _)))
                        have H6 := Lib.hid (H5.out.drewN nq)
                        go_wp2
                        go_meet
                        exact ⟨by rw [HV.out]; simp [ha0], H6.out⟩
                      | true =>
                        have HV := Lib.hid hlv
                        obtain ⟨q, hq⟩ : ∃ q : Nat, q = a' - 1 := ⟨_, rfl⟩
                        have eq : (a' : Int) - 1 = (q : Int) := by omega
                        have wq : IntKind.i64.wrap (q : Int) = (q : Int) := by rw [IntKind.wrap_i64]; omega
                        have q0 : (0 : Int) ≤ (q : Int) := by omega
                        have q1 : (q : Int) < (n : Int) := by omega
                        have cq := H5.out.cell q (by omega)
                        obtain ⟨x, hx⟩ : ∃ x, x = (dp)[q]! := ⟨_, rfl⟩
                        rw [← hx] at cq
                        have pv0 : (0 : Int) ≤ (pv : Int) := by omega
                        have pv1 : (pv : Int) < (n : Int) := by omega
                        have cpv := H5.out.cell pv (by omega)
                        obtain ⟨y, hy⟩ : ∃ y, y = (dp)[pv]! := ⟨_, rfl⟩
                        rw [← hy] at cpv
                        have HPQ := Lib.hid (And.intro (And.intro hq hx) (And.intro (Eq.refl pv) hy))
                        have fz := H5.out.frz
                        have hl : ltInt x y = true := by rw [hx, hq, hy]; exact hlv
                        clear hx hy hq hlv
                        go_wp2_with fail
                        go_quiet ((go_at_call 85; exact Calls.quiet_of_same (less_u _ _ _)))
                        have H6 := Lib.hid (H5.out.drewN nq)
                        go_wp2
                        go_meet
                        exact ⟨by rw [HV.out]; simp [ha0], H6.out⟩
                  case rest =>
                    obtain ⟨rfl, h6⟩ := hcut
                    have hpv2 := HV2.out
                    have hdp := HDP.out
                    clear HV2 HDP
                    subst hpv2 hdp
                    have H6 := Lib.hid h6
                    clear h6 H5
                    have hp2 := HP2.out
                    have hs6 := H6.out.sz
                    cases h87 : (decide (a' > 0) && !ltInt (rd ltInt dk a' b' lim wb wp).pi.1[a' - 1]! (rd ltInt dk a' b' lim wb wp).pi.1[(rd ltInt dk a' b' lim wb wp).pivot]!)
                    · obtain ⟨mid, ap, d4, hx⟩ : ∃ mid ap d4, Sort.partition ltInt (rd ltInt dk a' b' lim wb wp).pi.1 a' b' (rd ltInt dk a' b' lim wb wp).pivot = (mid, ap, d4) := ⟨_, _, _, rfl⟩
                      obtain ⟨r1, r2, r3, r4, r5, r6, r7⟩ := round_part hO (partition_holds ltInt) hpv.1 hpv.2 (show b' ≤ (rd ltInt dk a' b' lim wb wp).pi.1.size by omega) HB3.out hx
                      have hc22 := part_any g n cap hn a' b' (rd ltInt dk a' b' lim wb wp).pivot hpv.1 hpv.2 hb' (rd ltInt dk a' b' lim wb wp).pi.1 w0 wc H6.out
                      rw [hx] at hc22
                      have X := Lib.hid hx
                      have R6 := Lib.hid r6; have R7 := Lib.hid r7; have R4 := Lib.hid r4; have R5 := Lib.hid r5
                      have HC := Lib.hid hc22
                      have HP3 := Lib.hid hp2
                      clear hx r6 r7 r4 r5 hc22 hp2
                      go_wp2_with fail
                      refine HC.out.mono ?_
                      rintro _ w7 ⟨rfl, h7⟩
                      have H7 := Lib.hid h7
                      clear h7 H6 HC
                      go_upto_if 113 with fail
                      have hx := X.out
                      have hp2 := HP3.out
                      by_cases h4 : mid - a' < b' - mid
                      · have h4z : (mid : Int) - (a' : Int) < (b' : Int) - (mid : Int) := by omega
                        have HIH := Lib.hid (IH.out a' mid (rd ltInt dk a' b' lim wb wp).lim d4 w7 (by omega) H7.out (by omega) (by omega) (Nat.lt_of_le_of_lt (Nat.le_trans rd_lim_le hlim) hlimit) R4.out)
                        obtain ⟨pL, sL⟩ := pdq_sorts ltInt hO d4 a' mid (rd ltInt dk a' b' lim wb wp).lim true true (by omega) (by have := H7.out.sz; omega) R4.out
                        have PL := Lib.hid pL; have SL := Lib.hid sL
                        have HXX := Lib.hid hx
                        clear pL sL hx hp2
                        go_wp2_with fail
                        refine HIH.out.mono ?_
                        rintro _ w8 ⟨rfl, h8⟩
                        have H8 := Lib.hid h8
                        clear h8 HIH
                        go_wp2
                        go_roundg (b' - (mid + 1))
                        case measure => omega
                        case rel =>
                          have hx := HXX.out
                          have hp2 := HP3.out
                          refine ⟨mid + 1, b', (rd ltInt dk a' b' lim wb wp).lim, decide (mid - a' ≥ (b' - a') / 8), ap, Sort.pdq ltInt d4 a' mid (rd ltInt dk a' b' lim wb wp).lim true true, by go_num, rfl, rfl, ?_, rfl, by omega, by omega, Nat.le_refl _, by omega, Nat.le_trans rd_lim_le hlim, Lib.hid (R6.out _ PL.out SL.out).1, H8.out, Lib.hid ?_⟩
                          · exact congrArg Value.bool (eighth (by omega) (by omega))
                          · rw [← A.out, pdq_left h12 hl0 hp2 h87 (by rw [hx]; exact ⟨r1, r2⟩) (by rw [hx]; exact h4), hx]
                      · have h4z : ¬ ((mid : Int) - (a' : Int) < (b' : Int) - (mid : Int)) := by omega
                        have hih := IH.out (mid + 1) b' (rd ltInt dk a' b' lim wb wp).lim d4 w7 (by omega) H7.out (by omega) (by omega) (Nat.lt_of_le_of_lt (Nat.le_trans rd_lim_le hlim) hlimit) R5.out
                        rw [show ((mid + 1 : Nat) : Int) = (mid : Int) + 1 by omega] at hih
                        have HIH := Lib.hid hih
                        obtain ⟨pL, sL⟩ := pdq_sorts ltInt hO d4 (mid + 1) b' (rd ltInt dk a' b' lim wb wp).lim true true (by omega) (by have := H7.out.sz; omega) R5.out
                        have PL := Lib.hid pL; have SL := Lib.hid sL
                        have HXX := Lib.hid hx
                        clear pL sL hih hx hp2
                        go_wp2_with fail
                        refine HIH.out.mono ?_
                        rintro _ w8 ⟨rfl, h8⟩
                        have H8 := Lib.hid h8
                        clear h8 HIH
                        go_wp2
                        go_roundg (mid - a')
                        case measure => omega
                        case rel =>
                          have hx := HXX.out
                          have hp2 := HP3.out
                          refine ⟨a', mid, (rd ltInt dk a' b' lim wb wp).lim, decide (b' - mid ≥ (b' - a') / 8), ap, Sort.pdq ltInt d4 (mid + 1) b' (rd ltInt dk a' b' lim wb wp).lim true true, rfl, rfl, rfl, ?_, rfl, by omega, by omega, Nat.le_refl _, by omega, Nat.le_trans rd_lim_le hlim, Lib.hid (R7.out _ PL.out SL.out).1, H8.out, Lib.hid ?_⟩
                          · exact congrArg Value.bool (eighth (by omega) (by omega))
                          · rw [← A.out, pdq_right h12 hl0 hp2 h87 (by rw [hx]; exact ⟨r1, r2⟩) (by rw [hx]; exact h4), hx]
                    · have h87' := h87
                      simp only [Bool.and_eq_true, decide_eq_true_eq, Bool.not_eq_true'] at h87'
                      obtain ⟨mid, d4, hx⟩ : ∃ mid d4, Sort.partitionEqual ltInt (rd ltInt dk a' b' lim wb wp).pi.1 a' b' (rd ltInt dk a' b' lim wb wp).pivot = (mid, d4) := ⟨_, _, rfl⟩
                      obtain ⟨r1, r2, r3, r4, _⟩ := round_eq hO (partitionEqual_holds ltInt) h87'.1 hpv.1 hpv.2 (show b' ≤ (rd ltInt dk a' b' lim wb wp).pi.1.size by omega) HB3.out h87'.2 hx
                      have hc21 := peq_any g n cap hn a' b' (rd ltInt dk a' b' lim wb wp).pivot hpv.1 hpv.2 hb' (rd ltInt dk a' b' lim wb wp).pi.1 w0 wc H6.out
                      rw [hx] at hc21
                      have X := Lib.hid hx
                      have R4 := Lib.hid r4
                      have HC := Lib.hid hc21
                      have HP3 := Lib.hid hp2
                      clear hx r4 h87' hc21 hp2
                      go_wp2_with fail
                      refine HC.out.mono ?_
                      rintro _ w7 ⟨rfl, h7⟩
                      have H7 := Lib.hid h7
                      clear h7 H6 HC
                      go_wp2
                      go_roundg (b' - mid)
                      case measure => omega
                      case rel =>
                        have hx := X.out
                        have hp2 := HP3.out
                        exact ⟨mid, b', (rd ltInt dk a' b' lim wb wp).lim, wb, wp, d4, rfl, rfl, rfl, rfl, rfl, r2, hb', Nat.le_refl _, by omega, Nat.le_trans rd_lim_le hlim, R4, H7.out, Lib.hid (by rw [← A.out, pdq_eq h12 hl0 hp2 h87 (by rw [hx]; exact ⟨r1, r2⟩), hx])⟩
end Go.Proofs.YtdljphbfbiganaaGreatDoor.So
