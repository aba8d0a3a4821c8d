import Derived.Test.YtpkkomifenlkaaaGreatSt1
import Derived.Test.YtpkkomifenlkaaaGreatSt1
import Derived.Test.YtpkkomifenlkaaaGreatSt2
import Derived.Test.YtpkkomifenlkaaaGreatSt2
import Derived.Test.YtpkkomifenlkaaaGreatSt2
import Derived.Test.YtpkkomifenlkaaaGreatSt2
import Derived.Sort.AssemblyPlain
import Derived.Sort.Walk13
import Derived.Sort.Walk13a
import Derived.Shelf.GgSortMore.Iface
import Derived.Deep.LoopGhost
import Derived.WalkKit
import Derived.BigCall
import Derived.BigGuard
import Derived.Sort.Walk7
import Derived.Shelf.SlSortFunc.Xorshift
import Derived.Shelf.GgSortMore.Bridge
import Derived.Shelf.GgSortMore.IfacePdq
import Derived.Lib.Hide
import Derived.Shelf.GgSortFunc.SmallK
import Derived.Shelf.SlSortFuncK.BreakPatternsK
/- pdqsort, iface -/
namespace Go.Proofs.YtpkkomifenlkaaaGreat.St
open Go Go.RowKit Go.Shelf Go.Lib Go.Sort Go.Proofs
variable {P : Program} {ρ : Ren} {α : Type} [Inhabited α]

set_option maxHeartbeats 25600000 in
set_option maxRecDepth 1000000 in
theorem pdq_all (L : LaysGt.n18 P ρ) (lt : α → α → Bool) (hO : SWO lt) (B size : Nat) (T : Array α → World → Prop) (ty : TypeId) (rv : Value) (gl gs : Nat) (F : IfaceFam P lt B size T ty rv gl gs)
    (hbrk : ∀ (d : Array α) (W : World) (a b : Nat), T d W → a ≤ b → b ≤ size → Calls P (ρ.f 35) #[.iface ty rv, .int .i64 a, .int .i64 b] W fun e w => e = .returned (.tuple #[]) ∧ T (breakPatterns d a b) w ∧ Up B W w)
    (hrev : ∀ (d : Array α) (W : World) (a b : Nat), T d W → a ≤ b → b ≤ size → Calls P (ρ.f 37) #[.iface ty rv, .int .i64 a, .int .i64 b] W fun e w => e = .returned (.tuple #[]) ∧ T (reverseRange d a b) w ∧ Up B W w) :
    ∀ (N a b limit : Nat) (d : Array α) (w : World), b - a < N → T d w → a ≤ b → b ≤ size → limit < 4611686018427387904 → Go.Sort.Below lt a b d →
    Calls P (ρ.f 18) #[.iface ty rv, .int .i64 a, .int .i64 b, .int .i64 limit] w fun e w' => e = .returned (.tuple #[]) ∧ T (Sort.pdq lt d a b limit true true) w' ∧ Up B w w' := by
  have mixed := L.mixed; have t0 := L.t0; have a0 := L.a0; have z0 := L.z0; have v0 := L.v0; have t3 := L.t3; have a3 := L.a3; have z3 := L.z3
  have v3 := L.v3; have t4 := L.t4; have a4 := L.a4; have z4 := L.z4; have v4 := L.v4; have t5 := L.t5; have a5 := L.a5; have z5 := L.z5
  have v5 := L.v5; have t9 := L.t9; have a9 := L.a9; have z9 := L.z9; have v9 := L.v9; have t26 := L.t26; have a26 := L.a26; have z26 := L.z26
  have v26 := L.v26; have t38 := L.t38; have a38 := L.a38; have z38 := L.z38; have v38 := L.v38; have t43 := L.t43; have a43 := L.a43; have z43 := L.z43
  have v43 := L.v43; have t45 := L.t45; have a45 := L.a45; have z45 := L.z45; have v45 := L.v45; have t47 := L.t47; have a47 := L.a47; have z47 := L.z47
  have v47 := L.v47; have t56 := L.t56; have a56 := L.a56; have z56 := L.z56; have v56 := L.v56; have t58 := L.t58; have a58 := L.a58; have z58 := L.z58
  have v58 := L.v58; have t60 := L.t60; have a60 := L.a60; have z60 := L.z60; have v60 := L.v60; have t61 := L.t61; have a61 := L.a61; have z61 := L.z61
  have v61 := L.v61; have t65 := L.t65; have a65 := L.a65; have z65 := L.z65; have v65 := L.v65; have t67 := L.t67; have a67 := L.a67; have z67 := L.z67
  have v67 := L.v67; have t71 := L.t71; have a71 := L.a71; have z71 := L.z71; have v71 := L.v71; have t73 := L.t73; have a73 := L.a73; have z73 := L.z73
  have v73 := L.v73; have t74 := L.t74; have a74 := L.a74; have z74 := L.z74; have v74 := L.v74
  have mL := F.mL; have mS := F.mS; have eL := F.eL; have eS := F.eS
  have hsz := F.small
  have e33 : ∀ args w, (callFunc (ρ.f 33) args).run P w = .ok (.enter (ρ.f 33) args) w := enters_of L.f33 (by kernel_rfl) rfl
  have e34 : ∀ args w, (callFunc (ρ.f 34) args).run P w = .ok (.enter (ρ.f 34) args) w := enters_of L.f34 (by kernel_rfl) rfl
  have e35 : ∀ args w, (callFunc (ρ.f 35) args).run P w = .ok (.enter (ρ.f 35) args) w := enters_of L.f35 (by kernel_rfl) rfl
  have e36 : ∀ args w, (callFunc (ρ.f 36) args).run P w = .ok (.enter (ρ.f 36) args) w := enters_of L.f36 (by kernel_rfl) rfl
  have e37 : ∀ args w, (callFunc (ρ.f 37) args).run P w = .ok (.enter (ρ.f 37) args) w := enters_of L.f37 (by kernel_rfl) rfl
  have e38 : ∀ args w, (callFunc (ρ.f 38) args).run P w = .ok (.enter (ρ.f 38) args) w := enters_of L.f38 (by kernel_rfl) rfl
  have e39 : ∀ args w, (callFunc (ρ.f 39) args).run P w = .ok (.enter (ρ.f 39) args) w := enters_of L.f39 (by kernel_rfl) rfl
  have e40 : ∀ args w, (callFunc (ρ.f 40) args).run P w = .ok (.enter (ρ.f 40) args) w := enters_of L.f40 (by kernel_rfl) rfl
  have e18 : ∀ args w, (callFunc (ρ.f 18) args).run P w = .ok (.enter (ρ.f 18) args) w := enters_of L.f18 (by kernel_rfl) rfl
  have HBRK : Hid _ := hbrk
  have HREV : Hid _ := hrev
  clear hbrk hrev
  intro N
  induction N with
  | zero => intro _ _ _ _ _ h; exact absurd h (Nat.not_lt_zero _)
  | succ N ih =>
    intro a b limit d w hN hT hab hb hlimit hBel0
    have hds := F.play.size hT
    have H0 := AtI.start (B := B) hT
    have IH : Hid _ := ih
    clear ih
    go_enter L.f18, BodyGt.n18_ntmps ρ
    go_wp2
    go_loopg [1, 2, 3, 8, 9] (b - a) (fun kx s1 s2 s3 s8 s9 wr => ∃ (a' b' lim : Nat) (wb wp : Bool) (dk : Array α), s1 = .int .i64 a' ∧ s2 = .int .i64 b' ∧ s3 = .int .i64 lim ∧ s8 = .bool wb ∧ s9 = .bool wp ∧
      a' ≤ b' ∧ b' ≤ size ∧ b' - a' ≤ kx ∧ kx ≤ b - a ∧ lim ≤ limit ∧ Hid (Go.Sort.Below lt a' b' dk) ∧ AtI B T w dk wr ∧ Hid (Sort.pdq lt dk a' b' lim wb wp = Sort.pdq lt d a b limit true true))
    case atStart => exact ⟨a, b, limit, true, true, d, rfl, rfl, rfl, rfl, rfl, hab, hb, Nat.le_refl _, Nat.le_refl _, Nat.le_refl _, hBel0, H0, rfl⟩
    case round =>
      clear H0 hBel0
      obtain ⟨a', b', lim, wb, wp, dk, rfl, rfl, rfl, rfl, rfl, hab', hb', hkx, hkN, hlim, hBel, H, A⟩ := hrel
      have hds' : dk.size = size := F.play.size H.st
      skip
      by_cases h12 : b' - a' ≤ 12
      · have h12z : (b' : Int) - (a' : Int) ≤ 12 := by omega
        have hc := ins_any (ρ := ρ) { L with } lt B size T ty rv gl gs F a' b' hab' hb' dk wr H.st
        go_wp2_with (go_at_fn (ρ.f 33); refine hc.mono ?_; rintro e w1 ⟨rfl, hT1, hU1⟩)
        (try simp only [Exit.inBlock, Exit.then]); refine bodyPost_ret (results_none rfl _ _ _) rfl ?_
        have H1 := H.call hT1 hU1
        refine ⟨rfl, ?_, H1.up⟩
        rw [← A.out, pdq_small h12]
        exact H1.st
      · have h12z : ¬ ((b' : Int) - (a' : Int) ≤ 12) := by omega
        by_cases hl0 : lim = 0
        · subst hl0
          have hc := heap_any (ρ := ρ) { L with } lt B size T ty rv gl gs F a' b' hab' hb' dk wr H.st
          go_wp2_with (go_at_fn (ρ.f 34); refine hc.mono ?_; rintro e w1 ⟨rfl, hT1, hU1⟩)
          (try simp only [Exit.inBlock, Exit.then]); refine bodyPost_ret (results_none rfl _ _ _) rfl ?_
          have H1 := H.call hT1 hU1
          refine ⟨rfl, ?_, H1.up⟩
          rw [← A.out, pdq_heap h12 rfl]
          exact H1.st
        · have hl0z : ¬ ((lim : Int) = 0) := by omega
          obtain ⟨s1, B1, hc1, s2, B2, hpv, s3, B3⟩ := rd_facts (lt := lt) (limit := lim) (wb := wb) (wp := wp) hO partialInsertionSort_holds reverseRange_holds (show a' < b' by omega) (show b' ≤ dk.size by omega) hBel.out
          have HB3 : Hid _ := B3
          clear B1 B2 B3
          go_upto_if 35 with fail
          go_cut [3] from 19 (fun s3 wc => s3 = .int .i64 (rd lt dk a' b' lim wb wp).lim ∧ AtI B T w (rd lt dk a' b' lim wb wp).d1 wc)
          case first =>
            cases wb
            · have hc := HBRK.out dk wr a' b' H.st hab' hb'
              go_wp2_with (go_at_fn (ρ.f 35); refine hc.mono ?_; rintro e w1 ⟨rfl, hT1, hU1⟩)
              go_meet
              case rel =>
                refine ⟨?_, by rw [rd_false.1]; exact H.call hT1 hU1⟩
                show Value.int .i64 ((lim : Int) - 1) = Value.int .i64 ((lim - 1 : Nat) : Int)
                congr 1
                omega
            · go_wp2_with fail
              go_meet
              case rel => exact ⟨rfl, by rw [rd_true.1]; exact H⟩
          case rest =>
            obtain ⟨rfl, H1⟩ := hcut
            clear H
            skip
            skip
            have hc17 : Calls P (ρ.f 36) #[.iface ty rv, .int .i64 a', .int .i64 b'] wc fun e w' => e = .returned (.tuple #[.int .i64 (rd lt dk a' b' lim wb wp).c.1, .int .i64 (hintCode (rd lt dk a' b' lim wb wp).c.2)]) ∧ T (rd lt dk a' b' lim wb wp).d1 w' ∧ Up B wc w' :=
              piv_any (ρ := ρ) { L with } lt B size T ty rv gl gs F a' b' (by omega) hb' (rd lt dk a' b' lim wb wp).d1 wc H1.st
            go_upto_if 50 with (go_at_fn (ρ.f 36); refine hc17.mono ?_; rintro e w2 ⟨rfl, hT2, hU2⟩)
            have H2 := H1.call hT2 hU2
            clear H1 hc17
            skip
            skip
            go_cut [11, 12] from 19 (fun s11 s12 wc => s11 = .int .i64 (rd lt dk a' b' lim wb wp).pivot ∧ s12 = .int .i64 (hintCode (rd lt dk a' b' lim wb wp).hint) ∧ AtI B T w (rd lt dk a' b' lim wb wp).d2 wc)
            case first =>
              by_cases hh : (rd lt dk a' b' lim wb wp).c.2 = .decreasing
              · have hcode : hintCode (rd lt dk a' b' lim wb wp).c.2 = 2 := by rw [hh]; rfl
                obtain ⟨e2, epv, eht⟩ := rd_dec hh
                have hc18 := HREV.out (rd lt dk a' b' lim wb wp).d1 w2 a' b' H2.st hab' hb'
                go_wp2_with (go_at_fn (ρ.f 37); refine hc18.mono ?_; rintro e w3 ⟨rfl, hT3, hU3⟩)
                go_meet
                case rel =>
                  refine ⟨?_, by rw [eht]; rfl, by rw [e2]; exact H2.call hT3 hU3⟩
                  rw [epv]
                  congr 1
                  omega
              · have hcode : ¬ (hintCode (rd lt dk a' b' lim wb wp).c.2 = 2) := fun h => hh (hintCode_two h)
                obtain ⟨e2, epv, eht⟩ := rd_not hh
                go_wp2_with fail
                go_meet
                case rel => exact ⟨by rw [epv], by rw [eht], by rw [e2]; exact H2⟩
            case rest =>
              obtain ⟨rfl, rfl, H3⟩ := hcut
              clear H2
              skip
              skip
              go_upto_region 15 with fail
              go_cut [12, 68] from 19 (fun s12 s68 wx => s12 = .int .i64 (hintCode (rd lt dk a' b' lim wb wp).hint) ∧ s68 = .bool (wb && wp && decide ((rd lt dk a' b' lim wb wp).hint = .increasing)) ∧ wx = wc)
              case first =>
                cases wb <;> cases wp <;> cases hh3 : (rd lt dk a' b' lim _ _).hint <;>
                  (have hcode3 := congrArg hintCode hh3
                   simp only [hintCode] at hcode3
                   go_wp2_with fail
                   go_meet
                   exact ⟨by simp [hh3, hintCode], by simp [hh3, hintCode], rfl⟩)
              case rest =>
                obtain ⟨rfl, rfl, rfl⟩ := hcut
                go_upto_if 68 with fail
                go_cut [] from 19 (fun wx => (rd lt dk a' b' lim wb wp).pi.2 = false ∧ AtI B T w (rd lt dk a' b' lim wb wp).pi.1 wx)
                case first =>
                  cases h68 : (wb && wp && decide ((rd lt dk a' b' lim wb wp).hint = .increasing))
                  · have epi := rd_pi_no h68
                    go_wp2_with fail
                    go_meet
                    case rel => exact ⟨by rw [epi], by rw [epi]; exact H3⟩
                  · have epi := rd_pi_yes h68
                    have hc19 := par_any (ρ := ρ) { L with } lt B size T ty rv gl gs F a' b' (by omega) hb' (rd lt dk a' b' lim wb wp).d2 wc H3.st
                    rw [← epi] at hc19
                    go_wp2_with (go_at_fn (ρ.f 38); refine hc19.mono ?_; rintro e w4 ⟨rfl, hT4, hU4⟩)
                    all_goals first
                      | (have hp2 : (rd lt dk a' b' lim wb wp).pi.2 = false := by rw [epi]; assumption
                         go_meet
                         exact ⟨hp2, H3.call hT4 hU4⟩)
                      | (have hp2 : (rd lt dk a' b' lim wb wp).pi.2 = true := by rw [epi]; assumption
                         (try simp only [Exit.inBlock, Exit.then]); refine bodyPost_ret (results_none rfl _ _ _) rfl ?_
                         have H4 := H3.call hT4 hU4
                         refine ⟨rfl, ?_, H4.up⟩
                         rw [← A.out, pdq_done h12 hl0 hp2]
                         exact H4.st)
                case rest =>
                  obtain ⟨hp2, H5⟩ := hcut
                  clear H3
                  skip
                  skip
                  have hs5 := F.play.size H5.st
                  go_upto_region 17 with fail
                  go_cut [82] from 19 (fun s83 wx => s83 = .bool (decide (a' > 0) && !lt (rd lt dk a' b' lim wb wp).pi.1[a' - 1]! (rd lt dk a' b' lim wb wp).pi.1[(rd lt dk a' b' lim wb wp).pivot]!) ∧ AtI B T w (rd lt dk a' b' lim wb wp).pi.1 wx)
                  case first =>
                    rcases Nat.eq_zero_or_pos a' with ha0 | ha0
                    · have ha0z : decide ((a' : Int) > 0) = false := decide_eq_false (by omega)
                      go_wp2_with fail
                      go_meet
                      case rel => exact ⟨by simp [ha0], H5⟩
                    · have ha0z : (a' : Int) > 0 := by omega
                      cases hlv : lt (rd lt dk a' b' lim wb wp).pi.1[a' - 1]! (rd lt dk a' b' lim wb wp).pi.1[(rd lt dk a' b' lim wb wp).pivot]! with
                      | false =>
                        have hl := H5.less F (a' - 1) (rd lt dk a' b' lim wb wp).pivot false (by omega) (by omega) hlv
                        rw [show ((a' - 1 : Nat) : Int) = (a' : Int) - 1 by omega] at hl
                        go_wp2_with (go_at_fn gl; refine hl.mono ?_; rintro e w6 ⟨rfl, H6⟩)
                        go_meet
                        exact ⟨by simp [ha0, hlv], H6⟩
                      | true =>
                        have hl := H5.less F (a' - 1) (rd lt dk a' b' lim wb wp).pivot true (by omega) (by omega) hlv
                        rw [show ((a' - 1 : Nat) : Int) = (a' : Int) - 1 by omega] at hl
                        go_wp2_with (go_at_fn gl; refine hl.mono ?_; rintro e w6 ⟨rfl, H6⟩)
                        go_meet
                        exact ⟨by simp [ha0, hlv], H6⟩
                  case rest =>
                    obtain ⟨rfl, H6⟩ := hcut
                    clear H5
                    skip
                    skip
                    cases h87 : (decide (a' > 0) && !lt (rd lt dk a' b' lim wb wp).pi.1[a' - 1]! (rd lt dk a' b' lim wb wp).pi.1[(rd lt dk a' b' lim wb wp).pivot]!)
                    · obtain ⟨mid, ap, d4, hx⟩ : ∃ mid ap d4, partition lt (rd lt dk a' b' lim wb wp).pi.1 a' b' (rd lt dk a' b' lim wb wp).pivot = (mid, ap, d4) := ⟨_, _, _, rfl⟩
                      obtain ⟨r1, r2, r3, r4, r5, r6, r7⟩ := round_part hO (partition_holds lt) hpv.1 hpv.2 (show b' ≤ (rd lt dk a' b' lim wb wp).pi.1.size by omega) HB3.out hx
                      have hc22 := part_any (ρ := ρ) { L with } lt B size T ty rv gl gs F a' b' (rd lt dk a' b' lim wb wp).pivot hpv.1 hpv.2 hb' (rd lt dk a' b' lim wb wp).pi.1 wc H6.st
                      rw [hx] at hc22
                      have X : Hid (partition lt (rd lt dk a' b' lim wb wp).pi.1 a' b' (rd lt dk a' b' lim wb wp).pivot = (mid, ap, d4)) := hx
                      have R6 : Hid _ := r6; have R7 : Hid _ := r7; have R4 : Hid _ := r4; have R5 : Hid _ := r5
                      clear hx r6 r7 r4 r5
                      go_upto_if 108 with (go_at_fn (ρ.f 40); refine hc22.mono ?_; rintro e w7 ⟨rfl, hT7, hU7⟩)
                      have hx := X.out
                      have H7 := H6.call hT7 hU7
                      clear hc22 H6
                      skip
                      skip
                      have hs4 := F.play.size H7.st
                      by_cases h4 : mid - a' < b' - mid
                      · have h4z : (mid : Int) - (a' : Int) < (b' : Int) - (mid : Int) := by omega
                        have hih := IH.out a' mid (rd lt dk a' b' lim wb wp).lim d4 w7 (by omega) H7.st (by omega) (by omega) (Nat.lt_of_le_of_lt (Nat.le_trans rd_lim_le hlim) hlimit) R4.out
                        obtain ⟨pL, sL⟩ := pdq_sorts lt hO d4 a' mid (rd lt dk a' b' lim wb wp).lim true true (by omega) (by omega) R4.out
                        have PL : Hid _ := pL; have SL : Hid _ := sL
                        clear pL sL
                        go_wp2_with (go_at_fn (ρ.f 18); refine hih.mono ?_; rintro e w8 ⟨rfl, hT8, hU8⟩)
                        go_roundg (b' - (mid + 1))
                        case measure => omega
                        case rel =>
                          refine ⟨mid + 1, b', (rd lt dk a' b' lim wb wp).lim, decide (mid - a' ≥ (b' - a') / 8), ap, Sort.pdq lt d4 a' mid (rd lt dk a' b' lim wb wp).lim true true, by simp, rfl, rfl, ?_, rfl, by omega, by omega, Nat.le_refl _, by omega, Nat.le_trans rd_lim_le hlim, (R6.out _ PL.out SL.out).1, H7.call hT8 hU8, ?_⟩
                          · exact congrArg Value.bool (eighth (by omega) (by omega))
                          · show _ = _
                            rw [← A.out, pdq_left h12 hl0 hp2 h87 (by rw [hx]; exact ⟨r1, r2⟩) (by rw [hx]; exact h4), hx]
                      · have h4z : ¬ ((mid : Int) - (a' : Int) < (b' : Int) - (mid : Int)) := by omega
                        have hih := IH.out (mid + 1) b' (rd lt dk a' b' lim wb wp).lim d4 w7 (by omega) H7.st (by omega) (by omega) (Nat.lt_of_le_of_lt (Nat.le_trans rd_lim_le hlim) hlimit) R5.out
                        rw [show ((mid + 1 : Nat) : Int) = (mid : Int) + 1 by omega] at hih
                        obtain ⟨pL, sL⟩ := pdq_sorts lt hO d4 (mid + 1) b' (rd lt dk a' b' lim wb wp).lim true true (by omega) (by omega) R5.out
                        have PL : Hid _ := pL; have SL : Hid _ := sL
                        clear pL sL
                        go_wp2_with (go_at_fn (ρ.f 18); refine hih.mono ?_; rintro e w8 ⟨rfl, hT8, hU8⟩)
                        go_roundg (mid - a')
                        case measure => omega
                        case rel =>
                          refine ⟨a', mid, (rd lt dk a' b' lim wb wp).lim, decide (b' - mid ≥ (b' - a') / 8), ap, Sort.pdq lt d4 (mid + 1) b' (rd lt dk a' b' lim wb wp).lim true true, rfl, rfl, rfl, ?_, rfl, by omega, by omega, Nat.le_refl _, by omega, Nat.le_trans rd_lim_le hlim, (R7.out _ PL.out SL.out).1, H7.call hT8 hU8, ?_⟩
                          · exact congrArg Value.bool (eighth (by omega) (by omega))
                          · show _ = _
                            rw [← A.out, pdq_right h12 hl0 hp2 h87 (by rw [hx]; exact ⟨r1, r2⟩) (by rw [hx]; exact h4), hx]
                    · have h87' := h87
                      simp only [Bool.and_eq_true, decide_eq_true_eq, Bool.not_eq_true'] at h87'
                      obtain ⟨mid, d4, hx⟩ : ∃ mid d4, partitionEqual lt (rd lt dk a' b' lim wb wp).pi.1 a' b' (rd lt dk a' b' lim wb wp).pivot = (mid, d4) := ⟨_, _, rfl⟩
                      obtain ⟨r1, r2, r3, r4, _⟩ := round_eq hO (partitionEqual_holds lt) h87'.1 hpv.1 hpv.2 (show b' ≤ (rd lt dk a' b' lim wb wp).pi.1.size by omega) HB3.out h87'.2 hx
                      have hc21 := peq_any (ρ := ρ) { L with } lt B size T ty rv gl gs F a' b' (rd lt dk a' b' lim wb wp).pivot hpv.1 hpv.2 hb' (rd lt dk a' b' lim wb wp).pi.1 wc H6.st
                      rw [hx] at hc21
                      have X : Hid (partitionEqual lt (rd lt dk a' b' lim wb wp).pi.1 a' b' (rd lt dk a' b' lim wb wp).pivot = (mid, d4)) := hx
                      have R4 : Hid _ := r4
                      clear hx r4 h87'
                      go_wp2_with (go_at_fn (ρ.f 39); refine hc21.mono ?_; rintro e w7 ⟨rfl, hT7, hU7⟩)
                      go_roundg (b' - mid)
                      case measure => omega
                      case rel =>
                        have hx := X.out
                        exact ⟨mid, b', (rd lt dk a' b' lim wb wp).lim, wb, wp, d4, rfl, rfl, rfl, rfl, rfl, r2, hb', Nat.le_refl _, by omega, Nat.le_trans rd_lim_le hlim, R4, H6.call hT7 hU7, (show Hid _ from by rw [← A.out, pdq_eq h12 hl0 hp2 h87 (by rw [hx]; exact ⟨r1, r2⟩), hx]; exact rfl)⟩

end Go.Proofs.YtpkkomifenlkaaaGreat.St
/- reverseRange, iface -/
namespace Go.Proofs.YtpkkomifenlkaaaGreat.St
open Go Go.RowKit Go.Shelf Go.Lib Go.Sort Go.Proofs
variable {P : Program} {ρ : Ren} {α : Type} [Inhabited α]

set_option maxHeartbeats 2000000 in
set_option maxRecDepth 1000000 in
theorem rev_any (L : LaysGt.n37 P ρ) (lt : α → α → Bool) (B size : Nat) (T : Array α → World → Prop) (ty : TypeId) (rv : Value) (gl gs : Nat) (F : IfaceFam P lt B size T ty rv gl gs) (a b : Nat) (hab : a ≤ b) (hb : b ≤ size) (d : Array α) (w : World) (hT : T d w) :
    Calls P (ρ.f 37) #[.iface ty rv, .int .i64 a, .int .i64 b] w fun e w' => e = .returned (.tuple #[]) ∧ T (reverseRange d a b) w' ∧ Up B w w' := by
  have mixed := L.mixed; have t0 := L.t0; have a0 := L.a0; have z0 := L.z0; have v0 := L.v0; have t3 := L.t3; have a3 := L.a3; have z3 := L.z3
  have v3 := L.v3; have t4 := L.t4; have a4 := L.a4; have z4 := L.z4; have v4 := L.v4; have t26 := L.t26; have a26 := L.a26; have z26 := L.z26
  have v26 := L.v26; have t38 := L.t38; have a38 := L.a38; have z38 := L.z38; have v38 := L.v38; have t43 := L.t43; have a43 := L.a43; have z43 := L.z43
  have v43 := L.v43; have t45 := L.t45; have a45 := L.a45; have z45 := L.z45; have v45 := L.v45
  have mL := F.mL; have mS := F.mS; have eL := F.eL; have eS := F.eS
  have H0 := AtI.start (B := B) hT
  have hsz := F.small
  have hds := F.play.size hT
  go_enter L.f37, BodyGt.n37_ntmps ρ
  go_wp2
  go_loopg [6, 7] (b - a) (fun k s6 s7 wr => ∃ (i jn : Nat) (jz : Int) (dk : Array α), s6 = .int .i64 i ∧ s7 = .int .i64 jz ∧ ((i : Int) < jz → jz = jn ∧ jn < size) ∧ (¬ (i : Int) < jz → ¬ i < jn) ∧ jn - i ≤ k ∧
    AtI B T w dk wr ∧ Hid (reverseLoop i jn dk = reverseLoop a (b - 1) d))
  case atStart => exact ⟨a, b - 1, (b : Int) - 1, d, rfl, rfl, fun h => ⟨by omega, by omega⟩, fun h => by omega, by omega, H0, rfl⟩
  case round =>
    clear H0 hT
    obtain ⟨i, jn, jz, dk, rfl, rfl, h1, h2, hk, H, HR⟩ := hrel
    by_cases hlt : (i : Int) < jz
    · obtain ⟨rfl, hjn⟩ := h1 hlt
      have hij : i < jn := by omega
      have hs := H.swap F i jn (by omega) (by omega)
      clear h1 h2
      go_wp2_with (go_at_fn gs; refine hs.mono ?_; rintro e w2 ⟨rfl, H2⟩)
      go_roundg (jn - 1 - (i + 1))
      case measure => omega
      case rel => exact ⟨i + 1, jn - 1, (jn : Int) - 1, swp dk i jn, by simp, rfl, fun h => ⟨by omega, by omega⟩, fun h => by omega, Nat.le_refl _, H2, by show _ = _; rw [← HR.out]; conv => rhs; rw [reverseLoop, if_pos hij]⟩
    · have hnot := h2 hlt
      go_wp2
      go_end0
      refine ⟨rfl, ?_, H.up⟩
      have e := HR.out
      rw [reverseLoop, if_neg hnot] at e
      rw [reverseRange, ← e]
      exact H.st

end Go.Proofs.YtpkkomifenlkaaaGreat.St
/- breakPatterns, iface -/
namespace Go.Proofs.YtpkkomifenlkaaaGreat.St
open Go Go.RowKit Go.Shelf Go.Lib Go.Sort Go.Proofs
variable {P : Program} {ρ : Ren} {α : Type} [Inhabited α]

/-- The row beside the call's own number, in block K. -/
structure RnI (B : Nat) (T : Array α → World → Prop) (w0 : World) (K : Nat) (d : Array α) (r : Nat) (W : World) : Prop where
  st : T d W
  up : Up B w0 W
  own : B ≤ K
  new : w0.heap.size ≤ K
  lt : K < W.heap.size
  at_ : W.cell? ⟨K, 0, none⟩ = some (.int .u64 r)
  f : W.frozen? ⟨K, 0, none⟩ = false
omit [Inhabited α] in
theorem RnI.call {B : Nat} {T : Array α → World → Prop} {w0 : World} {K : Nat} {d : Array α} {r : Nat} {W : World} (H : RnI B T w0 K d r W) {d' : Array α} {w : World} (h : T d' w) (u : Up B W w) : RnI B T w0 K d' r w :=
  ⟨h, H.up.trans u, H.own, H.new, Nat.lt_of_lt_of_le H.lt u.1, (u.cell H.own H.lt).trans H.at_, (u.frozen H.own H.lt).trans H.f⟩
omit [Inhabited α] in
theorem RnI.turn {B size : Nat} {T : Array α → World → Prop} {w0 : World} {K : Nat} {d : Array α} {r : Nat} {W : World} (H : RnI B T w0 K d r W) (F : Play B size T) (r' q : Nat) : RnI B T w0 K d r' ((W.setCell ⟨K, 0, none⟩ (.int .u64 r')).drewN q) := by
  have h1 := F.set H.st ⟨K, 0, none⟩ (.int .u64 r') H.own
  have b : Go.RowKit.Below (W.setCell ⟨K, 0, none⟩ (.int .u64 r')).heap.size (W.setCell ⟨K, 0, none⟩ (.int .u64 r')) ((W.setCell ⟨K, 0, none⟩ (.int .u64 r')).drewN q) := ⟨rfl, rfl, rfl, Nat.le_refl _, fun _ _ => rfl⟩
  refine ⟨F.keep h1 b, ⟨by simpa using H.up.1, fun k hB hk => (Below.heap_setCell _ _ _ _ (fun e => by have e2 : k = K := e; have := H.new; omega)).trans (H.up.2 k hB hk)⟩, H.own, H.new, by simpa using H.lt, ?_, ?_⟩
  · rw [World.cell?_drewN]; exact World.cell?_setCell_same _ _ _ H.at_
  · rw [World.frozen?_drewN]; simpa using H.f
set_option maxHeartbeats 4000000 in
set_option maxRecDepth 1000000 in
/-- The arm 'length >= 8', b written as a + M. -/
theorem brk_go (L : LaysGt.n35 P ρ) (lt : α → α → Bool) (B size : Nat) (T : Array α → World → Prop) (ty : TypeId) (rv : Value) (gl gs : Nat) (F : IfaceFam P lt B size T ty rv gl gs) (a M : Nat) (h8 : 8 ≤ M) (hb : a + M ≤ size) (d : Array α) (w : World) (hT : T d w) :
    Calls P (ρ.f 35) #[.iface ty rv, .int .i64 a, .int .i64 ((a + M : Nat) : Int)] w fun e w' => e = .returned (.tuple #[]) ∧ T (breakPatterns d a (a + M)) w' ∧ Up B w w' := by
  have mixed := L.mixed; have t0 := L.t0; have a0 := L.a0; have z0 := L.z0; have v0 := L.v0; have t3 := L.t3; have a3 := L.a3; have z3 := L.z3
  have v3 := L.v3; have t4 := L.t4; have a4 := L.a4; have z4 := L.z4; have v4 := L.v4; have t5 := L.t5; have a5 := L.a5; have z5 := L.z5
  have v5 := L.v5; have t9 := L.t9; have a9 := L.a9; have z9 := L.z9; have v9 := L.v9; have t26 := L.t26; have a26 := L.a26; have z26 := L.z26
  have v26 := L.v26; have t38 := L.t38; have a38 := L.a38; have z38 := L.z38; have v38 := L.v38; have t43 := L.t43; have a43 := L.a43; have z43 := L.z43
  have v43 := L.v43; have t45 := L.t45; have a45 := L.a45; have z45 := L.z45; have v45 := L.v45; have t47 := L.t47; have a47 := L.a47; have z47 := L.z47
  have v47 := L.v47; have t56 := L.t56; have a56 := L.a56; have z56 := L.z56; have v56 := L.v56; have t58 := L.t58; have a58 := L.a58; have z58 := L.z58
  have v58 := L.v58; have t67 := L.t67; have a67 := L.a67; have z67 := L.z67; have v67 := L.v67; have t73 := L.t73; have a73 := L.a73; have z73 := L.z73
  have v73 := L.v73
  have mL := F.mL; have mS := F.mS; have eL := F.eL; have eS := F.eS
  have e44 : ∀ args w, (callFunc (ρ.f 44) args).run P w = .ok (.enter (ρ.f 44) args) w := enters_of L.f44 (by kernel_rfl) rfl
  have e45 : ∀ args w, (callFunc (ρ.f 45) args).run P w = .ok (.enter (ρ.f 45) args) w := enters_of L.f45 (by kernel_rfl) rfl
  have hsz := F.small
  have hB0 := F.play.base hT
  rw [breakPatterns_eq d a M h8]
  obtain ⟨Q, hQ⟩ : ∃ Q : Nat, Q = 1 <<< bitsLen M := ⟨_, rfl⟩
  have hQ1 : 1 ≤ Q := by rw [hQ, Nat.one_shiftLeft]; exact Nat.two_pow_pos _
  have hQ2 : Q ≤ 2 * M := by rw [hQ, Nat.one_shiftLeft]; exact two_pow_bitsLen_le (by omega)
  have hNP : ∀ w, Calls P (ρ.f 44) #[.int .i64 (M : Int)] w fun e w' => e = .returned (.int .u64 (Q : Int)) ∧ w' = w := by rw [hQ]; exact fun w => Any.nextPowerOfTwo (LaysGt.n44.elder (P := P) (ρ := ρ) { L with }) M (by omega) w
  rw [← hQ]
  clear hQ
  have hMz : ((a : Int) + (M : Int) - (a : Int)) = (M : Int) := by omega
  have h8z : (8 : Int) ≤ (M : Int) := by omega
  have HT0 : Hid (T d w) := hT
  clear hT
  go_enter L.f35, BodyGt.n35_ntmps ρ
  go_wp2_with (first | (go_at_fn (ρ.f 44); refine (hNP _).mono ?_; rintro e w' ⟨rfl, rfl⟩))
  go_loopg [9] 3 (fun g1 vi wr => ∃ (t : Nat) (r : UInt64) (dk : Array α), vi = .int .i64 ((a : Int) + (M : Int) / 4 * 2 - 1 + (t : Int)) ∧ t ≤ 3 ∧ 3 - t ≤ g1 ∧ RnI B T w w.heap.size dk r.toNat wr ∧
      Hid (bpRest a M Q (a + M / 4 * 2 - 1) (3 - t) t (r, dk) = bpRest a M Q (a + M / 4 * 2 - 1) 3 0 (UInt64.ofNat M, d)))
  case atStart =>
    refine ⟨0, UInt64.ofNat M, d, by simp, by omega, by omega, ⟨F.play.keep HT0.out ((Go.RowKit.Below.refl _ _).alloc (Nat.le_refl _) _), Up.new _ _ _, hB0, Nat.le_refl _, by simp, ?_, by simp⟩, rfl⟩
    rw [show (UInt64.ofNat M).toNat = M from by simp; omega]
    simp
  case round =>
    obtain ⟨t, r, dk, rfl, ht, hg1, H, HR⟩ := hrel
    by_cases ht3 : t < 3
    · have hle : (a : Int) + (M : Int) / 4 * 2 - 1 + (t : Int) ≤ (a : Int) + (M : Int) / 4 * 2 + 1 := by omega
      obtain ⟨R, hRr⟩ : ∃ R : Nat, R = r.toNat := ⟨_, rfl⟩
      have lR : R < 18446744073709551616 := by rw [hRr]; exact r.toNat_lt
      obtain ⟨R', hR'⟩ : ∃ R' : Nat, R' = xorNextN R := ⟨_, rfl⟩
      have lR' : R' < 18446744073709551616 := by rw [hR']; exact xorNextN_lt R lR
      obtain ⟨O, hO⟩ : ∃ O : Nat, O = R' &&& (Q - 1) := ⟨_, rfl⟩
      have lO : O ≤ Q - 1 := by rw [hO]; exact Nat.and_le_right
      have eAnd : bits .and .u64 (R' : Int) ((Q : Int) - 1) = (O : Int) := by
        rw [show ((Q : Int) - 1) = ((Q - 1 : Nat) : Int) by omega, bits_and_u64_nat _ _ lR' (by omega), hO]
      rw [← hRr] at H
      have hNext : Calls P (ρ.f 45) #[.pointer (some ⟨w.heap.size, 0, none⟩)] wr fun e w' => e = .returned (.int .u64 (R' : Int)) ∧ w' = (wr.setCell ⟨w.heap.size, 0, none⟩ (.int .u64 (R' : Int))).drewN 3 := by
        rw [hR']; exact Any.xorshift_Next (LaysGt.n45.elder (P := P) (ρ := ρ) { L with }) _ _ R lR wr H.at_ H.f
      have HN : Hid (R' = (xorNext r).toNat ∧ O = (xorNext r).toNat &&& (Q - 1)) := by
        have e : R' = (xorNext r).toNat := by rw [hR', hRr, xorNext_toNat]
        exact ⟨e, by rw [hO, e]⟩
      clear hRr hR' hO
      have S2 := H.turn F.play R' 3
      generalize (wr.setCell ⟨w.heap.size, 0, none⟩ (.int .u64 (R' : Int))).drewN 3 = w2 at hNext S2
      clear H
      by_cases hMO : M ≤ O
      · have hMOz : (M : Int) ≤ (O : Int) := by omega
        have hs := F.swap S2.st (a + M / 4 * 2 - 1 + t) (a + (O - M)) (by omega) (by omega)
        rw [show ((a + M / 4 * 2 - 1 + t : Nat) : Int) = (a : Int) + (M : Int) / 4 * 2 - 1 + (t : Int) by omega, show ((a + (O - M) : Nat) : Int) = (a : Int) + ((O : Int) - (M : Int)) by omega] at hs
        go_wp2_with (first | (go_at_fn (ρ.f 45); refine hNext.mono ?_; rintro e w' ⟨rfl, rfl⟩) | (go_at_fn gs; refine hs.mono ?_; rintro e w3 ⟨rfl, hT3, hU3⟩))
        have S3 := S2.call hT3 hU3
        go_roundg (3 - (t + 1))
        case measure => omega
        case rel => exact ⟨t + 1, xorNext r, swp dk (a + M / 4 * 2 - 1 + t) (a + (O - M)), by congr 1; push_cast; omega, by omega, Nat.le_refl _, by rw [← HN.out.1]; exact S3,
          (show Hid _ from by rw [← HR.out, bp_step a M Q _ t r dk (O - M) ht3 (by rw [← HN.out.2, if_pos (by omega)])]; exact rfl)⟩
      · have hMOz : ¬ (M : Int) ≤ (O : Int) := by omega
        have hs := F.swap S2.st (a + M / 4 * 2 - 1 + t) (a + O) (by omega) (by omega)
        rw [show ((a + M / 4 * 2 - 1 + t : Nat) : Int) = (a : Int) + (M : Int) / 4 * 2 - 1 + (t : Int) by omega, show ((a + O : Nat) : Int) = (a : Int) + (O : Int) by omega] at hs
        go_wp2_with (first | (go_at_fn (ρ.f 45); refine hNext.mono ?_; rintro e w' ⟨rfl, rfl⟩) | (go_at_fn gs; refine hs.mono ?_; rintro e w3 ⟨rfl, hT3, hU3⟩))
        have S3 := S2.call hT3 hU3
        go_roundg (3 - (t + 1))
        case measure => omega
        case rel => exact ⟨t + 1, xorNext r, swp dk (a + M / 4 * 2 - 1 + t) (a + O), by congr 1; push_cast; omega, by omega, Nat.le_refl _, by rw [← HN.out.1]; exact S3,
          (show Hid _ from by rw [← HR.out, bp_step a M Q _ t r dk O ht3 (by rw [← HN.out.2, if_neg (by omega)])]; exact rfl)⟩
    · obtain rfl : t = 3 := by omega
      have hle : ¬ ((a : Int) + (M : Int) / 4 * 2 - 1 + ((3 : Nat) : Int) ≤ (a : Int) + (M : Int) / 4 * 2 + 1) := by omega
      go_wp2
      go_end0
      refine ⟨rfl, ?_, H.up⟩
      rw [← HR.out]
      exact H.st
set_option maxHeartbeats 2000000 in
set_option maxRecDepth 1000000 in
theorem brk_any (L : LaysGt.n35 P ρ) (lt : α → α → Bool) (B size : Nat) (T : Array α → World → Prop) (ty : TypeId) (rv : Value) (gl gs : Nat) (F : IfaceFam P lt B size T ty rv gl gs) (a b : Nat) (hab : a ≤ b) (hb : b ≤ size) (d : Array α) (w : World) (hT : T d w) :
    Calls P (ρ.f 35) #[.iface ty rv, .int .i64 a, .int .i64 b] w fun e w' => e = .returned (.tuple #[]) ∧ T (breakPatterns d a b) w' ∧ Up B w w' := by
  obtain ⟨M, rfl⟩ : ∃ M, b = a + M := ⟨b - a, by omega⟩
  by_cases h8 : 8 ≤ M
  · exact brk_go L lt B size T ty rv gl gs F a M h8 hb d w hT
  · have hv : breakPatterns d a (a + M) = d := by unfold breakPatterns; simp only [Nat.add_sub_cancel_left]; rw [if_neg h8]
    rw [hv]
    have mixed := L.mixed; have t0 := L.t0; have a0 := L.a0; have z0 := L.z0; have v0 := L.v0; have t3 := L.t3; have a3 := L.a3; have z3 := L.z3
    have v3 := L.v3; have t4 := L.t4; have a4 := L.a4; have z4 := L.z4; have v4 := L.v4; have t5 := L.t5; have a5 := L.a5; have z5 := L.z5
    have v5 := L.v5; have t9 := L.t9; have a9 := L.a9; have z9 := L.z9; have v9 := L.v9; have t26 := L.t26; have a26 := L.a26; have z26 := L.z26
    have v26 := L.v26; have t38 := L.t38; have a38 := L.a38; have z38 := L.z38; have v38 := L.v38; have t43 := L.t43; have a43 := L.a43; have z43 := L.z43
    have v43 := L.v43; have t45 := L.t45; have a45 := L.a45; have z45 := L.z45; have v45 := L.v45; have t47 := L.t47; have a47 := L.a47; have z47 := L.z47
    have v47 := L.v47; have t56 := L.t56; have a56 := L.a56; have z56 := L.z56; have v56 := L.v56; have t58 := L.t58; have a58 := L.a58; have z58 := L.z58
    have v58 := L.v58; have t67 := L.t67; have a67 := L.a67; have z67 := L.z67; have v67 := L.v67; have t73 := L.t73; have a73 := L.a73; have z73 := L.z73
    have v73 := L.v73
    have hMz : ((a : Int) + (M : Int) - (a : Int)) = (M : Int) := by omega
    have h8z : ¬ (8 : Int) ≤ (M : Int) := by omega
    have HT0 : Hid (T d w) := hT
    clear hT hv
    go_enter L.f35, BodyGt.n35_ntmps ρ
    go_wp2
    go_end0
    exact ⟨rfl, HT0.out, Up.refl _ _⟩

end Go.Proofs.YtpkkomifenlkaaaGreat.St
/- sort.Sort over the abstract state -/
namespace Go.Proofs.YtpkkomifenlkaaaGreat.St
open Go Go.RowKit Go.Shelf Go.Lib Go.Sort Go.Proofs
variable {P : Program} {ρ : Ren} {α : Type} [Inhabited α]

set_option maxHeartbeats 1000000 in
set_option maxRecDepth 1000000 in
theorem tiny_any (L : LaysGt.n11 P ρ) (ty : TypeId) (rv : Value) (gn n : Nat) (hn : n ≤ 1) (w : World) (mN : Sem.run P (method (P.types.size + 100) ty rv "Len") w = .ok (gn, rv) w) (eN : ∀ args w, (callFunc gn args).run P w = .ok (.enter gn args) w)
    (hlen : Calls P gn #[rv] w fun e w' => e = .returned (.int .i64 n) ∧ w' = w) :
    Calls P (ρ.f 11) #[.iface ty rv] w fun e w' => e = .returned (.tuple #[]) ∧ w' = w := by
  have mixed := L.mixed; have t0 := L.t0; have a0 := L.a0; have z0 := L.z0; have v0 := L.v0; have t3 := L.t3; have a3 := L.a3; have z3 := L.z3
  have v3 := L.v3; have t4 := L.t4; have a4 := L.a4; have z4 := L.z4; have v4 := L.v4; have t5 := L.t5; have a5 := L.a5; have z5 := L.z5
  have v5 := L.v5; have t9 := L.t9; have a9 := L.a9; have z9 := L.z9; have v9 := L.v9; have t26 := L.t26; have a26 := L.a26; have z26 := L.z26
  have v26 := L.v26; have t38 := L.t38; have a38 := L.a38; have z38 := L.z38; have v38 := L.v38; have t43 := L.t43; have a43 := L.a43; have z43 := L.z43
  have v43 := L.v43; have t45 := L.t45; have a45 := L.a45; have z45 := L.z45; have v45 := L.v45; have t47 := L.t47; have a47 := L.a47; have z47 := L.z47
  have v47 := L.v47; have t56 := L.t56; have a56 := L.a56; have z56 := L.z56; have v56 := L.v56; have t58 := L.t58; have a58 := L.a58; have z58 := L.z58
  have v58 := L.v58; have t60 := L.t60; have a60 := L.a60; have z60 := L.z60; have v60 := L.v60; have t61 := L.t61; have a61 := L.a61; have z61 := L.z61
  have v61 := L.v61; have t65 := L.t65; have a65 := L.a65; have z65 := L.z65; have v65 := L.v65; have t67 := L.t67; have a67 := L.a67; have z67 := L.z67
  have v67 := L.v67; have t71 := L.t71; have a71 := L.a71; have z71 := L.z71; have v71 := L.v71; have t73 := L.t73; have a73 := L.a73; have z73 := L.z73
  have v73 := L.v73; have t74 := L.t74; have a74 := L.a74; have z74 := L.z74; have v74 := L.v74
  go_enter L.f11, BodyGt.n11_ntmps ρ
  go_wp2_with (go_at_fn gn; refine hlen.mono ?_; rintro e w' ⟨rfl, rfl⟩)
  all_goals first | (exfalso; omega) | ((try simp only [Exit.inBlock, Exit.then]); refine bodyPost_ret (results_none rfl _ _ _) rfl ?_; exact ⟨rfl, rfl⟩)
set_option maxHeartbeats 1000000 in
set_option maxRecDepth 1000000 in
theorem sort_any (L : LaysGt.n11 P ρ) (lt : α → α → Bool) (hO : SWO lt) (B size : Nat) (T : Array α → World → Prop) (ty : TypeId) (rv : Value) (gl gs : Nat) (F : IfaceFam P lt B size T ty rv gl gs) (h2 : 2 ≤ size) (gn : Nat) (d : Array α) (w : World) (hT : T d w)
    (mN : Sem.run P (method (P.types.size + 100) ty rv "Len") w = .ok (gn, rv) w) (eN : ∀ args w, (callFunc gn args).run P w = .ok (.enter gn args) w) (hlen : Calls P gn #[rv] w fun e w' => e = .returned (.int .i64 size) ∧ w' = w) :
    Calls P (ρ.f 11) #[.iface ty rv] w fun e w' => e = .returned (.tuple #[]) ∧ ∃ d', PermIn 0 d.size d d' ∧ SortedIn lt 0 d.size d' ∧ T d' w' ∧ Up B w w' := by
  have mixed := L.mixed; have t0 := L.t0; have a0 := L.a0; have z0 := L.z0; have v0 := L.v0; have t3 := L.t3; have a3 := L.a3; have z3 := L.z3
  have v3 := L.v3; have t4 := L.t4; have a4 := L.a4; have z4 := L.z4; have v4 := L.v4; have t5 := L.t5; have a5 := L.a5; have z5 := L.z5
  have v5 := L.v5; have t9 := L.t9; have a9 := L.a9; have z9 := L.z9; have v9 := L.v9; have t26 := L.t26; have a26 := L.a26; have z26 := L.z26
  have v26 := L.v26; have t38 := L.t38; have a38 := L.a38; have z38 := L.z38; have v38 := L.v38; have t43 := L.t43; have a43 := L.a43; have z43 := L.z43
  have v43 := L.v43; have t45 := L.t45; have a45 := L.a45; have z45 := L.z45; have v45 := L.v45; have t47 := L.t47; have a47 := L.a47; have z47 := L.z47
  have v47 := L.v47; have t56 := L.t56; have a56 := L.a56; have z56 := L.z56; have v56 := L.v56; have t58 := L.t58; have a58 := L.a58; have z58 := L.z58
  have v58 := L.v58; have t60 := L.t60; have a60 := L.a60; have z60 := L.z60; have v60 := L.v60; have t61 := L.t61; have a61 := L.a61; have z61 := L.z61
  have v61 := L.v61; have t65 := L.t65; have a65 := L.a65; have z65 := L.z65; have v65 := L.v65; have t67 := L.t67; have a67 := L.a67; have z67 := L.z67
  have v67 := L.v67; have t71 := L.t71; have a71 := L.a71; have z71 := L.z71; have v71 := L.v71; have t73 := L.t73; have a73 := L.a73; have z73 := L.z73
  have v73 := L.v73; have t74 := L.t74; have a74 := L.a74; have z74 := L.z74; have v74 := L.v74
  have e17 : ∀ args w, (callFunc (ρ.f 17) args).run P w = .ok (.enter (ρ.f 17) args) w := enters_of L.f17 (by kernel_rfl) rfl
  have e18 : ∀ args w, (callFunc (ρ.f 18) args).run P w = .ok (.enter (ρ.f 18) args) w := enters_of L.f18 (by kernel_rfl) rfl
  have hsz := F.small
  have hds := F.play.size hT
  have hb := fun w => Any.bits_Len (LaysGg.n13.bits (({ L with } : LaysGt.n17 P ρ).elder)) (size : Int) w (by omega) (by omega)
  change ∀ w, Calls P (ρ.f 17) _ w _ at hb
  have wr : IntKind.u64.wrap (size : Int) = size := by simp [IntKind.wrap, IntKind.bits, IntKind.signed]; omega
  have hlim : Lib.bitLen size < 4611686018427387904 := Nat.lt_of_le_of_lt (Lib.bitLen_le size 62 (by omega) (by omega)) (by omega)
  have hp := pdq_all (P := P) (ρ := ρ) { L with } lt hO B size T ty rv gl gs F (fun d W a b h hab hb => brk_any { L with } lt B size T ty rv gl gs F a b hab hb d W h) (fun d W a b h hab hb => rev_any { L with } lt B size T ty rv gl gs F a b hab hb d W h)
    (size + 1) 0 size (Lib.bitLen size) d w (by omega) hT (Nat.zero_le _) (Nat.le_refl _) hlim (Or.inl rfl)
  have hsort := pdq_sorts lt hO d 0 d.size (Lib.bitLen d.size) true true (Nat.zero_le _) (Nat.le_refl _) (Or.inl rfl)
  rw [hds] at hsort
  rw [hds]
  have HSo := Lib.hid hsort
  clear hT hsort hds
  go_enter L.f11, BodyGt.n11_ntmps ρ
  go_wp2_with (first
    | (go_at_fn gn; refine hlen.mono ?_; rintro e w' ⟨rfl, rfl⟩)
    | (go_at_fn (ρ.f 17); refine (hb _).mono ?_; rintro e w' ⟨rfl, rfl⟩)
    | (go_at_fn (ρ.f 18); refine hp.mono ?_; rintro e w' ⟨rfl, hT1, hU1⟩))
  all_goals first
    | (exfalso; omega)
    | (go_end0; exact ⟨rfl, _, HSo.out.1, HSo.out.2, hT1, hU1⟩)

end Go.Proofs.YtpkkomifenlkaaaGreat.St
/- A row of elements of k cells as a state of a sort. -/
namespace Go.Proofs.YtpkkomifenlkaaaGreat.St
open Go Go.RowKit Go.Shelf Go.Lib Go.Sort Go.Proofs
variable {P : Program} {ρ : Ren} {α : Type} [Inhabited α]

theorem setCells_off (blk : Nat) : ∀ (vs : List Value) (o : Nat) (W : World) (b : Nat), b ≠ blk → (W.setCells blk o vs).heap[b]? = W.heap[b]?
  | [], _, _, _, _ => rfl
  | v :: r, o, W, b, h => by
    rw [World.setCells, setCells_off blk r (o + 1) _ b h, Below.heap_setCell _ _ _ _ h]
theorem setCells_same (blk : Nat) : ∀ (vs : List Value) (o : Nat) (W : World), (W.setCells blk o vs).os = W.os ∧ (W.setCells blk o vs).tape = W.tape ∧ (W.setCells blk o vs).output = W.output
  | [], _, _ => ⟨rfl, rfl, rfl⟩
  | v :: r, o, W => by
    rw [World.setCells]
    exact setCells_same blk r (o + 1) _

/-- In W the row lies as d; what lies below B and is not the row stands as it stood in w0. -/
structure RowT (enc : α → List Value) (k : Nat) (w0 : World) (B blk off size : Nat) (d : Array α) (W : World) : Prop where
  sz : d.size = size
  holds : HoldsK enc k W blk off d
  base : B ≤ W.heap.size
  os : W.os = w0.os
  tape : W.tape = w0.tape
  output : W.output = w0.output
  rest : ∀ b, b < B → b ≠ blk → W.heap[b]? = w0.heap[b]?

theorem holdsK_of_block {enc : α → List Value} {k : Nat} {W w : World} {blk off : Nat} {d : Array α} (h : HoldsK enc k W blk off d) (hb : w.heap[blk]? = W.heap[blk]?) : HoldsK enc k w blk off d := fun j hj =>
  ⟨(World.cell?_of_block (w := W) (a := ⟨blk, off + j, none⟩) hb).trans (h j hj).1, (World.frozen?_of_block (w := W) (a := ⟨blk, off + j, none⟩) hb).trans (h j hj).2⟩
theorem rowT_play (enc : α → List Value) (k : Nat) (w0 : World) (B blk off size : Nat) (hblk : blk < B) : Play B size (RowT enc k w0 B blk off size) where
  base := fun h => h.base
  size := fun h => h.sz
  keep := fun {d W w} h hb => ⟨h.sz, holdsK_of_block h.holds (hb.block _ (Nat.lt_of_lt_of_le hblk h.base)), Nat.le_trans h.base hb.size, hb.os.trans h.os, hb.tape.trans h.tape, hb.output.trans h.output,
    fun b hB hn => (hb.block b (Nat.lt_of_lt_of_le hB h.base)).trans (h.rest b hB hn)⟩
  set := fun {d W} h a v ha => ⟨h.sz, holdsK_of_block h.holds (Below.heap_setCell _ _ _ _ (by omega)), by simpa using h.base, h.os, h.tape, h.output,
    fun b hB hn => (Below.heap_setCell _ _ _ _ (by omega)).trans (h.rest b hB hn)⟩
theorem RowT.swap {enc : α → List Value} {k : Nat} {w0 W : World} {B blk off size : Nat} {d : Array α} (h : RowT enc k w0 B blk off size d W) (hk : ∀ x, (enc x).length = k) (i j : Nat) (hi : i < size) (hj : j < size) :
    RowT enc k w0 B blk off size (swp d i j) ((W.setCells blk (off + i * k) (enc d[j]!)).setCells blk (off + j * k) (enc d[i]!)) where
  sz := (size_swp _ _ _).trans h.sz
  holds := by
    have e := putRowK_swp enc k hk W blk off d i j (by rw [h.sz]; exact hi) (by rw [h.sz]; exact hj)
    rw [putRowK_self enc k W blk off d h.holds] at e
    rw [e]
    exact holdsK_putRowK enc k W blk off d (swp d i j) h.holds (size_swp _ _ _)
  base := by rw [size_setCells, size_setCells]; exact h.base
  os := ((setCells_same _ _ _ _).1.trans (setCells_same _ _ _ _).1).trans h.os
  tape := ((setCells_same _ _ _ _).2.1.trans (setCells_same _ _ _ _).2.1).trans h.tape
  output := ((setCells_same _ _ _ _).2.2.trans (setCells_same _ _ _ _).2.2).trans h.output
  rest := fun b hB hn => by rw [setCells_off _ _ _ _ b hn, setCells_off _ _ _ _ b hn]; exact h.rest b hB hn
theorem sortWorldK_off (enc : α → List Value) (k : Nat) (W : World) (blk off n : Nat) (d : Array α) (os : Array Obj) (b : Nat) (hb : b < W.heap.size) (hn : b ≠ blk) : (sortWorldK enc k W blk off n d os).heap[b]? = W.heap[b]? := by
  unfold sortWorldK
  rw [heap_grow_old _ _ (by rw [size_putRowK]; exact hb)]
  unfold putRowK putRow mapBlock
  simp only [Array.getElem?_modify]
  rw [if_neg (by omega)]
  rfl
/-- What the shelf says by an equation, said by a state. -/
theorem RowT.of_sortWorld {enc : α → List Value} {k : Nat} {w0 W w : World} {B blk off size : Nat} {d d' : Array α} (h : RowT enc k w0 B blk off size d W) (hblk : blk < B) (hs : d'.size = d.size) (hw : ∃ n os, w = sortWorldK enc k W blk off n d' os) :
    RowT enc k w0 B blk off size d' w ∧ Up B W w := by
  obtain ⟨n, os, rfl⟩ := hw
  have hb : blk < W.heap.size := Nat.lt_of_lt_of_le hblk h.base
  have hsz : W.heap.size ≤ (sortWorldK enc k W blk off n d' os).heap.size := SWK.le (⟨n, os, rfl⟩ : SWK enc k W blk off d' _)
  exact ⟨⟨hs.trans h.sz, holdsK_sortWorldK enc k W blk off n d d' os hb h.holds hs, Nat.le_trans h.base hsz, h.os, h.tape, h.output,
    fun b hB hn => (sortWorldK_off enc k W blk off n d' os b (Nat.lt_of_lt_of_le hB h.base) hn).trans (h.rest b hB hn)⟩,
    hsz, fun b hB hb => sortWorldK_off enc k W blk off n d' os b hb (by omega)⟩
end Go.Proofs.YtpkkomifenlkaaaGreat.St
