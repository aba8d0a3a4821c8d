import Derived.Test.YtlpnecmcncekcaaGreatSt1
import Derived.Test.YtlpnecmcncekcaaGreatSt1
import Derived.Test.YtlpnecmcncekcaaGreatSt2
import Derived.Test.YtlpnecmcncekcaaGreatSt2
import Derived.Test.YtlpnecmcncekcaaGreatSt2
import Derived.Test.YtlpnecmcncekcaaGreatSt2
import Derived.Sort.AssemblyPlain
import Derived.Sort.Walk13
import Derived.Sort.Walk13a
import Derived.Shelf.GgSortFunc.SmallK
import Derived.Shelf.SlSortFuncK.BreakPatternsK
import Derived.Shelf.SlSortFuncK.ComposeK
/- pdqsort, func -/
namespace Go.Proofs.YtlpnecmcncekcaaGreat.St
open Go Go.RowKit Go.Shelf Go.Lib Go.Sort Go.Proofs
variable {P : Program} {ρ : Ren} {α : Type} [Inhabited α]

set_option maxHeartbeats 25600000 in
set_option maxRecDepth 1000000 in
theorem pdq_all (L : LaysGg.n14 P ρ) (lt : α → α → Bool) (hO : SWO lt) (B size : Nat) (T : Array α → World → Prop) (g : Nat) (lb : Array Value) (sf : Nat) (sb : Array Value) (F : FuncFam P lt B size T g lb sf sb)
    (hbrk : ∀ (d : Array α) (W : World) (a b : Nat), T d W → a ≤ b → b ≤ size → Calls P (ρ.f 28) #[.agg #[.func (.func g) #[] lb, .func (.func sf) #[] sb], .int .i64 a, .int .i64 b] W fun e w => e = .returned (.tuple #[]) ∧ T (breakPatterns d a b) w ∧ Up B W w)
    (hrev : ∀ (d : Array α) (W : World) (a b : Nat), T d W → a ≤ b → b ≤ size → Calls P (ρ.f 30) #[.agg #[.func (.func g) #[] lb, .func (.func sf) #[] sb], .int .i64 a, .int .i64 b] W fun e w => e = .returned (.tuple #[]) ∧ T (reverseRange d a b) w ∧ Up B W w) :
    ∀ (N a b limit : Nat) (d : Array α) (w : World), b - a < N → T d w → a ≤ b → b ≤ size → limit < 4611686018427387904 → Go.Sort.Below lt a b d →
    Calls P (ρ.f 14) #[.agg #[.func (.func g) #[] lb, .func (.func sf) #[] sb], .int .i64 a, .int .i64 b, .int .i64 limit] w fun e w' => e = .returned (.tuple #[]) ∧ T (Sort.pdq lt d a b limit true true) w' ∧ Up B w w' := by
  have mixed := L.mixed; have t0 := L.t0; have a0 := L.a0; have z0 := L.z0; have v0 := L.v0; have t3 := L.t3; have a3 := L.a3; have z3 := L.z3
  have v3 := L.v3; have t4 := L.t4; have a4 := L.a4; have z4 := L.z4; have v4 := L.v4; have t5 := L.t5; have a5 := L.a5; have z5 := L.z5
  have v5 := L.v5; have t9 := L.t9; have a9 := L.a9; have z9 := L.z9; have v9 := L.v9; have t26 := L.t26; have a26 := L.a26; have z26 := L.z26
  have v26 := L.v26; have t37 := L.t37; have a37 := L.a37; have z37 := L.z37; have v37 := L.v37; have t41 := L.t41; have a41 := L.a41; have z41 := L.z41
  have v41 := L.v41; have t44 := L.t44; have a44 := L.a44; have z44 := L.z44; have v44 := L.v44; have t49 := L.t49; have a49 := L.a49; have z49 := L.z49
  have v49 := L.v49; have t51 := L.t51; have a51 := L.a51; have z51 := L.z51; have v51 := L.v51; have t53 := L.t53; have a53 := L.a53; have z53 := L.z53
  have v53 := L.v53; have t54 := L.t54; have a54 := L.a54; have z54 := L.z54; have v54 := L.v54; have t58 := L.t58; have a58 := L.a58; have z58 := L.z58
  have v58 := L.v58; have t60 := L.t60; have a60 := L.a60; have z60 := L.z60; have v60 := L.v60; have t64 := L.t64; have a64 := L.a64; have z64 := L.z64
  have v64 := L.v64; have t66 := L.t66; have a66 := L.a66; have z66 := L.z66; have v66 := L.v66; have t67 := L.t67; have a67 := L.a67; have z67 := L.z67
  have v67 := L.v67
  have u44 := run_underlying L.t44
  have eg := F.eg
  have hsz := F.small
  have e26 : ∀ args w, (callFunc (ρ.f 26) args).run P w = .ok (.enter (ρ.f 26) args) w := enters_of L.f26 (by kernel_rfl) rfl
  have e27 : ∀ args w, (callFunc (ρ.f 27) args).run P w = .ok (.enter (ρ.f 27) args) w := enters_of L.f27 (by kernel_rfl) rfl
  have e28 : ∀ args w, (callFunc (ρ.f 28) args).run P w = .ok (.enter (ρ.f 28) args) w := enters_of L.f28 (by kernel_rfl) rfl
  have e29 : ∀ args w, (callFunc (ρ.f 29) args).run P w = .ok (.enter (ρ.f 29) args) w := enters_of L.f29 (by kernel_rfl) rfl
  have e30 : ∀ args w, (callFunc (ρ.f 30) args).run P w = .ok (.enter (ρ.f 30) args) w := enters_of L.f30 (by kernel_rfl) rfl
  have e31 : ∀ args w, (callFunc (ρ.f 31) args).run P w = .ok (.enter (ρ.f 31) args) w := enters_of L.f31 (by kernel_rfl) rfl
  have e32 : ∀ args w, (callFunc (ρ.f 32) args).run P w = .ok (.enter (ρ.f 32) args) w := enters_of L.f32 (by kernel_rfl) rfl
  have e33 : ∀ args w, (callFunc (ρ.f 33) args).run P w = .ok (.enter (ρ.f 33) args) w := enters_of L.f33 (by kernel_rfl) rfl
  have e14 : ∀ args w, (callFunc (ρ.f 14) args).run P w = .ok (.enter (ρ.f 14) args) w := enters_of L.f14 (by kernel_rfl) rfl
  have HBRK : Hid _ := hbrk
  have HREV : Hid _ := hrev
  clear hbrk hrev
  intro N
  induction N with
  | zero => intro _ _ _ _ _ h; exact absurd h (Nat.not_lt_zero _)
  | succ N ih =>
    intro a b limit d w hN hT hab hb hlimit hBel0
    have hds := F.play.size hT
    have H0 := F.start hT (ρ.t 44)
    have IH : Hid _ := ih
    clear ih
    go_enter L.f14, BodyGg.n14_ntmps ρ
    go_wp2
    go_loopg [1, 2, 3, 8, 9] (b - a) (fun kx s1 s2 s3 s8 s9 wr => ∃ (a' b' lim : Nat) (wb wp : Bool) (dk : Array α), s1 = .int .i64 a' ∧ s2 = .int .i64 b' ∧ s3 = .int .i64 lim ∧ s8 = .bool wb ∧ s9 = .bool wp ∧
      a' ≤ b' ∧ b' ≤ size ∧ b' - a' ≤ kx ∧ kx ≤ b - a ∧ lim ≤ limit ∧ Hid (Go.Sort.Below lt a' b' dk) ∧ AtF B T g lb sf sb w w.heap.size dk wr ∧ Hid (Sort.pdq lt dk a' b' lim wb wp = Sort.pdq lt d a b limit true true))
    case atStart => exact ⟨a, b, limit, true, true, d, rfl, rfl, rfl, rfl, rfl, hab, hb, Nat.le_refl _, Nat.le_refl _, Nat.le_refl _, hBel0, H0, rfl⟩
    case round =>
      clear H0 hBel0
      obtain ⟨a', b', lim, wb, wp, dk, rfl, rfl, rfl, rfl, rfl, hab', hb', hkx, hkN, hlim, hBel, H, A⟩ := hrel
      have hds' : dk.size = size := F.play.size H.st
      have x0 := H.c0; have x1 := H.c1
      by_cases h12 : b' - a' ≤ 12
      · have h12z : (b' : Int) - (a' : Int) ≤ 12 := by omega
        have hc := ins_any (ρ := ρ) { L with } lt B size T g lb sf sb F a' b' hab' hb' dk wr H.st
        go_wp2_with (go_at_fn (ρ.f 26); refine hc.mono ?_; rintro e w1 ⟨rfl, hT1, hU1⟩)
        (try simp only [Exit.inBlock, Exit.then]); refine bodyPost_ret (results_none rfl _ _ _) rfl ?_
        have H1 := H.call hT1 hU1
        refine ⟨rfl, ?_, H1.up⟩
        rw [← A.out, pdq_small h12]
        exact H1.st
      · have h12z : ¬ ((b' : Int) - (a' : Int) ≤ 12) := by omega
        by_cases hl0 : lim = 0
        · subst hl0
          have hc := heap_any (ρ := ρ) { L with } lt B size T g lb sf sb F a' b' hab' hb' dk wr H.st
          go_wp2_with (go_at_fn (ρ.f 27); refine hc.mono ?_; rintro e w1 ⟨rfl, hT1, hU1⟩)
          (try simp only [Exit.inBlock, Exit.then]); refine bodyPost_ret (results_none rfl _ _ _) rfl ?_
          have H1 := H.call hT1 hU1
          refine ⟨rfl, ?_, H1.up⟩
          rw [← A.out, pdq_heap h12 rfl]
          exact H1.st
        · have hl0z : ¬ ((lim : Int) = 0) := by omega
          obtain ⟨s1, B1, hc1, s2, B2, hpv, s3, B3⟩ := rd_facts (lt := lt) (limit := lim) (wb := wb) (wp := wp) hO partialInsertionSort_holds reverseRange_holds (show a' < b' by omega) (show b' ≤ dk.size by omega) hBel.out
          have HB3 : Hid _ := B3
          clear B1 B2 B3
          go_upto_if 35 with fail
          go_cut [3] from 19 (fun s3 wc => s3 = .int .i64 (rd lt dk a' b' lim wb wp).lim ∧ AtF B T g lb sf sb w w.heap.size (rd lt dk a' b' lim wb wp).d1 wc)
          case first =>
            cases wb
            · have hc := HBRK.out dk wr a' b' H.st hab' hb'
              go_wp2_with (go_at_fn (ρ.f 28); refine hc.mono ?_; rintro e w1 ⟨rfl, hT1, hU1⟩)
              go_meet
              case rel =>
                refine ⟨?_, by rw [rd_false.1]; exact H.call hT1 hU1⟩
                show Value.int .i64 ((lim : Int) - 1) = Value.int .i64 ((lim - 1 : Nat) : Int)
                congr 1
                omega
            · go_wp2_with fail
              go_meet
              case rel => exact ⟨rfl, by rw [rd_true.1]; exact H⟩
          case rest =>
            obtain ⟨rfl, H1⟩ := hcut
            clear H
            clear x0 x1
            have y0 := H1.c0; have y1 := H1.c1
            have hc17 : Calls P (ρ.f 29) #[.agg #[.func (.func g) #[] lb, .func (.func sf) #[] sb], .int .i64 a', .int .i64 b'] wc fun e w' => e = .returned (.tuple #[.int .i64 (rd lt dk a' b' lim wb wp).c.1, .int .i64 (hintCode (rd lt dk a' b' lim wb wp).c.2)]) ∧ T (rd lt dk a' b' lim wb wp).d1 w' ∧ Up B wc w' :=
              piv_any (ρ := ρ) { L with } lt B size T g lb sf sb F a' b' (by omega) hb' (rd lt dk a' b' lim wb wp).d1 wc H1.st
            go_upto_if 50 with (go_at_fn (ρ.f 29); refine hc17.mono ?_; rintro e w2 ⟨rfl, hT2, hU2⟩)
            have H2 := H1.call hT2 hU2
            clear H1 hc17
            clear y0 y1
            have z0 := H2.c0; have z1 := H2.c1
            go_cut [11, 12] from 19 (fun s11 s12 wc => s11 = .int .i64 (rd lt dk a' b' lim wb wp).pivot ∧ s12 = .int .i64 (hintCode (rd lt dk a' b' lim wb wp).hint) ∧ AtF B T g lb sf sb w w.heap.size (rd lt dk a' b' lim wb wp).d2 wc)
            case first =>
              by_cases hh : (rd lt dk a' b' lim wb wp).c.2 = .decreasing
              · have hcode : hintCode (rd lt dk a' b' lim wb wp).c.2 = 2 := by rw [hh]; rfl
                obtain ⟨e2, epv, eht⟩ := rd_dec hh
                have hc18 := HREV.out (rd lt dk a' b' lim wb wp).d1 w2 a' b' H2.st hab' hb'
                go_wp2_with (go_at_fn (ρ.f 30); refine hc18.mono ?_; rintro e w3 ⟨rfl, hT3, hU3⟩)
                go_meet
                case rel =>
                  refine ⟨?_, by rw [eht]; rfl, by rw [e2]; exact H2.call hT3 hU3⟩
                  rw [epv]
                  congr 1
                  omega
              · have hcode : ¬ (hintCode (rd lt dk a' b' lim wb wp).c.2 = 2) := fun h => hh (hintCode_two h)
                obtain ⟨e2, epv, eht⟩ := rd_not hh
                go_wp2_with fail
                go_meet
                case rel => exact ⟨by rw [epv], by rw [eht], by rw [e2]; exact H2⟩
            case rest =>
              obtain ⟨rfl, rfl, H3⟩ := hcut
              clear H2
              clear z0 z1
              have v0 := H3.c0; have v1 := H3.c1
              go_upto_region 16 with fail
              go_cut [12, 68] from 19 (fun s12 s68 wx => s12 = .int .i64 (hintCode (rd lt dk a' b' lim wb wp).hint) ∧ s68 = .bool (wb && wp && decide ((rd lt dk a' b' lim wb wp).hint = .increasing)) ∧ wx = wc)
              case first =>
                cases wb <;> cases wp <;> cases hh3 : (rd lt dk a' b' lim _ _).hint <;>
                  (have hcode3 := congrArg hintCode hh3
                   simp only [hintCode] at hcode3
                   go_wp2_with fail
                   go_meet
                   exact ⟨by simp [hh3, hintCode], by simp [hh3, hintCode], rfl⟩)
              case rest =>
                obtain ⟨rfl, rfl, rfl⟩ := hcut
                go_upto_if 68 with fail
                go_cut [] from 19 (fun wx => (rd lt dk a' b' lim wb wp).pi.2 = false ∧ AtF B T g lb sf sb w w.heap.size (rd lt dk a' b' lim wb wp).pi.1 wx)
                case first =>
                  cases h68 : (wb && wp && decide ((rd lt dk a' b' lim wb wp).hint = .increasing))
                  · have epi := rd_pi_no h68
                    go_wp2_with fail
                    go_meet
                    case rel => exact ⟨by rw [epi], by rw [epi]; exact H3⟩
                  · have epi := rd_pi_yes h68
                    have hc19 := par_any (ρ := ρ) { L with } lt B size T g lb sf sb F a' b' (by omega) hb' (rd lt dk a' b' lim wb wp).d2 wc H3.st
                    rw [← epi] at hc19
                    go_wp2_with (go_at_fn (ρ.f 31); refine hc19.mono ?_; rintro e w4 ⟨rfl, hT4, hU4⟩)
                    all_goals first
                      | (have hp2 : (rd lt dk a' b' lim wb wp).pi.2 = false := by rw [epi]; assumption
                         go_meet
                         exact ⟨hp2, H3.call hT4 hU4⟩)
                      | (have hp2 : (rd lt dk a' b' lim wb wp).pi.2 = true := by rw [epi]; assumption
                         (try simp only [Exit.inBlock, Exit.then]); refine bodyPost_ret (results_none rfl _ _ _) rfl ?_
                         have H4 := H3.call hT4 hU4
                         refine ⟨rfl, ?_, H4.up⟩
                         rw [← A.out, pdq_done h12 hl0 hp2]
                         exact H4.st)
                case rest =>
                  obtain ⟨hp2, H5⟩ := hcut
                  clear H3
                  clear v0 v1
                  have t0 := H5.c0; have t1 := H5.c1
                  have hs5 := F.play.size H5.st
                  go_upto_region 18 with fail
                  go_cut [83] from 19 (fun s83 wx => s83 = .bool (decide (a' > 0) && !lt (rd lt dk a' b' lim wb wp).pi.1[a' - 1]! (rd lt dk a' b' lim wb wp).pi.1[(rd lt dk a' b' lim wb wp).pivot]!) ∧ AtF B T g lb sf sb w w.heap.size (rd lt dk a' b' lim wb wp).pi.1 wx)
                  case first =>
                    rcases Nat.eq_zero_or_pos a' with ha0 | ha0
                    · have ha0z : decide ((a' : Int) > 0) = false := decide_eq_false (by omega)
                      go_wp2_with fail
                      go_meet
                      case rel => exact ⟨by simp [ha0], H5⟩
                    · have ha0z : (a' : Int) > 0 := by omega
                      cases hlv : lt (rd lt dk a' b' lim wb wp).pi.1[a' - 1]! (rd lt dk a' b' lim wb wp).pi.1[(rd lt dk a' b' lim wb wp).pivot]! with
                      | false =>
                        have hl := H5.less F (a' - 1) (rd lt dk a' b' lim wb wp).pivot false (by omega) (by omega) hlv
                        rw [show ((a' - 1 : Nat) : Int) = (a' : Int) - 1 by omega] at hl
                        go_wp2_with (go_at_fn g; refine hl.mono ?_; rintro e w6 ⟨rfl, H6⟩)
                        go_meet
                        exact ⟨by simp [ha0, hlv], H6⟩
                      | true =>
                        have hl := H5.less F (a' - 1) (rd lt dk a' b' lim wb wp).pivot true (by omega) (by omega) hlv
                        rw [show ((a' - 1 : Nat) : Int) = (a' : Int) - 1 by omega] at hl
                        go_wp2_with (go_at_fn g; refine hl.mono ?_; rintro e w6 ⟨rfl, H6⟩)
                        go_meet
                        exact ⟨by simp [ha0, hlv], H6⟩
                  case rest =>
                    obtain ⟨rfl, H6⟩ := hcut
                    clear H5
                    clear t0 t1
                    have q0 := H6.c0; have q1 := H6.c1
                    cases h87 : (decide (a' > 0) && !lt (rd lt dk a' b' lim wb wp).pi.1[a' - 1]! (rd lt dk a' b' lim wb wp).pi.1[(rd lt dk a' b' lim wb wp).pivot]!)
                    · obtain ⟨mid, ap, d4, hx⟩ : ∃ mid ap d4, partition lt (rd lt dk a' b' lim wb wp).pi.1 a' b' (rd lt dk a' b' lim wb wp).pivot = (mid, ap, d4) := ⟨_, _, _, rfl⟩
                      obtain ⟨r1, r2, r3, r4, r5, r6, r7⟩ := round_part hO (partition_holds lt) hpv.1 hpv.2 (show b' ≤ (rd lt dk a' b' lim wb wp).pi.1.size by omega) HB3.out hx
                      have hc22 := part_any (ρ := ρ) { L with } lt B size T g lb sf sb F a' b' (rd lt dk a' b' lim wb wp).pivot hpv.1 hpv.2 hb' (rd lt dk a' b' lim wb wp).pi.1 wc H6.st
                      rw [hx] at hc22
                      have X : Hid (partition lt (rd lt dk a' b' lim wb wp).pi.1 a' b' (rd lt dk a' b' lim wb wp).pivot = (mid, ap, d4)) := hx
                      have R6 : Hid _ := r6; have R7 : Hid _ := r7; have R4 : Hid _ := r4; have R5 : Hid _ := r5
                      clear hx r6 r7 r4 r5
                      go_upto_if 109 with (go_at_fn (ρ.f 33); refine hc22.mono ?_; rintro e w7 ⟨rfl, hT7, hU7⟩)
                      have hx := X.out
                      have H7 := H6.call hT7 hU7
                      clear hc22 H6
                      clear q0 q1
                      have p0 := H7.c0; have p1 := H7.c1
                      have hs4 := F.play.size H7.st
                      by_cases h4 : mid - a' < b' - mid
                      · have h4z : (mid : Int) - (a' : Int) < (b' : Int) - (mid : Int) := by omega
                        have hih := IH.out a' mid (rd lt dk a' b' lim wb wp).lim d4 w7 (by omega) H7.st (by omega) (by omega) (Nat.lt_of_le_of_lt (Nat.le_trans rd_lim_le hlim) hlimit) R4.out
                        obtain ⟨pL, sL⟩ := pdq_sorts lt hO d4 a' mid (rd lt dk a' b' lim wb wp).lim true true (by omega) (by omega) R4.out
                        have PL : Hid _ := pL; have SL : Hid _ := sL
                        clear pL sL
                        go_wp2_with (go_at_fn (ρ.f 14); refine hih.mono ?_; rintro e w8 ⟨rfl, hT8, hU8⟩)
                        go_roundg (b' - (mid + 1))
                        case measure => omega
                        case rel =>
                          refine ⟨mid + 1, b', (rd lt dk a' b' lim wb wp).lim, decide (mid - a' ≥ (b' - a') / 8), ap, Sort.pdq lt d4 a' mid (rd lt dk a' b' lim wb wp).lim true true, by simp, rfl, rfl, ?_, rfl, by omega, by omega, Nat.le_refl _, by omega, Nat.le_trans rd_lim_le hlim, (R6.out _ PL.out SL.out).1, H7.call hT8 hU8, ?_⟩
                          · exact congrArg Value.bool (eighth (by omega) (by omega))
                          · show _ = _
                            rw [← A.out, pdq_left h12 hl0 hp2 h87 (by rw [hx]; exact ⟨r1, r2⟩) (by rw [hx]; exact h4), hx]
                      · have h4z : ¬ ((mid : Int) - (a' : Int) < (b' : Int) - (mid : Int)) := by omega
                        have hih := IH.out (mid + 1) b' (rd lt dk a' b' lim wb wp).lim d4 w7 (by omega) H7.st (by omega) (by omega) (Nat.lt_of_le_of_lt (Nat.le_trans rd_lim_le hlim) hlimit) R5.out
                        rw [show ((mid + 1 : Nat) : Int) = (mid : Int) + 1 by omega] at hih
                        obtain ⟨pL, sL⟩ := pdq_sorts lt hO d4 (mid + 1) b' (rd lt dk a' b' lim wb wp).lim true true (by omega) (by omega) R5.out
                        have PL : Hid _ := pL; have SL : Hid _ := sL
                        clear pL sL
                        go_wp2_with (go_at_fn (ρ.f 14); refine hih.mono ?_; rintro e w8 ⟨rfl, hT8, hU8⟩)
                        go_roundg (mid - a')
                        case measure => omega
                        case rel =>
                          refine ⟨a', mid, (rd lt dk a' b' lim wb wp).lim, decide (b' - mid ≥ (b' - a') / 8), ap, Sort.pdq lt d4 (mid + 1) b' (rd lt dk a' b' lim wb wp).lim true true, rfl, rfl, rfl, ?_, rfl, by omega, by omega, Nat.le_refl _, by omega, Nat.le_trans rd_lim_le hlim, (R7.out _ PL.out SL.out).1, H7.call hT8 hU8, ?_⟩
                          · exact congrArg Value.bool (eighth (by omega) (by omega))
                          · show _ = _
                            rw [← A.out, pdq_right h12 hl0 hp2 h87 (by rw [hx]; exact ⟨r1, r2⟩) (by rw [hx]; exact h4), hx]
                    · have h87' := h87
                      simp only [Bool.and_eq_true, decide_eq_true_eq, Bool.not_eq_true'] at h87'
                      obtain ⟨mid, d4, hx⟩ : ∃ mid d4, partitionEqual lt (rd lt dk a' b' lim wb wp).pi.1 a' b' (rd lt dk a' b' lim wb wp).pivot = (mid, d4) := ⟨_, _, rfl⟩
                      obtain ⟨r1, r2, r3, r4, _⟩ := round_eq hO (partitionEqual_holds lt) h87'.1 hpv.1 hpv.2 (show b' ≤ (rd lt dk a' b' lim wb wp).pi.1.size by omega) HB3.out h87'.2 hx
                      have hc21 := peq_any (ρ := ρ) { L with } lt B size T g lb sf sb F a' b' (rd lt dk a' b' lim wb wp).pivot hpv.1 hpv.2 hb' (rd lt dk a' b' lim wb wp).pi.1 wc H6.st
                      rw [hx] at hc21
                      have X : Hid (partitionEqual lt (rd lt dk a' b' lim wb wp).pi.1 a' b' (rd lt dk a' b' lim wb wp).pivot = (mid, d4)) := hx
                      have R4 : Hid _ := r4
                      clear hx r4 h87'
                      go_wp2_with (go_at_fn (ρ.f 32); refine hc21.mono ?_; rintro e w7 ⟨rfl, hT7, hU7⟩)
                      go_roundg (b' - mid)
                      case measure => omega
                      case rel =>
                        have hx := X.out
                        exact ⟨mid, b', (rd lt dk a' b' lim wb wp).lim, wb, wp, d4, rfl, rfl, rfl, rfl, rfl, r2, hb', Nat.le_refl _, by omega, Nat.le_trans rd_lim_le hlim, R4, H6.call hT7 hU7, (show Hid _ from by rw [← A.out, pdq_eq h12 hl0 hp2 h87 (by rw [hx]; exact ⟨r1, r2⟩), hx]; exact rfl)⟩

end Go.Proofs.YtlpnecmcncekcaaGreat.St
/- A row of elements of k cells as a state of a sort. -/
namespace Go.Proofs.YtlpnecmcncekcaaGreat.St
open Go Go.RowKit Go.Shelf Go.Lib Go.Sort Go.Proofs
variable {P : Program} {ρ : Ren} {α : Type} [Inhabited α]

theorem setCells_off (blk : Nat) : ∀ (vs : List Value) (o : Nat) (W : World) (b : Nat), b ≠ blk → (W.setCells blk o vs).heap[b]? = W.heap[b]?
  | [], _, _, _, _ => rfl
  | v :: r, o, W, b, h => by
    rw [World.setCells, setCells_off blk r (o + 1) _ b h, Below.heap_setCell _ _ _ _ h]
theorem setCells_same (blk : Nat) : ∀ (vs : List Value) (o : Nat) (W : World), (W.setCells blk o vs).os = W.os ∧ (W.setCells blk o vs).tape = W.tape ∧ (W.setCells blk o vs).output = W.output
  | [], _, _ => ⟨rfl, rfl, rfl⟩
  | v :: r, o, W => by
    rw [World.setCells]
    exact setCells_same blk r (o + 1) _

/-- In W the row lies as d; what lies below B and is not the row stands as it stood in w0. -/
structure RowT (enc : α → List Value) (k : Nat) (w0 : World) (B blk off size : Nat) (d : Array α) (W : World) : Prop where
  sz : d.size = size
  holds : HoldsK enc k W blk off d
  base : B ≤ W.heap.size
  os : W.os = w0.os
  tape : W.tape = w0.tape
  output : W.output = w0.output
  rest : ∀ b, b < B → b ≠ blk → W.heap[b]? = w0.heap[b]?

theorem holdsK_of_block {enc : α → List Value} {k : Nat} {W w : World} {blk off : Nat} {d : Array α} (h : HoldsK enc k W blk off d) (hb : w.heap[blk]? = W.heap[blk]?) : HoldsK enc k w blk off d := fun j hj =>
  ⟨(World.cell?_of_block (w := W) (a := ⟨blk, off + j, none⟩) hb).trans (h j hj).1, (World.frozen?_of_block (w := W) (a := ⟨blk, off + j, none⟩) hb).trans (h j hj).2⟩
theorem rowT_play (enc : α → List Value) (k : Nat) (w0 : World) (B blk off size : Nat) (hblk : blk < B) : Play B size (RowT enc k w0 B blk off size) where
  base := fun h => h.base
  size := fun h => h.sz
  keep := fun {d W w} h hb => ⟨h.sz, holdsK_of_block h.holds (hb.block _ (Nat.lt_of_lt_of_le hblk h.base)), Nat.le_trans h.base hb.size, hb.os.trans h.os, hb.tape.trans h.tape, hb.output.trans h.output,
    fun b hB hn => (hb.block b (Nat.lt_of_lt_of_le hB h.base)).trans (h.rest b hB hn)⟩
  set := fun {d W} h a v ha => ⟨h.sz, holdsK_of_block h.holds (Below.heap_setCell _ _ _ _ (by omega)), by simpa using h.base, h.os, h.tape, h.output,
    fun b hB hn => (Below.heap_setCell _ _ _ _ (by omega)).trans (h.rest b hB hn)⟩
theorem RowT.swap {enc : α → List Value} {k : Nat} {w0 W : World} {B blk off size : Nat} {d : Array α} (h : RowT enc k w0 B blk off size d W) (hk : ∀ x, (enc x).length = k) (i j : Nat) (hi : i < size) (hj : j < size) :
    RowT enc k w0 B blk off size (swp d i j) ((W.setCells blk (off + i * k) (enc d[j]!)).setCells blk (off + j * k) (enc d[i]!)) where
  sz := (size_swp _ _ _).trans h.sz
  holds := by
    have e := putRowK_swp enc k hk W blk off d i j (by rw [h.sz]; exact hi) (by rw [h.sz]; exact hj)
    rw [putRowK_self enc k W blk off d h.holds] at e
    rw [e]
    exact holdsK_putRowK enc k W blk off d (swp d i j) h.holds (size_swp _ _ _)
  base := by rw [size_setCells, size_setCells]; exact h.base
  os := ((setCells_same _ _ _ _).1.trans (setCells_same _ _ _ _).1).trans h.os
  tape := ((setCells_same _ _ _ _).2.1.trans (setCells_same _ _ _ _).2.1).trans h.tape
  output := ((setCells_same _ _ _ _).2.2.trans (setCells_same _ _ _ _).2.2).trans h.output
  rest := fun b hB hn => by rw [setCells_off _ _ _ _ b hn, setCells_off _ _ _ _ b hn]; exact h.rest b hB hn
theorem sortWorldK_off (enc : α → List Value) (k : Nat) (W : World) (blk off n : Nat) (d : Array α) (os : Array Obj) (b : Nat) (hb : b < W.heap.size) (hn : b ≠ blk) : (sortWorldK enc k W blk off n d os).heap[b]? = W.heap[b]? := by
  unfold sortWorldK
  rw [heap_grow_old _ _ (by rw [size_putRowK]; exact hb)]
  unfold putRowK putRow mapBlock
  simp only [Array.getElem?_modify]
  rw [if_neg (by omega)]
  rfl
/-- What the shelf says by an equation, said by a state. -/
theorem RowT.of_sortWorld {enc : α → List Value} {k : Nat} {w0 W w : World} {B blk off size : Nat} {d d' : Array α} (h : RowT enc k w0 B blk off size d W) (hblk : blk < B) (hs : d'.size = d.size) (hw : ∃ n os, w = sortWorldK enc k W blk off n d' os) :
    RowT enc k w0 B blk off size d' w ∧ Up B W w := by
  obtain ⟨n, os, rfl⟩ := hw
  have hb : blk < W.heap.size := Nat.lt_of_lt_of_le hblk h.base
  have hsz : W.heap.size ≤ (sortWorldK enc k W blk off n d' os).heap.size := SWK.le (⟨n, os, rfl⟩ : SWK enc k W blk off d' _)
  exact ⟨⟨hs.trans h.sz, holdsK_sortWorldK enc k W blk off n d d' os hb h.holds hs, Nat.le_trans h.base hsz, h.os, h.tape, h.output,
    fun b hB hn => (sortWorldK_off enc k W blk off n d' os b (Nat.lt_of_lt_of_le hB h.base) hn).trans (h.rest b hB hn)⟩,
    hsz, fun b hB hb => sortWorldK_off enc k W blk off n d' os b hb (by omega)⟩
end Go.Proofs.YtlpnecmcncekcaaGreat.St
/- sort.Slice over a row of elements of k cells, its 'less' may lay blocks. -/
namespace Go.Proofs.YtlpnecmcncekcaaGreat.St
open Go Go.RowKit Go.Shelf Go.Lib Go.Sort Go.Proofs
variable {P : Program} {ρ : Ren} {α : Type} [Inhabited α]

set_option maxHeartbeats 2000000 in
/-- sort.Slice at two elements or more. -/
theorem slice_any (L : LaysGg.n6 P ρ) (t e : TypeId) (i ie : TypeInfo) (hi : P.info? t = some i) (hd : i.desc = .slice e) (hpk : P.packed t = false) (hie : P.info? e = some ie) (ke : Nat) (hke : ∀ w, (Extern.Rtype.kind e).run P w = .ok ke w)
    (enc : α → List Value) (k : Nat) (hk : ∀ x, (enc x).length = k) (hs1 : ie.size = k) (hagg : ∀ w, (isAgg e).run P w = .ok true w) (h1 : ∀ x, ∀ v ∈ enc x, v.oneCell' = true) (lt : α → α → Bool) (hO : SWO lt) (g : Nat) (lb : Array Value)
    (eg : ∀ args w, (callFunc g args).run P w = .ok (.enter g args) w) (blk off c : Nat) (d : Array α) (h2 : 2 ≤ d.size) (hsz : d.size < 4611686018427387904)
    (f : Nat) (hf : P.funcs.findIdx? (·.name == "internal/reflectlite" ++ ".Swapper$" ++ toString (swapperK d.size ie ke)) = some f)
    (gS : Bool) (hx : ∀ args W, (callFunc f args).run P W = ((Extern.ReflectliteSwapper.swap gS args).run P W).andThen fun v w' => .ok (.value v) w')
    (w : World) (hH : HoldsK enc k w blk off d) (hblk : blk < w.heap.size)
    (hless : ∀ (d' : Array α) (W : World), RowT enc k w w.heap.size blk off d.size d' W → ∀ i j : Nat, i < d.size → j < d.size → Calls P g (#[.int .i64 i, .int .i64 j] ++ lb) W fun e w' => e = .returned (.bool (lt d'[i]! d'[j]!)) ∧ RowKit.Below W.heap.size W w') :
    Calls P (ρ.f 6) #[.iface t (.slice (some ⟨blk, off, none⟩) d.size c), .func (.func g) #[] lb] w fun e w' =>
      e = .returned (.tuple #[]) ∧ ∃ d', PermIn 0 d.size d d' ∧ SortedIn lt 0 d.size d' ∧ RowT enc k w w.heap.size blk off d.size d' w' := by
  have hlim : Lib.bitLen d.size < 4611686018427387904 := Nat.lt_of_le_of_lt (Lib.bitLen_le d.size 62 (by omega) (by omega)) (by omega)
  have hB : sliceBound P e ie ke (some ⟨blk, off, none⟩) d.size c = #[.slice (some ⟨blk, off, none⟩) d.size c, typeHandle P e] := by
    unfold sliceBound; rw [if_neg (swapperK_gt _ _ _ h2)]
  have sw := swapSwapsK_of_literal (P := P) gS f hx e ie hie enc k hk hs1 hagg h1 blk off d.size c
  have F : FuncFam P lt w.heap.size d.size (RowT enc k w w.heap.size blk off d.size) g lb f #[.slice (some ⟨blk, off, none⟩) d.size c, typeHandle P e] :=
    { play := rowT_play enc k w w.heap.size blk off d.size hblk
      small := hsz
      eg := eg
      less := fun {d' W} h i j hi hj => hless d' W h i j hi hj
      swap := fun {d' W} h i j hi hj => ⟨_, sw W d' h.holds h.sz i j hi hj, h.swap hk i j hi hj, by rw [size_setCells, size_setCells]; exact Nat.le_refl _, fun b hb _ => by rw [setCells_off _ _ _ _ b (by omega), setCells_off _ _ _ _ b (by omega)]⟩ }
  have hT0 : RowT enc k w w.heap.size blk off d.size d w := ⟨rfl, hH, Nat.le_refl _, rfl, rfl, rfl, fun _ _ _ => rfl⟩
  have hT : RowT enc k w w.heap.size blk off d.size d (sliceWorld P ρ t (some ⟨blk, off, none⟩) d.size c w) := by
    unfold sliceWorld
    exact F.play.keep hT0 (((Below.refl _ _).alloc (Nat.le_refl _) _).alloc (by simp) _)
  have hp := pdq_all (P := P) (ρ := ρ) { L with } lt hO w.heap.size d.size _ g lb f _ F
    (fun d' W a b h hab hb => (Any.breakPatterns_func_cells_w (P := P) (ρ := ρ) { L with } enc k hk (.func g) #[] lb f _ blk off a b d' W (by rw [h.sz]; exact sw) h.holds (Nat.lt_of_lt_of_le hblk h.base) hab (by rw [h.sz]; exact hb) (by rw [h.sz]; exact hsz)).mono
      fun e w' ⟨he, hw⟩ => ⟨he, h.of_sortWorld hblk (step_break d' hab (by rw [h.sz]; exact hb) True).1 hw⟩)
    (fun d' W a b h hab hb => (Any.reverseRange_func_cells_w (P := P) (ρ := ρ) { L with } enc k hk (.func g) #[] lb f _ blk off a b d' W (by rw [h.sz]; exact sw) h.holds (Nat.lt_of_lt_of_le hblk h.base) hab (by rw [h.sz]; exact hb) (by rw [h.sz]; exact hsz)).mono
      fun e w' ⟨he, hw⟩ => ⟨he, h.of_sortWorld hblk (reverseRange_holds d' a b hab (by rw [h.sz]; exact hb)).1 hw⟩)
    (d.size + 1) 0 d.size (Lib.bitLen d.size) d _ (by omega) hT (Nat.zero_le _) (Nat.le_refl _) hlim (Or.inl rfl)
  have hsort := pdq_sorts lt hO d 0 d.size (Lib.bitLen d.size) true true (Nat.zero_le _) (Nat.le_refl _) (Or.inl rfl)
  refine (Any.sort_Slice_of_pdq L t e i ie hi hd hpk hie ke hke _ d.size c hsz f hf (.func g) #[] lb w (fun w' => RowT enc k w w.heap.size blk off d.size (Sort.pdq lt d 0 d.size (Lib.bitLen d.size) true true) w') ?_).mono ?_
  · rw [hB]
    exact hp.mono fun e w' ⟨he, h1, _⟩ => ⟨he, h1⟩
  · rintro e w' ⟨rfl, h⟩
    exact ⟨rfl, _, hsort.1, hsort.2, h⟩
end Go.Proofs.YtlpnecmcncekcaaGreat.St
