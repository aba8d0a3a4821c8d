import Derived.Test.YtlpnecmcncekcaaGreatSt1
import Derived.Shelf.GgSortFunc.Slice
import Derived.Deep.LoopGhost
import Derived.WalkKit
import Derived.BigCall
import Derived.BigGuard
import Derived.Sort.WalkA6
import Derived.Sort.WalkB2
import Derived.Sort.WalkC
import Derived.Sort.WalkC4
import Derived.Shelf.GgSortFunc.LotD
import Derived.Sort.LotD4
import Derived.Sort.LotD1
import Derived.Sort.Walk11
/- partialInsertionSort, func -/
namespace Go.Proofs.YtlpnecmcncekcaaGreat.St
open Go Go.RowKit Go.Shelf Go.Lib Go.Sort Go.Proofs
variable {P : Program} {ρ : Ren} {α : Type} [Inhabited α]

set_option maxHeartbeats 25600000 in
set_option maxRecDepth 1000000 in
theorem par_any (L : LaysGg.n31 P ρ) (lt : α → α → Bool) (B size : Nat) (T : Array α → World → Prop) (g : Nat) (lb : Array Value) (sf : Nat) (sb : Array Value) (F : FuncFam P lt B size T g lb sf sb) (a b : Nat) (hab : a < b) (hb : b ≤ size) (d : Array α) (w : World) (hT : T d w) :
    Calls P (ρ.f 31) #[.agg #[.func (.func g) #[] lb, .func (.func sf) #[] sb], .int .i64 a, .int .i64 b] w fun e w' => e = .returned (.bool (Sort.partialInsertionSort lt d a b).2) ∧ T ((Sort.partialInsertionSort lt d a b).1) w' ∧ Up B w w' := by
  have mixed := L.mixed; have t0 := L.t0; have a0 := L.a0; have z0 := L.z0; have v0 := L.v0; have t3 := L.t3; have a3 := L.a3; have z3 := L.z3
  have v3 := L.v3; have t4 := L.t4; have a4 := L.a4; have z4 := L.z4; have v4 := L.v4; have t26 := L.t26; have a26 := L.a26; have z26 := L.z26
  have v26 := L.v26; have t37 := L.t37; have a37 := L.a37; have z37 := L.z37; have v37 := L.v37; have t44 := L.t44; have a44 := L.a44; have z44 := L.z44
  have v44 := L.v44
  have u44 := run_underlying L.t44
  have eg := F.eg
  have H0 := F.start hT (ρ.t 44)
  have hsz := F.small
  have hds := F.play.size hT
  go_enter L.f31, BodyGg.n31_ntmps ρ
  go_wp2
  go_loopg [7, 8] 5 (fun g1 vi vs wr => ∃ (i s : Nat) (dk : Array α), vi = .int .i64 i ∧ vs = .int .i64 s ∧ s ≤ 5 ∧ 5 - s ≤ g1 ∧ a < i ∧ i ≤ b ∧ AtF B T g lb sf sb w w.heap.size dk wr ∧ Hid (partialIns lt a b (5 - s) i dk = partialIns lt a b 5 (a + 1) d))
  case atStart => exact ⟨a + 1, 0, d, by go_num, rfl, by omega, by omega, by omega, by omega, H0, rfl⟩
  case round =>
    clear H0 hT
    obtain ⟨i, s, dk, rfl, rfl, hs5, hg1, hai, hib, H1, HO⟩ := hrel
    by_cases hs : s < 5
    · have hsz5 : (s : Int) < 5 := by omega
      go_wp2
      go_loopg [7] (b - i) (fun g2 vi wr2 => ∃ (kx : Nat), vi = .int .i64 kx ∧ i ≤ kx ∧ kx ≤ b ∧ b - kx ≤ g2 ∧ AtF B T g lb sf sb w w.heap.size dk wr2 ∧ Hid (scanSorted lt dk b kx = scanSorted lt dk b i))
      case atStart => exact ⟨i, rfl, Nat.le_refl _, hib, Nat.le_refl _, H1, rfl⟩
      case round =>
        clear H1
        obtain ⟨kx, rfl, hik, hkb, hg2, H2, HSc⟩ := hrel
        have c2a := H2.c0; have c2b := H2.c1
        by_cases hkb' : kx < b
        · have hkz : (kx : Int) < (b : Int) := by omega
          cases hlv : lt dk[kx]! dk[kx - 1]! with
          | false =>
            have hl2 := H2.less F kx (kx - 1) false (by omega) (by omega) hlv; rw [show ((kx - 1 : Nat) : Int) = (kx : Int) - 1 by omega] at hl2
            go_wp2_with (go_at_fn g; refine hl2.mono ?_; rintro e v3 ⟨rfl, H3⟩)
            go_roundg (b - (kx + 1))
            case measure => omega
            case rel => exact ⟨kx + 1, by go_num, by omega, by omega, Nat.le_refl _, H3, (show Hid _ from by rw [← HSc.out, scanSorted_go lt dk b kx hkb' hlv]; exact rfl)⟩
          | true =>
            have hl2 := H2.less F kx (kx - 1) true (by omega) (by omega) hlv; rw [show ((kx - 1 : Nat) : Int) = (kx : Int) - 1 by omega] at hl2
            have HK : Hid (scanSorted lt dk b i = kx) := by show _ = _; rw [← HSc.out, scanSorted_stop lt dk b kx (Or.inr hlv)]
            have hkne : ((kx : Int) == (b : Int)) = false := beq_eq_false_iff_ne.2 (by omega)
            by_cases h50 : b - a < 50
            · have h50z : (b : Int) - (a : Int) < 50 := by omega
              go_wp2_with (go_at_fn g; refine hl2.mono ?_; rintro e v3 ⟨rfl, H3⟩)
              have hv : Sort.partialInsertionSort lt d a b = (dk, false) := by
                unfold Sort.partialInsertionSort
                rw [← HO.out, pi_short lt a b s i dk hs (by rw [HK.out]; omega) h50]
              rw [hv]
              go_ret
              exact ⟨rfl, H3.st, H3.up⟩
            · have h50z : ¬ ((b : Int) - (a : Int) < 50) := by omega
              by_cases hka : kx - a ≥ 2
              · have hkaz : (2 : Int) ≤ (kx : Int) - (a : Int) := by omega
                go_wp2_with (go_at_fn g; refine hl2.mono ?_; rintro e v3 ⟨rfl, K3⟩; have k3 := K3.c1; obtain ⟨u3, hs3, H3⟩ := K3.swap F kx (kx - 1) (by omega) (by omega); rw [show ((kx - 1 : Nat) : Int) = (kx : Int) - 1 by omega] at hs3)
                clear hl2 H2 c2a c2b
                go_loopg [9] (kx - 1) (fun g3 vj wr3 => ∃ (j : Nat) (dj : Array α), vj = .int .i64 j ∧ j ≤ kx - 1 ∧ j ≤ g3 ∧ AtF B T g lb sf sb w w.heap.size dj wr3 ∧ Hid (shiftDown lt j dj = shiftDown lt (kx - 1) (swp dk kx (kx - 1))))
                case atStart => exact ⟨kx - 1, swp dk kx (kx - 1), by congr 1; omega, Nat.le_refl _, Nat.le_refl _, H3, rfl⟩
                case round =>
                  clear H3 K3 k3 hs3
                  obtain ⟨j, dj, rfl, hjk, hg3, H4, HDn⟩ := hrel
                  have c4a := H4.c0; have c4b := H4.c1
                  by_cases hj1 : 1 ≤ j
                  · have hj1z : (1 : Int) ≤ (j : Int) := by omega
                    cases hlv2 : lt dj[j]! dj[j - 1]! with
                    | true =>
                      have hl4 := H4.less F j (j - 1) true (by omega) (by omega) hlv2; rw [show ((j - 1 : Nat) : Int) = (j : Int) - 1 by omega] at hl4
                      go_wp2_with (go_at_fn g; refine hl4.mono ?_; rintro e v5 ⟨rfl, K5⟩; have k5 := K5.c1; obtain ⟨u5, hs5, H5⟩ := K5.swap F j (j - 1) (by omega) (by omega); rw [show ((j - 1 : Nat) : Int) = (j : Int) - 1 by omega] at hs5)
                      go_roundg (j - 1)
                      case measure => omega
                      case rel => exact ⟨j - 1, swp dj j (j - 1), by congr 1; omega, by omega, Nat.le_refl _, H5, (show Hid _ from by rw [← HDn.out, shiftDown_go lt j dj hj1 hlv2]; exact rfl)⟩
                    | false =>
                      have hl4 := H4.less F j (j - 1) false (by omega) (by omega) hlv2; rw [show ((j - 1 : Nat) : Int) = (j : Int) - 1 by omega] at hl4
                      have HD : Hid (fixDown lt a kx (swp dk kx (kx - 1)) = dj) := by show _ = _; unfold fixDown; rw [if_pos hka, ← HDn.out, shiftDown_stop lt j dj (Or.inr hlv2)]
                      by_cases hbk : b - kx ≥ 2
                      · have hbkz : (2 : Int) ≤ (b : Int) - (kx : Int) := by omega
                        go_wp2_with (go_at_fn g; refine hl4.mono ?_; rintro e v5 ⟨rfl, H5⟩)
                        go_loopg [10] (b - (kx + 1)) (fun g4 vj wr4 => ∃ (ju : Nat) (du : Array α), vj = .int .i64 ju ∧ kx + 1 ≤ ju ∧ ju ≤ b ∧ b - ju ≤ g4 ∧ AtF B T g lb sf sb w w.heap.size du wr4 ∧ Hid (shiftUp lt b ju du = shiftUp lt b (kx + 1) (dj)))
                        case atStart => exact ⟨kx + 1, dj, by go_num, Nat.le_refl _, by omega, Nat.le_refl _, H5, rfl⟩
                        case round =>
                          clear H5
                          obtain ⟨ju, du, rfl, hkj, hjb, hg4, H8, HU⟩ := hrel
                          have c8a := H8.c0; have c8b := H8.c1
                          by_cases hjb' : ju < b
                          · have hjz : (ju : Int) < (b : Int) := by omega
                            cases hlv3 : lt du[ju]! du[ju - 1]! with
                            | true =>
                              have hl8 := H8.less F ju (ju - 1) true (by omega) (by omega) hlv3; rw [show ((ju - 1 : Nat) : Int) = (ju : Int) - 1 by omega] at hl8
                              go_wp2_with (go_at_fn g; refine hl8.mono ?_; rintro e v9 ⟨rfl, K9⟩; have k9 := K9.c1; obtain ⟨u9, hs9, H9⟩ := K9.swap F ju (ju - 1) (by omega) (by omega); rw [show ((ju - 1 : Nat) : Int) = (ju : Int) - 1 by omega] at hs9)
                              go_roundg (b - (ju + 1))
                              case measure => omega
                              case rel => exact ⟨ju + 1, swp du ju (ju - 1), by go_num, by omega, by omega, Nat.le_refl _, H9, (show Hid _ from by rw [← HU.out, shiftUp_go lt b ju du hjb' hlv3]; exact rfl)⟩
                            | false =>
                              have hl8 := H8.less F ju (ju - 1) false (by omega) (by omega) hlv3; rw [show ((ju - 1 : Nat) : Int) = (ju : Int) - 1 by omega] at hl8
                              go_wp2_with (go_at_fn g; refine hl8.mono ?_; rintro e v9 ⟨rfl, H9⟩)
                              go_roundg (5 - (s + 1))
                              case measure => omega
                              case rel => exact ⟨kx, s + 1, du, rfl, by go_num, by omega, Nat.le_refl _, by omega, by omega, H9, (show Hid _ from by rw [← HO.out, pi_go lt a b s i kx dk hs HK.out (by omega) h50, HD.out, show fixUp lt b kx (dj) = du from by unfold fixUp; rw [if_pos hbk, ← HU.out, shiftUp_stop lt b ju du (Or.inr hlv3)]]; exact rfl)⟩
                          · have hjz : ¬ (ju : Int) < (b : Int) := by omega
                            go_wp2
                            go_roundg (5 - (s + 1))
                            case measure => omega
                            case rel => exact ⟨kx, s + 1, du, rfl, by go_num, by omega, Nat.le_refl _, by omega, by omega, H8, (show Hid _ from by rw [← HO.out, pi_go lt a b s i kx dk hs HK.out (by omega) h50, HD.out, show fixUp lt b kx (dj) = du from by unfold fixUp; rw [if_pos hbk, ← HU.out, shiftUp_stop lt b ju du (Or.inl hjb')]]; exact rfl)⟩
                      · have hbkz : ¬ (2 : Int) ≤ (b : Int) - (kx : Int) := by omega
                        go_wp2_with (go_at_fn g; refine hl4.mono ?_; rintro e v5 ⟨rfl, H5⟩)
                        go_roundg (5 - (s + 1))
                        case measure => omega
                        case rel => exact ⟨kx, s + 1, dj, rfl, by go_num, by omega, Nat.le_refl _, by omega, by omega, H5, (show Hid _ from by rw [← HO.out, pi_go lt a b s i kx dk hs HK.out (by omega) h50, HD.out, show fixUp lt b kx (dj) = dj from by unfold fixUp; rw [if_neg hbk]]; exact rfl)⟩
                  · have hj1z : ¬ (1 : Int) ≤ (j : Int) := by omega
                    have HD : Hid (fixDown lt a kx (swp dk kx (kx - 1)) = dj) := by show _ = _; unfold fixDown; rw [if_pos hka, ← HDn.out, shiftDown_stop lt j dj (Or.inl (by omega))]
                    by_cases hbk : b - kx ≥ 2
                    · have hbkz : (2 : Int) ≤ (b : Int) - (kx : Int) := by omega
                      go_wp2
                      go_loopg [10] (b - (kx + 1)) (fun g4 vj wr4 => ∃ (ju : Nat) (du : Array α), vj = .int .i64 ju ∧ kx + 1 ≤ ju ∧ ju ≤ b ∧ b - ju ≤ g4 ∧ AtF B T g lb sf sb w w.heap.size du wr4 ∧ Hid (shiftUp lt b ju du = shiftUp lt b (kx + 1) (dj)))
                      case atStart => exact ⟨kx + 1, dj, by go_num, Nat.le_refl _, by omega, Nat.le_refl _, H4, rfl⟩
                      case round =>
                        clear H4
                        obtain ⟨ju, du, rfl, hkj, hjb, hg4, H8, HU⟩ := hrel
                        have c8a := H8.c0; have c8b := H8.c1
                        by_cases hjb' : ju < b
                        · have hjz : (ju : Int) < (b : Int) := by omega
                          cases hlv3 : lt du[ju]! du[ju - 1]! with
                          | true =>
                            have hl8 := H8.less F ju (ju - 1) true (by omega) (by omega) hlv3; rw [show ((ju - 1 : Nat) : Int) = (ju : Int) - 1 by omega] at hl8
                            go_wp2_with (go_at_fn g; refine hl8.mono ?_; rintro e v9 ⟨rfl, K9⟩; have k9 := K9.c1; obtain ⟨u9, hs9, H9⟩ := K9.swap F ju (ju - 1) (by omega) (by omega); rw [show ((ju - 1 : Nat) : Int) = (ju : Int) - 1 by omega] at hs9)
                            go_roundg (b - (ju + 1))
                            case measure => omega
                            case rel => exact ⟨ju + 1, swp du ju (ju - 1), by go_num, by omega, by omega, Nat.le_refl _, H9, (show Hid _ from by rw [← HU.out, shiftUp_go lt b ju du hjb' hlv3]; exact rfl)⟩
                          | false =>
                            have hl8 := H8.less F ju (ju - 1) false (by omega) (by omega) hlv3; rw [show ((ju - 1 : Nat) : Int) = (ju : Int) - 1 by omega] at hl8
                            go_wp2_with (go_at_fn g; refine hl8.mono ?_; rintro e v9 ⟨rfl, H9⟩)
                            go_roundg (5 - (s + 1))
                            case measure => omega
                            case rel => exact ⟨kx, s + 1, du, rfl, by go_num, by omega, Nat.le_refl _, by omega, by omega, H9, (show Hid _ from by rw [← HO.out, pi_go lt a b s i kx dk hs HK.out (by omega) h50, HD.out, show fixUp lt b kx (dj) = du from by unfold fixUp; rw [if_pos hbk, ← HU.out, shiftUp_stop lt b ju du (Or.inr hlv3)]]; exact rfl)⟩
                        · have hjz : ¬ (ju : Int) < (b : Int) := by omega
                          go_wp2
                          go_roundg (5 - (s + 1))
                          case measure => omega
                          case rel => exact ⟨kx, s + 1, du, rfl, by go_num, by omega, Nat.le_refl _, by omega, by omega, H8, (show Hid _ from by rw [← HO.out, pi_go lt a b s i kx dk hs HK.out (by omega) h50, HD.out, show fixUp lt b kx (dj) = du from by unfold fixUp; rw [if_pos hbk, ← HU.out, shiftUp_stop lt b ju du (Or.inl hjb')]]; exact rfl)⟩
                    · have hbkz : ¬ (2 : Int) ≤ (b : Int) - (kx : Int) := by omega
                      go_wp2
                      go_roundg (5 - (s + 1))
                      case measure => omega
                      case rel => exact ⟨kx, s + 1, dj, rfl, by go_num, by omega, Nat.le_refl _, by omega, by omega, H4, (show Hid _ from by rw [← HO.out, pi_go lt a b s i kx dk hs HK.out (by omega) h50, HD.out, show fixUp lt b kx (dj) = dj from by unfold fixUp; rw [if_neg hbk]]; exact rfl)⟩
              · have hkaz : ¬ (2 : Int) ≤ (kx : Int) - (a : Int) := by omega
                have HD : Hid (fixDown lt a kx (swp dk kx (kx - 1)) = swp dk kx (kx - 1)) := by show _ = _; unfold fixDown; rw [if_neg hka]
                by_cases hbk : b - kx ≥ 2
                · have hbkz : (2 : Int) ≤ (b : Int) - (kx : Int) := by omega
                  go_wp2_with (go_at_fn g; refine hl2.mono ?_; rintro e v3 ⟨rfl, K3⟩; have k3 := K3.c1; obtain ⟨u3, hs3, H3⟩ := K3.swap F kx (kx - 1) (by omega) (by omega); rw [show ((kx - 1 : Nat) : Int) = (kx : Int) - 1 by omega] at hs3)
                  go_loopg [10] (b - (kx + 1)) (fun g4 vj wr4 => ∃ (ju : Nat) (du : Array α), vj = .int .i64 ju ∧ kx + 1 ≤ ju ∧ ju ≤ b ∧ b - ju ≤ g4 ∧ AtF B T g lb sf sb w w.heap.size du wr4 ∧ Hid (shiftUp lt b ju du = shiftUp lt b (kx + 1) (swp dk kx (kx - 1))))
                  case atStart => exact ⟨kx + 1, swp dk kx (kx - 1), by go_num, Nat.le_refl _, by omega, Nat.le_refl _, H3, rfl⟩
                  case round =>
                    clear H3
                    obtain ⟨ju, du, rfl, hkj, hjb, hg4, H8, HU⟩ := hrel
                    have c8a := H8.c0; have c8b := H8.c1
                    by_cases hjb' : ju < b
                    · have hjz : (ju : Int) < (b : Int) := by omega
                      cases hlv3 : lt du[ju]! du[ju - 1]! with
                      | true =>
                        have hl8 := H8.less F ju (ju - 1) true (by omega) (by omega) hlv3; rw [show ((ju - 1 : Nat) : Int) = (ju : Int) - 1 by omega] at hl8
                        go_wp2_with (go_at_fn g; refine hl8.mono ?_; rintro e v9 ⟨rfl, K9⟩; have k9 := K9.c1; obtain ⟨u9, hs9, H9⟩ := K9.swap F ju (ju - 1) (by omega) (by omega); rw [show ((ju - 1 : Nat) : Int) = (ju : Int) - 1 by omega] at hs9)
                        go_roundg (b - (ju + 1))
                        case measure => omega
                        case rel => exact ⟨ju + 1, swp du ju (ju - 1), by go_num, by omega, by omega, Nat.le_refl _, H9, (show Hid _ from by rw [← HU.out, shiftUp_go lt b ju du hjb' hlv3]; exact rfl)⟩
                      | false =>
                        have hl8 := H8.less F ju (ju - 1) false (by omega) (by omega) hlv3; rw [show ((ju - 1 : Nat) : Int) = (ju : Int) - 1 by omega] at hl8
                        go_wp2_with (go_at_fn g; refine hl8.mono ?_; rintro e v9 ⟨rfl, H9⟩)
                        go_roundg (5 - (s + 1))
                        case measure => omega
                        case rel => exact ⟨kx, s + 1, du, rfl, by go_num, by omega, Nat.le_refl _, by omega, by omega, H9, (show Hid _ from by rw [← HO.out, pi_go lt a b s i kx dk hs HK.out (by omega) h50, HD.out, show fixUp lt b kx (swp dk kx (kx - 1)) = du from by unfold fixUp; rw [if_pos hbk, ← HU.out, shiftUp_stop lt b ju du (Or.inr hlv3)]]; exact rfl)⟩
                    · have hjz : ¬ (ju : Int) < (b : Int) := by omega
                      go_wp2
                      go_roundg (5 - (s + 1))
                      case measure => omega
                      case rel => exact ⟨kx, s + 1, du, rfl, by go_num, by omega, Nat.le_refl _, by omega, by omega, H8, (show Hid _ from by rw [← HO.out, pi_go lt a b s i kx dk hs HK.out (by omega) h50, HD.out, show fixUp lt b kx (swp dk kx (kx - 1)) = du from by unfold fixUp; rw [if_pos hbk, ← HU.out, shiftUp_stop lt b ju du (Or.inl hjb')]]; exact rfl)⟩
                · exfalso; omega
        · have hkz : ¬ (kx : Int) < (b : Int) := by omega
          have hkeb : ((kx : Int) == (b : Int)) = true := by simp; omega
          have hv : Sort.partialInsertionSort lt d a b = (dk, true) := by
            unfold Sort.partialInsertionSort
            rw [← HO.out, pi_true lt a b s i dk hs (by rw [← HSc.out, scanSorted_stop lt dk b kx (Or.inl (by omega))]; omega)]
          go_wp2
          try rw [hv]
          go_ret
          exact ⟨rfl, H2.st, H2.up⟩
    · have hs6 : s = 5 := by omega
      subst hs6
      have hv : Sort.partialInsertionSort lt d a b = (dk, false) := by
        unfold Sort.partialInsertionSort
        rw [← HO.out, pi_end lt a b i dk]
      go_wp2
      try rw [hv]
      go_ret
      exact ⟨rfl, H1.st, H1.up⟩

end Go.Proofs.YtlpnecmcncekcaaGreat.St
/- partitionEqual, func -/
namespace Go.Proofs.YtlpnecmcncekcaaGreat.St
open Go Go.RowKit Go.Shelf Go.Lib Go.Sort Go.Proofs
variable {P : Program} {ρ : Ren} {α : Type} [Inhabited α]

set_option maxHeartbeats 12800000 in
set_option maxRecDepth 1000000 in
theorem peq_any (L : LaysGg.n32 P ρ) (lt : α → α → Bool) (B size : Nat) (T : Array α → World → Prop) (g : Nat) (lb : Array Value) (sf : Nat) (sb : Array Value) (F : FuncFam P lt B size T g lb sf sb) (a b pivot : Nat) (hap : a ≤ pivot) (hpb : pivot < b) (hb : b ≤ size) (d : Array α) (w : World) (hT : T d w) :
    Calls P (ρ.f 32) #[.agg #[.func (.func g) #[] lb, .func (.func sf) #[] sb], .int .i64 a, .int .i64 b, .int .i64 pivot] w fun e w' => e = .returned (.int .i64 (Sort.partitionEqual lt d a b pivot).1) ∧ T ((Sort.partitionEqual lt d a b pivot).2) w' ∧ Up B w w' := by
  have mixed := L.mixed; have t0 := L.t0; have a0 := L.a0; have z0 := L.z0; have v0 := L.v0; have t3 := L.t3; have a3 := L.a3; have z3 := L.z3
  have v3 := L.v3; have t4 := L.t4; have a4 := L.a4; have z4 := L.z4; have v4 := L.v4; have t26 := L.t26; have a26 := L.a26; have z26 := L.z26
  have v26 := L.v26; have t37 := L.t37; have a37 := L.a37; have z37 := L.z37; have v37 := L.v37; have t44 := L.t44; have a44 := L.a44; have z44 := L.z44
  have v44 := L.v44
  have u44 := run_underlying L.t44
  have eg := F.eg
  have H0 := F.start hT (ρ.t 44)
  have hsz := F.small
  have hds := F.play.size hT
  obtain ⟨w1, hs0, H1⟩ := H0.swap F a pivot (by omega) (by omega)
  go_enter L.f32, BodyGg.n32_ntmps ρ
  go_wp2
  go_loopw [9, 10] (fun vi vj wr => ∃ (i j : Nat) (dk : Array α), vi = .int .i64 i ∧ vj = .int .i64 j ∧ a < i ∧ i ≤ j + 1 ∧ j < b ∧ AtF B T g lb sf sb w w.heap.size dk wr ∧ Hid (Sort.partEqLoop lt a i j dk = Sort.partEqLoop lt a (a + 1) (b - 1) (Sort.swp d a pivot))) (fun vi vj _ => (RowKit.intOf vj).toNat + 1 - (RowKit.intOf vi).toNat)
  case atStart => exact ⟨a + 1, b - 1, Sort.swp d a pivot, by go_num, by go_num, by omega, by omega, by omega, H1, rfl⟩
  case round =>
    clear hs0 H1 H0 hT
    obtain ⟨i, j, dk, rfl, rfl, hai, hij, hjb, H, AE⟩ := hrel
    have c0 := H.c0; have c1 := H.c1
    go_wp2
    go_loopw [9] (fun vi w1 => ∃ (i' : Nat), vi = .int .i64 i' ∧ i ≤ i' ∧ i' ≤ j + 1 ∧ AtF B T g lb sf sb w w.heap.size dk w1 ∧ Hid (Sort.scanUp (fun x => !lt dk[a]! x) dk j i' = Sort.scanUp (fun x => !lt dk[a]! x) dk j i)) (fun vi _ => j + 1 - (RowKit.intOf vi).toNat)
    case atStart => exact ⟨i, rfl, Nat.le_refl _, hij, H, rfl⟩
    case round =>
      clear H c0 c1
      obtain ⟨i', rfl, hii, hij', H, hsc⟩ := hrel
      have c0 := H.c0; have c1 := H.c1
      by_cases hle : i' ≤ j
      · cases hlv : lt dk[a]! dk[i']! with
        | false =>
          have hl := H.less F a i' false (by omega) (by omega) hlv
          go_wp2_with (go_at_fn g; refine hl.mono ?_; rintro e w3 ⟨rfl, H1⟩)
          go_roundw
          case rel => exact ⟨i' + 1, by go_num, by omega, by omega, H1, (show Hid _ from (scanUp_go (fun x => !lt dk[a]! x) dk j i' hle (by simp [hlv])).symm.trans hsc.out)⟩
          case measure => simp [RowKit.intOf]; omega
        | true =>
          have hl := H.less F a i' true (by omega) (by omega) hlv
          have hi2 : Hid (i' = Sort.scanUp (fun x => !lt dk[a]! x) dk j i) := (scanUp_end (fun x => !lt dk[a]! x) dk j i' (Or.inr (by simp [hlv]))).symm.trans hsc.out
          go_wp2_with (go_at_fn g; refine hl.mono ?_; rintro e w3 ⟨rfl, H1⟩)
          clear hl hsc H c0 c1
          go_loopw [10] (fun vj w2 => ∃ (j' : Nat), vj = .int .i64 j' ∧ j' ≤ j ∧ i' ≤ j' + 1 ∧ AtF B T g lb sf sb w w.heap.size dk w2 ∧ Hid (Sort.scanDown (fun x => lt dk[a]! x) dk i' j' = Sort.scanDown (fun x => lt dk[a]! x) dk i' j)) (fun vj _ => (RowKit.intOf vj).toNat)
          case atStart => exact ⟨j, rfl, Nat.le_refl _, hij', H1, rfl⟩
          case round =>
            clear H1
            obtain ⟨j', rfl, hjj, hij2, H, hsd⟩ := hrel
            have c0 := H.c0; have c1 := H.c1
            by_cases hle2 : i' ≤ j'
            · cases hlv2 : lt dk[a]! dk[j']! with
              | true =>
                have hl := H.less F a j' true (by omega) (by omega) hlv2
                go_wp2_with (go_at_fn g; refine hl.mono ?_; rintro e w3 ⟨rfl, H1⟩)
                go_roundw
                case rel => exact ⟨j' - 1, by go_num, by omega, by omega, H1, (show Hid _ from (scanDown_go (fun x => lt dk[a]! x) dk i' j' hle2 (by omega) (by simp [hlv2])).symm.trans hsd.out)⟩
                case measure => simp [RowKit.intOf]; omega
              | false =>
                have hl := H.less F a j' false (by omega) (by omega) hlv2
                have hj2 : Hid (j' = Sort.scanDown (fun x => lt dk[a]! x) dk i' j) := (scanDown_end (fun x => lt dk[a]! x) dk i' j' (Or.inr (by simp [hlv2]))).symm.trans hsd.out
                have hlt3 := scans_lt lt a i j dk (by omega) hi2.out hj2.out hle2
                clear hsd
                go_wp2_with (go_at_fn g; refine hl.mono ?_; rintro e w3 ⟨rfl, H1⟩; have d1 := H1.c1; obtain ⟨w4, hs, H2⟩ := H1.swap F i' j' (by omega) (by omega))
                go_roundw
                case rel => exact ⟨i' + 1, j' - 1, Sort.swp dk i' j', by go_num, by go_num, by omega, by omega, by omega, H2, (show Hid _ from by rw [← AE.out]; exact (partEq_go lt a i j dk hi2.out hj2.out (by omega)).symm)⟩
                case measure => simp [RowKit.intOf]; omega
            · have hj2 : Hid (j' = Sort.scanDown (fun x => lt dk[a]! x) dk i' j) := (scanDown_end (fun x => lt dk[a]! x) dk i' j' (Or.inl hle2)).symm.trans hsd.out
              clear hsd
              go_wp2
              go_ret
              have e := partEq_break lt a i j dk hi2.out hj2.out (by omega)
              exact ⟨by unfold Sort.partitionEqual; rw [← AE.out, e]; rfl, by unfold Sort.partitionEqual; rw [← AE.out, e]; exact H.st, H.up⟩
      · have hi2 : Hid (i' = Sort.scanUp (fun x => !lt dk[a]! x) dk j i) := (scanUp_end (fun x => !lt dk[a]! x) dk j i' (Or.inl hle)).symm.trans hsc.out
        go_wp2
        clear hsc c0 c1
        go_loopw [10] (fun vj w2 => ∃ (j' : Nat), vj = .int .i64 j' ∧ j' ≤ j ∧ i' ≤ j' + 1 ∧ AtF B T g lb sf sb w w.heap.size dk w2 ∧ Hid (Sort.scanDown (fun x => lt dk[a]! x) dk i' j' = Sort.scanDown (fun x => lt dk[a]! x) dk i' j)) (fun vj _ => (RowKit.intOf vj).toNat)
        case atStart => exact ⟨j, rfl, Nat.le_refl _, hij', H, rfl⟩
        case round =>
          clear H
          obtain ⟨j', rfl, hjj, hij2, H, hsd⟩ := hrel
          have c0 := H.c0; have c1 := H.c1
          by_cases hle2 : i' ≤ j'
          · exfalso; omega
          · have hj2 : Hid (j' = Sort.scanDown (fun x => lt dk[a]! x) dk i' j) := (scanDown_end (fun x => lt dk[a]! x) dk i' j' (Or.inl hle2)).symm.trans hsd.out
            clear hsd
            go_wp2
            go_ret
            have e := partEq_break lt a i j dk hi2.out hj2.out (by omega)
            exact ⟨by unfold Sort.partitionEqual; rw [← AE.out, e]; rfl, by unfold Sort.partitionEqual; rw [← AE.out, e]; exact H.st, H.up⟩

end Go.Proofs.YtlpnecmcncekcaaGreat.St
/- partition, func -/
namespace Go.Proofs.YtlpnecmcncekcaaGreat.St
open Go Go.RowKit Go.Shelf Go.Lib Go.Sort Go.Proofs
variable {P : Program} {ρ : Ren} {α : Type} [Inhabited α]

set_option maxHeartbeats 25600000 in
set_option maxRecDepth 1000000 in
theorem part_any (L : LaysGg.n33 P ρ) (lt : α → α → Bool) (B size : Nat) (T : Array α → World → Prop) (g : Nat) (lb : Array Value) (sf : Nat) (sb : Array Value) (F : FuncFam P lt B size T g lb sf sb) (a b pivot : Nat) (hap : a ≤ pivot) (hpb : pivot < b) (hb : b ≤ size) (d : Array α) (w : World) (hT : T d w) :
    Calls P (ρ.f 33) #[.agg #[.func (.func g) #[] lb, .func (.func sf) #[] sb], .int .i64 a, .int .i64 b, .int .i64 pivot] w fun e w' => e = .returned (.tuple #[.int .i64 (Sort.partition lt d a b pivot).1, .bool (Sort.partition lt d a b pivot).2.1]) ∧ T ((Sort.partition lt d a b pivot).2.2) w' ∧ Up B w w' := by
  have mixed := L.mixed; have t0 := L.t0; have a0 := L.a0; have z0 := L.z0; have v0 := L.v0; have t3 := L.t3; have a3 := L.a3; have z3 := L.z3
  have v3 := L.v3; have t4 := L.t4; have a4 := L.a4; have z4 := L.z4; have v4 := L.v4; have t26 := L.t26; have a26 := L.a26; have z26 := L.z26
  have v26 := L.v26; have t37 := L.t37; have a37 := L.a37; have z37 := L.z37; have v37 := L.v37; have t44 := L.t44; have a44 := L.a44; have z44 := L.z44
  have v44 := L.v44
  have u44 := run_underlying L.t44
  have eg := F.eg
  have H0 := F.start hT (ρ.t 44)
  have hsz := F.small
  have hds := F.play.size hT
  obtain ⟨w1, hs0, H1⟩ := H0.swap F a pivot (by omega) (by omega)
  obtain ⟨i, hi⟩ : ∃ i : Nat, i = a + 1 := ⟨_, rfl⟩
  obtain ⟨j, hj⟩ : ∃ j : Nat, j = b - 1 := ⟨_, rfl⟩
  obtain ⟨dk, hdk⟩ : ∃ dk : Array α, dk = Sort.swp d a pivot := ⟨_, rfl⟩
  have hai : a < i := by omega
  have hij : i ≤ j + 1 := by omega
  have hjb : j < b := by omega
  have Hi : Hid (i = a + 1) := hi
  have Hj : Hid (j = b - 1) := hj
  rw [← hdk] at H1
  have Hdk : Hid (dk = Sort.swp d a pivot) := hdk
  clear hi hj hdk
  go_enter L.f33, BodyGg.n33_ntmps ρ
  go_wp2
  rw [show ((a : Int) + 1) = (i : Int) by have := Hi.out; omega, show ((b : Int) - 1) = (j : Int) by have := Hj.out; omega]
  have H := H1
  clear hs0 H1 H0 hT
  have c0 := H.c0; have c1 := H.c1
  go_loopw [10] (fun vi w1 => ∃ (i' : Nat), vi = .int .i64 i' ∧ i ≤ i' ∧ i' ≤ j + 1 ∧ AtF B T g lb sf sb w w.heap.size dk w1 ∧ Hid (Sort.scanUp (fun x => lt x dk[a]!) dk j i' = Sort.scanUp (fun x => lt x dk[a]!) dk j i)) (fun vi _ => j + 1 - (RowKit.intOf vi).toNat)
  case atStart => exact ⟨i, rfl, Nat.le_refl _, hij, H, rfl⟩
  case round =>
    clear H c0 c1
    obtain ⟨i', rfl, hii, hij', H, hsc⟩ := hrel
    have c0 := H.c0; have c1 := H.c1
    by_cases hle : i' ≤ j
    · cases hlv : lt dk[i']! dk[a]! with
      | true =>
        have hl := H.less F i' a true (by omega) (by omega) hlv
        go_wp2_with (go_at_fn g; refine hl.mono ?_; rintro e w3 ⟨rfl, H1⟩)
        go_roundw
        case rel => exact ⟨i' + 1, by go_num, by omega, by omega, H1, (show Hid _ from (scanUp_go (fun x => lt x dk[a]!) dk j i' hle (by simp [hlv])).symm.trans hsc.out)⟩
        case measure => simp [RowKit.intOf]; omega
      | false =>
        have hl := H.less F i' a false (by omega) (by omega) hlv
        have hi2 : Hid (i' = Sort.scanUp (fun x => lt x dk[a]!) dk j i) := (scanUp_end (fun x => lt x dk[a]!) dk j i' (Or.inr (by simp [hlv]))).symm.trans hsc.out
        go_wp2_with (go_at_fn g; refine hl.mono ?_; rintro e w3 ⟨rfl, H1⟩)
        clear hl hsc H c0 c1
        go_loopw [11] (fun vj w2 => ∃ (j' : Nat), vj = .int .i64 j' ∧ j' ≤ j ∧ i' ≤ j' + 1 ∧ AtF B T g lb sf sb w w.heap.size dk w2 ∧ Hid (Sort.scanDown (fun x => !lt x dk[a]!) dk i' j' = Sort.scanDown (fun x => !lt x dk[a]!) dk i' j)) (fun vj _ => (RowKit.intOf vj).toNat)
        case atStart => exact ⟨j, rfl, Nat.le_refl _, hij', H1, rfl⟩
        case round =>
          clear H1
          obtain ⟨j', rfl, hjj, hij2, H, hsd⟩ := hrel
          have c0 := H.c0; have c1 := H.c1
          by_cases hle2 : i' ≤ j'
          · cases hlv2 : lt dk[j']! dk[a]! with
            | false =>
              have hl := H.less F j' a false (by omega) (by omega) hlv2
              go_wp2_with (go_at_fn g; refine hl.mono ?_; rintro e w3 ⟨rfl, H1⟩)
              go_roundw
              case rel => exact ⟨j' - 1, by go_num, by omega, by omega, H1, (show Hid _ from (scanDown_go (fun x => !lt x dk[a]!) dk i' j' hle2 (by omega) (by simp [hlv2])).symm.trans hsd.out)⟩
              case measure => simp [RowKit.intOf]; omega
            | true =>
              have hl := H.less F j' a true (by omega) (by omega) hlv2
              have hj2 : Hid (j' = Sort.scanDown (fun x => !lt x dk[a]!) dk i' j) := (scanDown_end (fun x => !lt x dk[a]!) dk i' j' (Or.inr (by simp [hlv2]))).symm.trans hsd.out
              have hlt3 := part_scans_lt lt a i j dk (by omega) hi2.out hj2.out hle2
              clear hsd
              go_wp2_with (go_at_fn g; refine hl.mono ?_; rintro e w3 ⟨rfl, H1⟩; have d1 := H1.c1; obtain ⟨w4, hs, H2⟩ := H1.swap F i' j' (by omega) (by omega))
              (try rw [decide_eq_false (show ¬ j' < i' by omega)])
              obtain ⟨I0, hI0⟩ : ∃ I0 : Nat, I0 = i' + 1 := ⟨_, rfl⟩
              obtain ⟨J0, hJ0⟩ : ∃ J0 : Nat, J0 = j' - 1 := ⟨_, rfl⟩
              obtain ⟨D0, hD0⟩ : ∃ D0 : Array α, D0 = Sort.swp dk i' j' := ⟨_, rfl⟩
              have PF : Hid (Sort.partition lt d a b pivot = ((Sort.partLoop lt a I0 J0 D0).1, false, Sort.swp (Sort.partLoop lt a I0 J0 D0).2 (Sort.partLoop lt a I0 J0 D0).1 a)) := by
                rw [hI0, hJ0, hD0]; exact part_first_go lt d a b pivot Hi.out Hj.out Hdk.out hi2.out hj2.out (by omega)
              go_loopw [10, 11] (fun vi vj wr => ∃ (i j : Nat) (dk : Array α), vi = .int .i64 i ∧ vj = .int .i64 j ∧ a < i ∧ i ≤ j + 1 ∧ j < b ∧ AtF B T g lb sf sb w w.heap.size dk wr ∧ Hid (Sort.partLoop lt a i j dk = Sort.partLoop lt a I0 J0 D0)) (fun vi vj _ => (RowKit.intOf vj).toNat + 1 - (RowKit.intOf vi).toNat)
              case atStart => exact ⟨i' + 1, j' - 1, Sort.swp dk i' j', by go_num, by go_num, by omega, by omega, by omega, H2, (show Hid _ from by rw [hI0, hJ0, hD0]; exact rfl)⟩
              case round =>
                clear hI0 hJ0 hD0 hj2 hi2 hlt3 hl H H1 H2 Hi Hj Hdk c0 c1 d1 hs
                obtain ⟨i, j, dk, rfl, rfl, hai, hij, hjb, H, AE⟩ := hrel
                have c0 := H.c0; have c1 := H.c1
                go_wp2
                go_loopw [10] (fun vi w1 => ∃ (i' : Nat), vi = .int .i64 i' ∧ i ≤ i' ∧ i' ≤ j + 1 ∧ AtF B T g lb sf sb w w.heap.size dk w1 ∧ Hid (Sort.scanUp (fun x => lt x dk[a]!) dk j i' = Sort.scanUp (fun x => lt x dk[a]!) dk j i)) (fun vi _ => j + 1 - (RowKit.intOf vi).toNat)
                case atStart => exact ⟨i, rfl, Nat.le_refl _, hij, H, rfl⟩
                case round =>
                  clear H c0 c1
                  obtain ⟨i', rfl, hii, hij', H, hsc⟩ := hrel
                  have c0 := H.c0; have c1 := H.c1
                  by_cases hle : i' ≤ j
                  · cases hlv : lt dk[i']! dk[a]! with
                    | true =>
                      have hl := H.less F i' a true (by omega) (by omega) hlv
                      go_wp2_with (go_at_fn g; refine hl.mono ?_; rintro e w3 ⟨rfl, H1⟩)
                      go_roundw
                      case rel => exact ⟨i' + 1, by go_num, by omega, by omega, H1, (show Hid _ from (scanUp_go (fun x => lt x dk[a]!) dk j i' hle (by simp [hlv])).symm.trans hsc.out)⟩
                      case measure => simp [RowKit.intOf]; omega
                    | false =>
                      have hl := H.less F i' a false (by omega) (by omega) hlv
                      have hi2 : Hid (i' = Sort.scanUp (fun x => lt x dk[a]!) dk j i) := (scanUp_end (fun x => lt x dk[a]!) dk j i' (Or.inr (by simp [hlv]))).symm.trans hsc.out
                      go_wp2_with (go_at_fn g; refine hl.mono ?_; rintro e w3 ⟨rfl, H1⟩)
                      clear hl hsc H c0 c1
                      go_loopw [11] (fun vj w2 => ∃ (j' : Nat), vj = .int .i64 j' ∧ j' ≤ j ∧ i' ≤ j' + 1 ∧ AtF B T g lb sf sb w w.heap.size dk w2 ∧ Hid (Sort.scanDown (fun x => !lt x dk[a]!) dk i' j' = Sort.scanDown (fun x => !lt x dk[a]!) dk i' j)) (fun vj _ => (RowKit.intOf vj).toNat)
                      case atStart => exact ⟨j, rfl, Nat.le_refl _, hij', H1, rfl⟩
                      case round =>
                        clear H1
                        obtain ⟨j', rfl, hjj, hij2, H, hsd⟩ := hrel
                        have c0 := H.c0; have c1 := H.c1
                        by_cases hle2 : i' ≤ j'
                        · cases hlv2 : lt dk[j']! dk[a]! with
                          | false =>
                            have hl := H.less F j' a false (by omega) (by omega) hlv2
                            go_wp2_with (go_at_fn g; refine hl.mono ?_; rintro e w3 ⟨rfl, H1⟩)
                            go_roundw
                            case rel => exact ⟨j' - 1, by go_num, by omega, by omega, H1, (show Hid _ from (scanDown_go (fun x => !lt x dk[a]!) dk i' j' hle2 (by omega) (by simp [hlv2])).symm.trans hsd.out)⟩
                            case measure => simp [RowKit.intOf]; omega
                          | true =>
                            have hl := H.less F j' a true (by omega) (by omega) hlv2
                            have hj2 : Hid (j' = Sort.scanDown (fun x => !lt x dk[a]!) dk i' j) := (scanDown_end (fun x => !lt x dk[a]!) dk i' j' (Or.inr (by simp [hlv2]))).symm.trans hsd.out
                            have hlt3 := part_scans_lt lt a i j dk (by omega) hi2.out hj2.out hle2
                            clear hsd
                            go_wp2_with (go_at_fn g; refine hl.mono ?_; rintro e w3 ⟨rfl, H1⟩; have d1 := H1.c1; obtain ⟨w4, hs, H2⟩ := H1.swap F i' j' (by omega) (by omega))
                            go_roundw
                            case rel => exact ⟨i' + 1, j' - 1, Sort.swp dk i' j', by go_num, by go_num, by omega, by omega, by omega, H2, (show Hid _ from by rw [← AE.out]; exact (part_go lt a i j dk hi2.out hj2.out (by omega)).symm)⟩
                            case measure => simp [RowKit.intOf]; omega
                        · have hj2 : Hid (j' = Sort.scanDown (fun x => !lt x dk[a]!) dk i' j) := (scanDown_end (fun x => !lt x dk[a]!) dk i' j' (Or.inl hle2)).symm.trans hsd.out
                          clear hsd
                          obtain ⟨w4, hs, H2⟩ := H.swap F j' a (by omega) (by omega)
                          go_wp2
                          go_ret2
                          have e := part_break lt a i j dk hi2.out hj2.out (by omega)
                          rw [PF.out, ← AE.out, e]
                          exact ⟨rfl, H2.st, H2.up⟩
                  · have hi2 : Hid (i' = Sort.scanUp (fun x => lt x dk[a]!) dk j i) := (scanUp_end (fun x => lt x dk[a]!) dk j i' (Or.inl hle)).symm.trans hsc.out
                    go_wp2
                    clear hsc c0 c1
                    go_loopw [11] (fun vj w2 => ∃ (j' : Nat), vj = .int .i64 j' ∧ j' ≤ j ∧ i' ≤ j' + 1 ∧ AtF B T g lb sf sb w w.heap.size dk w2 ∧ Hid (Sort.scanDown (fun x => !lt x dk[a]!) dk i' j' = Sort.scanDown (fun x => !lt x dk[a]!) dk i' j)) (fun vj _ => (RowKit.intOf vj).toNat)
                    case atStart => exact ⟨j, rfl, Nat.le_refl _, hij', H, rfl⟩
                    case round =>
                      clear H
                      obtain ⟨j', rfl, hjj, hij2, H, hsd⟩ := hrel
                      have c0 := H.c0; have c1 := H.c1
                      by_cases hle2 : i' ≤ j'
                      · exfalso; omega
                      · have hj2 : Hid (j' = Sort.scanDown (fun x => !lt x dk[a]!) dk i' j) := (scanDown_end (fun x => !lt x dk[a]!) dk i' j' (Or.inl hle2)).symm.trans hsd.out
                        clear hsd
                        obtain ⟨w4, hs, H2⟩ := H.swap F j' a (by omega) (by omega)
                        go_wp2
                        go_ret2
                        have e := part_break lt a i j dk hi2.out hj2.out (by omega)
                        rw [PF.out, ← AE.out, e]
                        exact ⟨rfl, H2.st, H2.up⟩
          · have hj2 : Hid (j' = Sort.scanDown (fun x => !lt x dk[a]!) dk i' j) := (scanDown_end (fun x => !lt x dk[a]!) dk i' j' (Or.inl hle2)).symm.trans hsd.out
            clear hsd
            obtain ⟨w4, hs, H2⟩ := H.swap F j' a (by omega) (by omega)
            go_wp2
            go_ret2
            have e := part_first_break lt d a b pivot Hi.out Hj.out Hdk.out hi2.out hj2.out (by omega)
            rw [e]
            exact ⟨rfl, H2.st, H2.up⟩
    · have hi2 : Hid (i' = Sort.scanUp (fun x => lt x dk[a]!) dk j i) := (scanUp_end (fun x => lt x dk[a]!) dk j i' (Or.inl hle)).symm.trans hsc.out
      go_wp2
      clear hsc c0 c1
      go_loopw [11] (fun vj w2 => ∃ (j' : Nat), vj = .int .i64 j' ∧ j' ≤ j ∧ i' ≤ j' + 1 ∧ AtF B T g lb sf sb w w.heap.size dk w2 ∧ Hid (Sort.scanDown (fun x => !lt x dk[a]!) dk i' j' = Sort.scanDown (fun x => !lt x dk[a]!) dk i' j)) (fun vj _ => (RowKit.intOf vj).toNat)
      case atStart => exact ⟨j, rfl, Nat.le_refl _, hij', H, rfl⟩
      case round =>
        clear H
        obtain ⟨j', rfl, hjj, hij2, H, hsd⟩ := hrel
        have c0 := H.c0; have c1 := H.c1
        by_cases hle2 : i' ≤ j'
        · exfalso; omega
        · have hj2 : Hid (j' = Sort.scanDown (fun x => !lt x dk[a]!) dk i' j) := (scanDown_end (fun x => !lt x dk[a]!) dk i' j' (Or.inl hle2)).symm.trans hsd.out
          clear hsd
          obtain ⟨w4, hs, H2⟩ := H.swap F j' a (by omega) (by omega)
          go_wp2
          go_ret2
          have e := part_first_break lt d a b pivot Hi.out Hj.out Hdk.out hi2.out hj2.out (by omega)
          rw [e]
          exact ⟨rfl, H2.st, H2.up⟩

end Go.Proofs.YtlpnecmcncekcaaGreat.St
/- order2, median, medianAdjacent, choosePivot, func -/
namespace Go.Proofs.YtlpnecmcncekcaaGreat.St
open Go Go.RowKit Go.Shelf Go.Lib Go.Sort Go.Proofs
variable {P : Program} {ρ : Ren} {α : Type} [Inhabited α]

set_option maxHeartbeats 1000000 in
set_option maxRecDepth 1000000 in
theorem ord_any (L : LaysGg.n39 P ρ) (lt : α → α → Bool) (B size : Nat) (T : Array α → World → Prop) (g : Nat) (lb : Array Value) (sf : Nat) (sb : Array Value) (F : FuncFam P lt B size T g lb sf sb) (a b x s : Nat) (ha : a < size) (hb : b < size) (hs : s < 4611686018427387904) (d : Array α) (w : World) (hC : Ct B T x d s w) :
    Calls P (ρ.f 39) #[.agg #[.func (.func g) #[] lb, .func (.func sf) #[] sb], .int .i64 a, .int .i64 b, .pointer (some ⟨x, 0, none⟩)] w fun e w' => e = .returned (.tuple #[.int .i64 (order2 lt d a b s).1, .int .i64 (order2 lt d a b s).2.1]) ∧ Ct B T x d ((order2 lt d a b s).2.2) w' ∧ UpC B x w w' := by
  have mixed := L.mixed; have t0 := L.t0; have a0 := L.a0; have z0 := L.z0; have v0 := L.v0; have t3 := L.t3; have a3 := L.a3; have z3 := L.z3
  have v3 := L.v3; have t4 := L.t4; have a4 := L.a4; have z4 := L.z4; have v4 := L.v4; have t26 := L.t26; have a26 := L.a26; have z26 := L.z26
  have v26 := L.v26; have t37 := L.t37; have a37 := L.a37; have z37 := L.z37; have v37 := L.v37; have t44 := L.t44; have a44 := L.a44; have z44 := L.z44
  have v44 := L.v44; have t64 := L.t64; have a64 := L.a64; have z64 := L.z64; have v64 := L.v64
  have u44 := run_underlying L.t44
  have eg := F.eg
  have H0 := F.startC hC (ρ.t 44)
  cases hlv : lt d[b]! d[a]! with
  | true =>
    have hl := H0.less F b a true hb ha hlv
    have e2 : order2 lt d a b s = (b, a, s + 1) := by simp [order2, hlv]
    rw [e2]
    go_enter L.f39, BodyGg.n39_ntmps ρ
    go_wp2_with (go_at_fn g; refine hl.mono ?_; rintro e w1 ⟨rfl, H1⟩; have cs := H1.ct.at_; have fs := H1.ct.f)
    go_ret2
    have h2 := H1.ct.count F.play (s + 1)
    have h3 := H1.up.set 0 (.int .i64 ((s + 1 : Nat) : Int))
    rw [show ((s + 1 : Nat) : Int) = (s : Int) + 1 by omega] at h2 h3
    exact ⟨rfl, h2, h3⟩
  | false =>
    have hl := H0.less F b a false hb ha hlv
    have e2 : order2 lt d a b s = (a, b, s) := by simp [order2, hlv]
    rw [e2]
    go_enter L.f39, BodyGg.n39_ntmps ρ
    go_wp2_with (go_at_fn g; refine hl.mono ?_; rintro e w1 ⟨rfl, H1⟩; have cs := H1.ct.at_; have fs := H1.ct.f)
    go_ret2
    exact ⟨rfl, H1.ct, H1.up⟩

set_option maxHeartbeats 1000000 in
set_option maxRecDepth 1000000 in
theorem med_any (L : LaysGg.n38 P ρ) (lt : α → α → Bool) (B size : Nat) (T : Array α → World → Prop) (g : Nat) (lb : Array Value) (sf : Nat) (sb : Array Value) (F : FuncFam P lt B size T g lb sf sb) (a b c x s : Nat) (ha : a < size) (hb : b < size) (hc : c < size) (hs : s + 3 < 4611686018427387904) (d : Array α) (w : World) (hC : Ct B T x d s w) :
    Calls P (ρ.f 38) #[.agg #[.func (.func g) #[] lb, .func (.func sf) #[] sb], .int .i64 a, .int .i64 b, .int .i64 c, .pointer (some ⟨x, 0, none⟩)] w fun e w' => e = .returned (.int .i64 (median lt d a b c s).1) ∧ Ct B T x d ((median lt d a b c s).2) w' ∧ UpC B x w w' := by
  have mixed := L.mixed; have t0 := L.t0; have a0 := L.a0; have z0 := L.z0; have v0 := L.v0; have t3 := L.t3; have a3 := L.a3; have z3 := L.z3
  have v3 := L.v3; have t4 := L.t4; have a4 := L.a4; have z4 := L.z4; have v4 := L.v4; have t26 := L.t26; have a26 := L.a26; have z26 := L.z26
  have v26 := L.v26; have t37 := L.t37; have a37 := L.a37; have z37 := L.z37; have v37 := L.v37; have t44 := L.t44; have a44 := L.a44; have z44 := L.z44
  have v44 := L.v44; have t64 := L.t64; have a64 := L.a64; have z64 := L.z64; have v64 := L.v64; have t67 := L.t67; have a67 := L.a67; have z67 := L.z67
  have v67 := L.v67
  have u44 := run_underlying L.t44
  have eg := F.eg
  have H0 := F.startC hC (ρ.t 44)
  have e39 : ∀ args w, (callFunc (ρ.f 39) args).run P w = .ok (.enter (ρ.f 39) args) w := enters_of L.f39 (by kernel_rfl) rfl
  have l1 := order2_lt' lt d s ha hb
  have s1 := order2_swaps' lt d a b s
  have l2 := order2_lt' lt d (order2 lt d a b s).2.2 l1.2 hc
  have s2 := order2_swaps' lt d (order2 lt d a b s).2.1 c (order2 lt d a b s).2.2
  unfold median
  simp only []
  obtain ⟨p1, p2, p3, hp⟩ : ∃ p1 p2 p3, order2 lt d a b s = (p1, p2, p3) := ⟨_, _, _, rfl⟩
  have st1 := ord_any (ρ := ρ) { L with } lt B size T g lb sf sb F a b x s ha hb (by omega) d _ H0.ct
  rw [hp] at l1 s1 l2 s2 st1 ⊢
  simp only [] at l1 s1 l2 s2 st1 ⊢
  obtain ⟨q1, q2, q3, hq⟩ : ∃ q1 q2 q3, order2 lt d p2 c p3 = (q1, q2, q3) := ⟨_, _, _, rfl⟩
  rw [hq] at l2 s2 ⊢
  simp only [] at l2 s2 ⊢
  obtain ⟨r1, r2, r3, hr⟩ : ∃ r1 r2 r3, order2 lt d p1 q1 q3 = (r1, r2, r3) := ⟨_, _, _, rfl⟩
  rw [hr]
  have HQ : Hid (order2 lt d p2 c p3 = (q1, q2, q3)) := hq
  have HR : Hid (order2 lt d p1 q1 q3 = (r1, r2, r3)) := hr
  clear hp hq hr
  go_enter L.f38, BodyGg.n38_ntmps ρ
  go_wp2_with (first
    | (go_at_fn (ρ.f 39); refine st1.mono ?_; rintro e w1 ⟨rfl, C1, u1⟩; have H1 := H0.call C1 u1; have c0 := H1.c0; have c1 := H1.c1; have st2 := ord_any (ρ := ρ) { L with } lt B size T g lb sf sb F p2 c x p3 l1.2 hc (by omega) d _ H1.ct; rw [HQ.out] at st2; simp only [] at st2)
    | (go_at_fn (ρ.f 39); refine st2.mono ?_; rintro e w2 ⟨rfl, C2, u2⟩; have H2 := H1.call C2 u2; have d0 := H2.c0; have d1 := H2.c1; have st3 := ord_any (ρ := ρ) { L with } lt B size T g lb sf sb F p1 q1 x q3 l1.1 l2.1 (by omega) d _ H2.ct; rw [HR.out] at st3; simp only [] at st3)
    | (go_at_fn (ρ.f 39); refine st3.mono ?_; rintro e w3 ⟨rfl, C3, u3⟩; have H3 := H2.call C3 u3))
  go_ret
  exact ⟨rfl, H3.ct, H3.up⟩

set_option maxHeartbeats 1000000 in
set_option maxRecDepth 1000000 in
theorem mad_any (L : LaysGg.n37 P ρ) (lt : α → α → Bool) (B size : Nat) (T : Array α → World → Prop) (g : Nat) (lb : Array Value) (sf : Nat) (sb : Array Value) (F : FuncFam P lt B size T g lb sf sb) (a x s : Nat) (ha1 : 1 ≤ a) (ha2 : a + 1 < size) (hs : s + 3 < 4611686018427387904) (d : Array α) (w : World) (hC : Ct B T x d s w) :
    Calls P (ρ.f 37) #[.agg #[.func (.func g) #[] lb, .func (.func sf) #[] sb], .int .i64 a, .pointer (some ⟨x, 0, none⟩)] w fun e w' => e = .returned (.int .i64 (medianAdjacent lt d a s).1) ∧ Ct B T x d ((medianAdjacent lt d a s).2) w' ∧ UpC B x w w' := by
  have mixed := L.mixed; have t0 := L.t0; have a0 := L.a0; have z0 := L.z0; have v0 := L.v0; have t3 := L.t3; have a3 := L.a3; have z3 := L.z3
  have v3 := L.v3; have t4 := L.t4; have a4 := L.a4; have z4 := L.z4; have v4 := L.v4; have t26 := L.t26; have a26 := L.a26; have z26 := L.z26
  have v26 := L.v26; have t37 := L.t37; have a37 := L.a37; have z37 := L.z37; have v37 := L.v37; have t44 := L.t44; have a44 := L.a44; have z44 := L.z44
  have v44 := L.v44; have t64 := L.t64; have a64 := L.a64; have z64 := L.z64; have v64 := L.v64; have t67 := L.t67; have a67 := L.a67; have z67 := L.z67
  have v67 := L.v67
  have u44 := run_underlying L.t44
  have eg := F.eg
  have H0 := F.startC hC (ρ.t 44)
  have e38 : ∀ args w, (callFunc (ρ.f 38) args).run P w = .ok (.enter (ρ.f 38) args) w := enters_of L.f38 (by kernel_rfl) rfl
  have hsz := F.small
  have hm := med_any (ρ := ρ) { L with } lt B size T g lb sf sb F (a - 1) a (a + 1) x s (by omega) (by omega) ha2 hs d _ H0.ct
  rw [show ((a - 1 : Nat) : Int) = (a : Int) - 1 by omega, show ((a + 1 : Nat) : Int) = (a : Int) + 1 by omega] at hm
  unfold medianAdjacent
  generalize median lt d (a - 1) a (a + 1) s = m at hm ⊢
  go_enter L.f37, BodyGg.n37_ntmps ρ
  go_wp2_with (go_at_fn (ρ.f 38); refine hm.mono ?_; rintro e w1 ⟨rfl, C1, u1⟩)
  have H1 := H0.call C1 u1
  go_ret
  exact ⟨rfl, H1.ct, H1.up⟩

set_option maxHeartbeats 4000000 in
set_option maxRecDepth 1000000 in
theorem piv_any (L : LaysGg.n29 P ρ) (lt : α → α → Bool) (B size : Nat) (T : Array α → World → Prop) (g : Nat) (lb : Array Value) (sf : Nat) (sb : Array Value) (F : FuncFam P lt B size T g lb sf sb) (a b : Nat) (hab : a < b) (hb : b ≤ size) (d : Array α) (w : World) (hT : T d w) :
    Calls P (ρ.f 29) #[.agg #[.func (.func g) #[] lb, .func (.func sf) #[] sb], .int .i64 a, .int .i64 b] w fun e w' => e = .returned (.tuple #[.int .i64 (choosePivot lt d a b).1, .int .i64 (hintCode (choosePivot lt d a b).2)]) ∧ T d w' ∧ Up B w w' := by
  have mixed := L.mixed; have t0 := L.t0; have a0 := L.a0; have z0 := L.z0; have v0 := L.v0; have t3 := L.t3; have a3 := L.a3; have z3 := L.z3
  have v3 := L.v3; have t4 := L.t4; have a4 := L.a4; have z4 := L.z4; have v4 := L.v4; have t26 := L.t26; have a26 := L.a26; have z26 := L.z26
  have v26 := L.v26; have t37 := L.t37; have a37 := L.a37; have z37 := L.z37; have v37 := L.v37; have t44 := L.t44; have a44 := L.a44; have z44 := L.z44
  have v44 := L.v44; have t53 := L.t53; have a53 := L.a53; have z53 := L.z53; have v53 := L.v53; have t64 := L.t64; have a64 := L.a64; have z64 := L.z64
  have v64 := L.v64; have t67 := L.t67; have a67 := L.a67; have z67 := L.z67; have v67 := L.v67
  have u44 := run_underlying L.t44
  have e37 : ∀ args w, (callFunc (ρ.f 37) args).run P w = .ok (.enter (ρ.f 37) args) w := enters_of L.f37 (by kernel_rfl) rfl
  have e38 : ∀ args w, (callFunc (ρ.f 38) args).run P w = .ok (.enter (ρ.f 38) args) w := enters_of L.f38 (by kernel_rfl) rfl
  have hsz := F.small
  have hw : Below w.heap.size w ((w.alloc (.cells #[.func (.func g) #[] lb, .func (.func sf) #[] sb] (ρ.t 44))).alloc (.cells #[.int .i64 0] (ρ.t 3))) := ((Below.refl _ _).alloc (Nat.le_refl _) _).alloc (by simp) _
  have hB := F.play.base hT
  have H0 : CtF B T g lb sf sb w w.heap.size (w.heap.size + 1) d 0 ((w.alloc (.cells #[.func (.func g) #[] lb, .func (.func sf) #[] sb] (ρ.t 44))).alloc (.cells #[.int .i64 0] (ρ.t 3))) :=
    ⟨⟨F.play.keep hT hw, by omega, by simp, by rw [World.cell?_alloc_at _ _ _ _ (by simp)]; rfl, World.frozen?_alloc_at _ _ _ _ (by simp)⟩, UpC.of_up (Up.of_below hw), hB, by simp; omega, by omega, by simp, by simp⟩
  rw [choosePivot_eq]
  obtain ⟨I, hI⟩ : ∃ I : Nat, I = a + (b - a) / 4 * 1 := ⟨_, rfl⟩
  obtain ⟨J, hJ⟩ : ∃ J : Nat, J = a + (b - a) / 4 * 2 := ⟨_, rfl⟩
  obtain ⟨K, hK⟩ : ∃ K : Nat, K = a + (b - a) / 4 * 3 := ⟨_, rfl⟩
  have eI : ((a : Int) + ((b : Int) - (a : Int)) / 4) = (I : Int) := by omega
  have eJ : ((a : Int) + ((b : Int) - (a : Int)) / 4 * 2) = (J : Int) := by omega
  have eK : ((a : Int) + ((b : Int) - (a : Int)) / 4 * 3) = (K : Int) := by omega
  by_cases h8 : b - a ≥ 8
  · by_cases h50 : b - a ≥ 50
    · obtain ⟨i1, s1, h1⟩ : ∃ i1 s1, medianAdjacent lt d I 0 = (i1, s1) := ⟨_, _, rfl⟩
      obtain ⟨j1, s2, h2⟩ : ∃ j1 s2, medianAdjacent lt d J s1 = (j1, s2) := ⟨_, _, rfl⟩
      obtain ⟨k1, s3, h3⟩ : ∃ k1 s3, medianAdjacent lt d K s2 = (k1, s3) := ⟨_, _, rfl⟩
      obtain ⟨p, s, h4⟩ : ∃ p s, median lt d i1 j1 k1 s3 = (p, s) := ⟨_, _, rfl⟩
      have hraw : rawPivot lt d a b = (p, s) := by simp only [rawPivot, if_pos h8, if_pos h50, ← hI, ← hJ, ← hK, h1, h2, h3, h4]
      have m1 := medianAdjacent_mem lt d I 0; rw [h1] at m1
      have m2 := medianAdjacent_mem lt d J s1; rw [h2] at m2
      have m3 := medianAdjacent_mem lt d K s2; rw [h3] at m3
      have n1 := medianAdjacent_count lt d I 0; rw [h1] at n1
      have n2 := medianAdjacent_count lt d J s1; rw [h2] at n2
      have n3 := medianAdjacent_count lt d K s2; rw [h3] at n3
      simp only [] at m1 m2 m3 n1 n2 n3
      have M1 : ∀ W, Ct B T (w.heap.size + 1) d 0 W → Calls P (ρ.f 37) #[.agg #[.func (.func g) #[] lb, .func (.func sf) #[] sb], .int .i64 (I : Int), .pointer (some ⟨w.heap.size + 1, 0, none⟩)] W fun e w' => e = .returned (.int .i64 (i1 : Int)) ∧ Ct B T (w.heap.size + 1) d s1 w' ∧ UpC B (w.heap.size + 1) W w' := fun W h => by
        have h := mad_any (ρ := ρ) { L with } lt B size T g lb sf sb F I (w.heap.size + 1) 0 (by omega) (by omega) (by omega) d W h; rw [h1] at h; exact h
      have M2 : ∀ W, Ct B T (w.heap.size + 1) d s1 W → Calls P (ρ.f 37) #[.agg #[.func (.func g) #[] lb, .func (.func sf) #[] sb], .int .i64 (J : Int), .pointer (some ⟨w.heap.size + 1, 0, none⟩)] W fun e w' => e = .returned (.int .i64 (j1 : Int)) ∧ Ct B T (w.heap.size + 1) d s2 w' ∧ UpC B (w.heap.size + 1) W w' := fun W h => by
        have h := mad_any (ρ := ρ) { L with } lt B size T g lb sf sb F J (w.heap.size + 1) s1 (by omega) (by omega) (by omega) d W h; rw [h2] at h; exact h
      have M3 : ∀ W, Ct B T (w.heap.size + 1) d s2 W → Calls P (ρ.f 37) #[.agg #[.func (.func g) #[] lb, .func (.func sf) #[] sb], .int .i64 (K : Int), .pointer (some ⟨w.heap.size + 1, 0, none⟩)] W fun e w' => e = .returned (.int .i64 (k1 : Int)) ∧ Ct B T (w.heap.size + 1) d s3 w' ∧ UpC B (w.heap.size + 1) W w' := fun W h => by
        have h := mad_any (ρ := ρ) { L with } lt B size T g lb sf sb F K (w.heap.size + 1) s2 (by omega) (by omega) (by omega) d W h; rw [h3] at h; exact h
      have M4 : ∀ W, Ct B T (w.heap.size + 1) d s3 W → Calls P (ρ.f 38) #[.agg #[.func (.func g) #[] lb, .func (.func sf) #[] sb], .int .i64 (i1 : Int), .int .i64 (j1 : Int), .int .i64 (k1 : Int), .pointer (some ⟨w.heap.size + 1, 0, none⟩)] W fun e w' => e = .returned (.int .i64 (p : Int)) ∧ Ct B T (w.heap.size + 1) d s w' ∧ UpC B (w.heap.size + 1) W w' := fun W h => by
        have h := med_any (ρ := ρ) { L with } lt B size T g lb sf sb F i1 j1 k1 (w.heap.size + 1) s3 (by omega) (by omega) (by omega) (by omega) d W h; rw [h4] at h; exact h
      have N1 : Hid _ := M1; have N2 : Hid _ := M2; have N3 : Hid _ := M3; have N4 : Hid _ := M4
      clear M1 M2 M3 M4
      rw [hraw]
      obtain ⟨Hc, hHc⟩ : ∃ Hc : Int, Hc = hintCode (hintOf s) := ⟨_, rfl⟩
      have hh0 : s = 0 → Hc = 1 := fun h => by rw [hHc, h]; rfl
      have hh12 : s = 12 → Hc = 2 := fun h => by rw [hHc, h]; rfl
      have hhx : s ≠ 0 → s ≠ 12 → Hc = 0 := fun h1 h2 => by rw [hHc]; unfold hintOf; rw [if_neg h1, if_neg h2]; rfl
      simp only []
      rw [← hHc]
      have HHc : Hid _ := hHc
      clear hHc hraw h1 h2 h3 h4 hI hJ hK m1 m2 m3
      have t1 := N1.out _ H0.ct
      go_enter L.f29, BodyGg.n29_ntmps ρ
      go_wp2_with (first
        | (go_at_fn (ρ.f 37); refine t1.mono ?_; rintro e w1 ⟨rfl, C1, u1⟩; have H1 := H0.call C1 u1; have k1a := H1.c0; have k1b := H1.c1; have k1c := H1.ct.at_; have t2 := N2.out _ H1.ct)
        | (go_at_fn (ρ.f 37); refine t2.mono ?_; rintro e w2 ⟨rfl, C2, u2⟩; have H2 := H1.call C2 u2; have k2a := H2.c0; have k2b := H2.c1; have k2c := H2.ct.at_; have t3 := N3.out _ H2.ct)
        | (go_at_fn (ρ.f 37); refine t3.mono ?_; rintro e w3 ⟨rfl, C3, u3⟩; have H3 := H2.call C3 u3; have k3a := H3.c0; have k3b := H3.c1; have k3c := H3.ct.at_; have t4 := N4.out _ H3.ct)
        | (go_at_fn (ρ.f 38); refine t4.mono ?_; rintro e w4 ⟨rfl, C4, u4⟩; have HF := H3.call C4 u4; have k4c := C4.at_))
      all_goals
        go_ret2
        refine ⟨?_, HF.ct.st, HF.up.1, fun k h1 h2 => HF.up.2 k h1 h2 (by omega)⟩
        first
          | (have e0 : (s : Int) = 0 := of_beq_int (by assumption)
             rw [hh0 (by omega)]; rfl)
          | (have e1 : (s : Int) = 12 := of_beq_int (by assumption)
             rw [hh12 (by omega)]; rfl)
          | (have e0 : (s : Int) ≠ 0 := of_bne_int (by assumption)
             have e1 : (s : Int) ≠ 12 := of_bne_int (by assumption)
             rw [hhx (by omega) (by omega)]; rfl)
          | (rw [hh0 (by omega)]; rfl)
    · obtain ⟨p, s, h4⟩ : ∃ p s, median lt d I J K 0 = (p, s) := ⟨_, _, rfl⟩
      have hraw : rawPivot lt d a b = (p, s) := by simp only [rawPivot, if_pos h8, if_neg h50, ← hI, ← hJ, ← hK, h4]
      have M4 : ∀ W, Ct B T (w.heap.size + 1) d 0 W → Calls P (ρ.f 38) #[.agg #[.func (.func g) #[] lb, .func (.func sf) #[] sb], .int .i64 (I : Int), .int .i64 (J : Int), .int .i64 (K : Int), .pointer (some ⟨w.heap.size + 1, 0, none⟩)] W fun e w' => e = .returned (.int .i64 (p : Int)) ∧ Ct B T (w.heap.size + 1) d s w' ∧ UpC B (w.heap.size + 1) W w' := fun W h => by
        have h := med_any (ρ := ρ) { L with } lt B size T g lb sf sb F I J K (w.heap.size + 1) 0 (by omega) (by omega) (by omega) (by omega) d W h; rw [h4] at h; exact h
      have t4 := M4 _ H0.ct
      clear M4
      rw [hraw]
      obtain ⟨Hc, hHc⟩ : ∃ Hc : Int, Hc = hintCode (hintOf s) := ⟨_, rfl⟩
      have hh0 : s = 0 → Hc = 1 := fun h => by rw [hHc, h]; rfl
      have hh12 : s = 12 → Hc = 2 := fun h => by rw [hHc, h]; rfl
      have hhx : s ≠ 0 → s ≠ 12 → Hc = 0 := fun h1 h2 => by rw [hHc]; unfold hintOf; rw [if_neg h1, if_neg h2]; rfl
      simp only []
      rw [← hHc]
      have HHc : Hid _ := hHc
      clear hHc hraw h4 hI hJ hK
      go_enter L.f29, BodyGg.n29_ntmps ρ
      go_wp2_with (go_at_fn (ρ.f 38); refine t4.mono ?_; rintro e w4 ⟨rfl, C4, u4⟩; have HF := H0.call C4 u4; have k4c := C4.at_)
      all_goals
        go_ret2
        refine ⟨?_, HF.ct.st, HF.up.1, fun k h1 h2 => HF.up.2 k h1 h2 (by omega)⟩
        first
          | (have e0 : (s : Int) = 0 := of_beq_int (by assumption)
             rw [hh0 (by omega)]; rfl)
          | (have e1 : (s : Int) = 12 := of_beq_int (by assumption)
             rw [hh12 (by omega)]; rfl)
          | (have e0 : (s : Int) ≠ 0 := of_bne_int (by assumption)
             have e1 : (s : Int) ≠ 12 := of_bne_int (by assumption)
             rw [hhx (by omega) (by omega)]; rfl)
          | (rw [hh0 (by omega)]; rfl)
  · have hraw : rawPivot lt d a b = (J, 0) := by simp only [rawPivot, if_neg h8, ← hJ]
    have hh : hintCode (hintOf 0) = 1 := rfl
    rw [hraw]
    simp only []
    rw [hh]
    have HF := H0
    clear hraw hh hI hJ hK
    go_enter L.f29, BodyGg.n29_ntmps ρ
    go_wp2
    all_goals
      go_ret2
      exact ⟨rfl, HF.ct.st, HF.up.1, fun k h1 h2 => HF.up.2 k h1 h2 (by omega)⟩

end Go.Proofs.YtlpnecmcncekcaaGreat.St
