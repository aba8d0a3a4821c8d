/- partialInsertionSort, iface -/
import Derived.Test.YtpkkomifenlkaaaStBase
import Derived.Shelf.GgSortMore.Iface
import Derived.Deep.LoopGhost
import Derived.WalkKit
import Derived.BigCall
import Derived.BigGuard
import Derived.Sort.WalkA6
import Derived.Sort.WalkB2
namespace Go.Proofs.Ytpkkomifenlkaaa.St
open Go Go.RowKit Go.Shelf Go.Lib Go.Sort Go.Proofs
variable {P : Program} {ρ : Ren} {α : Type} [Inhabited α]

set_option maxHeartbeats 25600000 in
set_option maxRecDepth 1000000 in
theorem par_any (L : LaysGt.n38 P ρ) (lt : α → α → Bool) (B size : Nat) (T : Array α → World → Prop) (ty : TypeId) (rv : Value) (gl gs : Nat) (F : IfaceFam P lt B size T ty rv gl gs) (a b : Nat) (hab : a < b) (hb : b ≤ size) (d : Array α) (w : World) (hT : T d w) :
    Calls P (ρ.f 38) #[.iface ty rv, .int .i64 a, .int .i64 b] w fun e w' => e = .returned (.bool (Sort.partialInsertionSort lt d a b).2) ∧ T ((Sort.partialInsertionSort lt d a b).1) w' ∧ Up B w w' := by
  have mixed := L.mixed; have t0 := L.t0; have a0 := L.a0; have z0 := L.z0; have v0 := L.v0; have t3 := L.t3; have a3 := L.a3; have z3 := L.z3
  have v3 := L.v3; have t4 := L.t4; have a4 := L.a4; have z4 := L.z4; have v4 := L.v4; have t26 := L.t26; have a26 := L.a26; have z26 := L.z26
  have v26 := L.v26; have t38 := L.t38; have a38 := L.a38; have z38 := L.z38; have v38 := L.v38; have t43 := L.t43; have a43 := L.a43; have z43 := L.z43
  have v43 := L.v43; have t45 := L.t45; have a45 := L.a45; have z45 := L.z45; have v45 := L.v45
  have mL := F.mL; have mS := F.mS; have eL := F.eL; have eS := F.eS
  have H0 := AtI.start (B := B) hT
  have hsz := F.small
  have hds := F.play.size hT
  go_enter L.f38, BodyGt.n38_ntmps ρ
  go_wp2
  go_loopg [7, 8] 5 (fun g1 vi vs wr => ∃ (i s : Nat) (dk : Array α), vi = .int .i64 i ∧ vs = .int .i64 s ∧ s ≤ 5 ∧ 5 - s ≤ g1 ∧ a < i ∧ i ≤ b ∧ AtI B T w dk wr ∧ Hid (partialIns lt a b (5 - s) i dk = partialIns lt a b 5 (a + 1) d))
  case atStart => exact ⟨a + 1, 0, d, by go_num, rfl, by omega, by omega, by omega, by omega, H0, rfl⟩
  case round =>
    clear H0 hT
    obtain ⟨i, s, dk, rfl, rfl, hs5, hg1, hai, hib, H1, HO⟩ := hrel
    by_cases hs : s < 5
    · have hsz5 : (s : Int) < 5 := by omega
      go_wp2
      go_loopg [7] (b - i) (fun g2 vi wr2 => ∃ (kx : Nat), vi = .int .i64 kx ∧ i ≤ kx ∧ kx ≤ b ∧ b - kx ≤ g2 ∧ AtI B T w dk wr2 ∧ Hid (scanSorted lt dk b kx = scanSorted lt dk b i))
      case atStart => exact ⟨i, rfl, Nat.le_refl _, hib, Nat.le_refl _, H1, rfl⟩
      case round =>
        clear H1
        obtain ⟨kx, rfl, hik, hkb, hg2, H2, HSc⟩ := hrel
        skip
        by_cases hkb' : kx < b
        · have hkz : (kx : Int) < (b : Int) := by omega
          cases hlv : lt dk[kx]! dk[kx - 1]! with
          | false =>
            have hl2 := H2.less F kx (kx - 1) false (by omega) (by omega) hlv; rw [show ((kx - 1 : Nat) : Int) = (kx : Int) - 1 by omega] at hl2
            go_wp2_with (go_at_fn gl; refine hl2.mono ?_; rintro e v3 ⟨rfl, H3⟩)
            go_roundg (b - (kx + 1))
            case measure => omega
            case rel => exact ⟨kx + 1, by go_num, by omega, by omega, Nat.le_refl _, H3, (show Hid _ from by rw [← HSc.out, scanSorted_go lt dk b kx hkb' hlv]; exact rfl)⟩
          | true =>
            have hl2 := H2.less F kx (kx - 1) true (by omega) (by omega) hlv; rw [show ((kx - 1 : Nat) : Int) = (kx : Int) - 1 by omega] at hl2
            have HK : Hid (scanSorted lt dk b i = kx) := by show _ = _; rw [← HSc.out, scanSorted_stop lt dk b kx (Or.inr hlv)]
            have hkne : ((kx : Int) == (b : Int)) = false := beq_eq_false_iff_ne.2 (by omega)
            by_cases h50 : b - a < 50
            · have h50z : (b : Int) - (a : Int) < 50 := by omega
              go_wp2_with (go_at_fn gl; refine hl2.mono ?_; rintro e v3 ⟨rfl, H3⟩)
              have hv : Sort.partialInsertionSort lt d a b = (dk, false) := by
                unfold Sort.partialInsertionSort
                rw [← HO.out, pi_short lt a b s i dk hs (by rw [HK.out]; omega) h50]
              rw [hv]
              go_ret
              exact ⟨rfl, H3.st, H3.up⟩
            · have h50z : ¬ ((b : Int) - (a : Int) < 50) := by omega
              by_cases hka : kx - a ≥ 2
              · have hkaz : (2 : Int) ≤ (kx : Int) - (a : Int) := by omega
                go_wp2_with (first | (go_at_fn gl; refine hl2.mono ?_; rintro e v3 ⟨rfl, K3⟩) | (go_at_fn gs; have hs3 := K3.swap F kx (kx - 1) (by omega) (by omega); rw [show ((kx - 1 : Nat) : Int) = (kx : Int) - 1 by omega] at hs3; refine hs3.mono ?_; rintro e u3 ⟨rfl, H3⟩))
                clear hl2 H2
                go_loopg [9] (kx - 1) (fun g3 vj wr3 => ∃ (j : Nat) (dj : Array α), vj = .int .i64 j ∧ j ≤ kx - 1 ∧ j ≤ g3 ∧ AtI B T w dj wr3 ∧ Hid (shiftDown lt j dj = shiftDown lt (kx - 1) (swp dk kx (kx - 1))))
                case atStart => exact ⟨kx - 1, swp dk kx (kx - 1), by congr 1; omega, Nat.le_refl _, Nat.le_refl _, H3, rfl⟩
                case round =>
                  clear H3 K3
                  obtain ⟨j, dj, rfl, hjk, hg3, H4, HDn⟩ := hrel
                  skip
                  by_cases hj1 : 1 ≤ j
                  · have hj1z : (1 : Int) ≤ (j : Int) := by omega
                    cases hlv2 : lt dj[j]! dj[j - 1]! with
                    | true =>
                      have hl4 := H4.less F j (j - 1) true (by omega) (by omega) hlv2; rw [show ((j - 1 : Nat) : Int) = (j : Int) - 1 by omega] at hl4
                      go_wp2_with (first | (go_at_fn gl; refine hl4.mono ?_; rintro e v5 ⟨rfl, K5⟩) | (go_at_fn gs; have hs5 := K5.swap F j (j - 1) (by omega) (by omega); rw [show ((j - 1 : Nat) : Int) = (j : Int) - 1 by omega] at hs5; refine hs5.mono ?_; rintro e u5 ⟨rfl, H5⟩))
                      go_roundg (j - 1)
                      case measure => omega
                      case rel => exact ⟨j - 1, swp dj j (j - 1), by congr 1; omega, by omega, Nat.le_refl _, H5, (show Hid _ from by rw [← HDn.out, shiftDown_go lt j dj hj1 hlv2]; exact rfl)⟩
                    | false =>
                      have hl4 := H4.less F j (j - 1) false (by omega) (by omega) hlv2; rw [show ((j - 1 : Nat) : Int) = (j : Int) - 1 by omega] at hl4
                      have HD : Hid (fixDown lt a kx (swp dk kx (kx - 1)) = dj) := by show _ = _; unfold fixDown; rw [if_pos hka, ← HDn.out, shiftDown_stop lt j dj (Or.inr hlv2)]
                      by_cases hbk : b - kx ≥ 2
                      · have hbkz : (2 : Int) ≤ (b : Int) - (kx : Int) := by omega
                        go_wp2_with (go_at_fn gl; refine hl4.mono ?_; rintro e v5 ⟨rfl, H5⟩)
                        go_loopg [10] (b - (kx + 1)) (fun g4 vj wr4 => ∃ (ju : Nat) (du : Array α), vj = .int .i64 ju ∧ kx + 1 ≤ ju ∧ ju ≤ b ∧ b - ju ≤ g4 ∧ AtI B T w du wr4 ∧ Hid (shiftUp lt b ju du = shiftUp lt b (kx + 1) (dj)))
                        case atStart => exact ⟨kx + 1, dj, by go_num, Nat.le_refl _, by omega, Nat.le_refl _, H5, rfl⟩
                        case round =>
                          clear H5
                          obtain ⟨ju, du, rfl, hkj, hjb, hg4, H8, HU⟩ := hrel
                          skip
                          by_cases hjb' : ju < b
                          · have hjz : (ju : Int) < (b : Int) := by omega
                            cases hlv3 : lt du[ju]! du[ju - 1]! with
                            | true =>
                              have hl8 := H8.less F ju (ju - 1) true (by omega) (by omega) hlv3; rw [show ((ju - 1 : Nat) : Int) = (ju : Int) - 1 by omega] at hl8
                              go_wp2_with (first | (go_at_fn gl; refine hl8.mono ?_; rintro e v9 ⟨rfl, K9⟩) | (go_at_fn gs; have hs9 := K9.swap F ju (ju - 1) (by omega) (by omega); rw [show ((ju - 1 : Nat) : Int) = (ju : Int) - 1 by omega] at hs9; refine hs9.mono ?_; rintro e u9 ⟨rfl, H9⟩))
                              go_roundg (b - (ju + 1))
                              case measure => omega
                              case rel => exact ⟨ju + 1, swp du ju (ju - 1), by go_num, by omega, by omega, Nat.le_refl _, H9, (show Hid _ from by rw [← HU.out, shiftUp_go lt b ju du hjb' hlv3]; exact rfl)⟩
                            | false =>
                              have hl8 := H8.less F ju (ju - 1) false (by omega) (by omega) hlv3; rw [show ((ju - 1 : Nat) : Int) = (ju : Int) - 1 by omega] at hl8
                              go_wp2_with (go_at_fn gl; refine hl8.mono ?_; rintro e v9 ⟨rfl, H9⟩)
                              go_roundg (5 - (s + 1))
                              case measure => omega
                              case rel => exact ⟨kx, s + 1, du, rfl, by go_num, by omega, Nat.le_refl _, by omega, by omega, H9, (show Hid _ from by rw [← HO.out, pi_go lt a b s i kx dk hs HK.out (by omega) h50, HD.out, show fixUp lt b kx (dj) = du from by unfold fixUp; rw [if_pos hbk, ← HU.out, shiftUp_stop lt b ju du (Or.inr hlv3)]]; exact rfl)⟩
                          · have hjz : ¬ (ju : Int) < (b : Int) := by omega
                            go_wp2
                            go_roundg (5 - (s + 1))
                            case measure => omega
                            case rel => exact ⟨kx, s + 1, du, rfl, by go_num, by omega, Nat.le_refl _, by omega, by omega, H8, (show Hid _ from by rw [← HO.out, pi_go lt a b s i kx dk hs HK.out (by omega) h50, HD.out, show fixUp lt b kx (dj) = du from by unfold fixUp; rw [if_pos hbk, ← HU.out, shiftUp_stop lt b ju du (Or.inl hjb')]]; exact rfl)⟩
                      · have hbkz : ¬ (2 : Int) ≤ (b : Int) - (kx : Int) := by omega
                        go_wp2_with (go_at_fn gl; refine hl4.mono ?_; rintro e v5 ⟨rfl, H5⟩)
                        go_roundg (5 - (s + 1))
                        case measure => omega
                        case rel => exact ⟨kx, s + 1, dj, rfl, by go_num, by omega, Nat.le_refl _, by omega, by omega, H5, (show Hid _ from by rw [← HO.out, pi_go lt a b s i kx dk hs HK.out (by omega) h50, HD.out, show fixUp lt b kx (dj) = dj from by unfold fixUp; rw [if_neg hbk]]; exact rfl)⟩
                  · have hj1z : ¬ (1 : Int) ≤ (j : Int) := by omega
                    have HD : Hid (fixDown lt a kx (swp dk kx (kx - 1)) = dj) := by show _ = _; unfold fixDown; rw [if_pos hka, ← HDn.out, shiftDown_stop lt j dj (Or.inl (by omega))]
                    by_cases hbk : b - kx ≥ 2
                    · have hbkz : (2 : Int) ≤ (b : Int) - (kx : Int) := by omega
                      go_wp2
                      go_loopg [10] (b - (kx + 1)) (fun g4 vj wr4 => ∃ (ju : Nat) (du : Array α), vj = .int .i64 ju ∧ kx + 1 ≤ ju ∧ ju ≤ b ∧ b - ju ≤ g4 ∧ AtI B T w du wr4 ∧ Hid (shiftUp lt b ju du = shiftUp lt b (kx + 1) (dj)))
                      case atStart => exact ⟨kx + 1, dj, by go_num, Nat.le_refl _, by omega, Nat.le_refl _, H4, rfl⟩
                      case round =>
                        clear H4
                        obtain ⟨ju, du, rfl, hkj, hjb, hg4, H8, HU⟩ := hrel
                        skip
                        by_cases hjb' : ju < b
                        · have hjz : (ju : Int) < (b : Int) := by omega
                          cases hlv3 : lt du[ju]! du[ju - 1]! with
                          | true =>
                            have hl8 := H8.less F ju (ju - 1) true (by omega) (by omega) hlv3; rw [show ((ju - 1 : Nat) : Int) = (ju : Int) - 1 by omega] at hl8
                            go_wp2_with (first | (go_at_fn gl; refine hl8.mono ?_; rintro e v9 ⟨rfl, K9⟩) | (go_at_fn gs; have hs9 := K9.swap F ju (ju - 1) (by omega) (by omega); rw [show ((ju - 1 : Nat) : Int) = (ju : Int) - 1 by omega] at hs9; refine hs9.mono ?_; rintro e u9 ⟨rfl, H9⟩))
                            go_roundg (b - (ju + 1))
                            case measure => omega
                            case rel => exact ⟨ju + 1, swp du ju (ju - 1), by go_num, by omega, by omega, Nat.le_refl _, H9, (show Hid _ from by rw [← HU.out, shiftUp_go lt b ju du hjb' hlv3]; exact rfl)⟩
                          | false =>
                            have hl8 := H8.less F ju (ju - 1) false (by omega) (by omega) hlv3; rw [show ((ju - 1 : Nat) : Int) = (ju : Int) - 1 by omega] at hl8
                            go_wp2_with (go_at_fn gl; refine hl8.mono ?_; rintro e v9 ⟨rfl, H9⟩)
                            go_roundg (5 - (s + 1))
                            case measure => omega
                            case rel => exact ⟨kx, s + 1, du, rfl, by go_num, by omega, Nat.le_refl _, by omega, by omega, H9, (show Hid _ from by rw [← HO.out, pi_go lt a b s i kx dk hs HK.out (by omega) h50, HD.out, show fixUp lt b kx (dj) = du from by unfold fixUp; rw [if_pos hbk, ← HU.out, shiftUp_stop lt b ju du (Or.inr hlv3)]]; exact rfl)⟩
                        · have hjz : ¬ (ju : Int) < (b : Int) := by omega
                          go_wp2
                          go_roundg (5 - (s + 1))
                          case measure => omega
                          case rel => exact ⟨kx, s + 1, du, rfl, by go_num, by omega, Nat.le_refl _, by omega, by omega, H8, (show Hid _ from by rw [← HO.out, pi_go lt a b s i kx dk hs HK.out (by omega) h50, HD.out, show fixUp lt b kx (dj) = du from by unfold fixUp; rw [if_pos hbk, ← HU.out, shiftUp_stop lt b ju du (Or.inl hjb')]]; exact rfl)⟩
                    · have hbkz : ¬ (2 : Int) ≤ (b : Int) - (kx : Int) := by omega
                      go_wp2
                      go_roundg (5 - (s + 1))
                      case measure => omega
                      case rel => exact ⟨kx, s + 1, dj, rfl, by go_num, by omega, Nat.le_refl _, by omega, by omega, H4, (show Hid _ from by rw [← HO.out, pi_go lt a b s i kx dk hs HK.out (by omega) h50, HD.out, show fixUp lt b kx (dj) = dj from by unfold fixUp; rw [if_neg hbk]]; exact rfl)⟩
              · have hkaz : ¬ (2 : Int) ≤ (kx : Int) - (a : Int) := by omega
                have HD : Hid (fixDown lt a kx (swp dk kx (kx - 1)) = swp dk kx (kx - 1)) := by show _ = _; unfold fixDown; rw [if_neg hka]
                by_cases hbk : b - kx ≥ 2
                · have hbkz : (2 : Int) ≤ (b : Int) - (kx : Int) := by omega
                  go_wp2_with (first | (go_at_fn gl; refine hl2.mono ?_; rintro e v3 ⟨rfl, K3⟩) | (go_at_fn gs; have hs3 := K3.swap F kx (kx - 1) (by omega) (by omega); rw [show ((kx - 1 : Nat) : Int) = (kx : Int) - 1 by omega] at hs3; refine hs3.mono ?_; rintro e u3 ⟨rfl, H3⟩))
                  go_loopg [10] (b - (kx + 1)) (fun g4 vj wr4 => ∃ (ju : Nat) (du : Array α), vj = .int .i64 ju ∧ kx + 1 ≤ ju ∧ ju ≤ b ∧ b - ju ≤ g4 ∧ AtI B T w du wr4 ∧ Hid (shiftUp lt b ju du = shiftUp lt b (kx + 1) (swp dk kx (kx - 1))))
                  case atStart => exact ⟨kx + 1, swp dk kx (kx - 1), by go_num, Nat.le_refl _, by omega, Nat.le_refl _, H3, rfl⟩
                  case round =>
                    clear H3
                    obtain ⟨ju, du, rfl, hkj, hjb, hg4, H8, HU⟩ := hrel
                    skip
                    by_cases hjb' : ju < b
                    · have hjz : (ju : Int) < (b : Int) := by omega
                      cases hlv3 : lt du[ju]! du[ju - 1]! with
                      | true =>
                        have hl8 := H8.less F ju (ju - 1) true (by omega) (by omega) hlv3; rw [show ((ju - 1 : Nat) : Int) = (ju : Int) - 1 by omega] at hl8
                        go_wp2_with (first | (go_at_fn gl; refine hl8.mono ?_; rintro e v9 ⟨rfl, K9⟩) | (go_at_fn gs; have hs9 := K9.swap F ju (ju - 1) (by omega) (by omega); rw [show ((ju - 1 : Nat) : Int) = (ju : Int) - 1 by omega] at hs9; refine hs9.mono ?_; rintro e u9 ⟨rfl, H9⟩))
                        go_roundg (b - (ju + 1))
                        case measure => omega
                        case rel => exact ⟨ju + 1, swp du ju (ju - 1), by go_num, by omega, by omega, Nat.le_refl _, H9, (show Hid _ from by rw [← HU.out, shiftUp_go lt b ju du hjb' hlv3]; exact rfl)⟩
                      | false =>
                        have hl8 := H8.less F ju (ju - 1) false (by omega) (by omega) hlv3; rw [show ((ju - 1 : Nat) : Int) = (ju : Int) - 1 by omega] at hl8
                        go_wp2_with (go_at_fn gl; refine hl8.mono ?_; rintro e v9 ⟨rfl, H9⟩)
                        go_roundg (5 - (s + 1))
                        case measure => omega
                        case rel => exact ⟨kx, s + 1, du, rfl, by go_num, by omega, Nat.le_refl _, by omega, by omega, H9, (show Hid _ from by rw [← HO.out, pi_go lt a b s i kx dk hs HK.out (by omega) h50, HD.out, show fixUp lt b kx (swp dk kx (kx - 1)) = du from by unfold fixUp; rw [if_pos hbk, ← HU.out, shiftUp_stop lt b ju du (Or.inr hlv3)]]; exact rfl)⟩
                    · have hjz : ¬ (ju : Int) < (b : Int) := by omega
                      go_wp2
                      go_roundg (5 - (s + 1))
                      case measure => omega
                      case rel => exact ⟨kx, s + 1, du, rfl, by go_num, by omega, Nat.le_refl _, by omega, by omega, H8, (show Hid _ from by rw [← HO.out, pi_go lt a b s i kx dk hs HK.out (by omega) h50, HD.out, show fixUp lt b kx (swp dk kx (kx - 1)) = du from by unfold fixUp; rw [if_pos hbk, ← HU.out, shiftUp_stop lt b ju du (Or.inl hjb')]]; exact rfl)⟩
                · exfalso; omega
        · have hkz : ¬ (kx : Int) < (b : Int) := by omega
          have hkeb : ((kx : Int) == (b : Int)) = true := by simp; omega
          have hv : Sort.partialInsertionSort lt d a b = (dk, true) := by
            unfold Sort.partialInsertionSort
            rw [← HO.out, pi_true lt a b s i dk hs (by rw [← HSc.out, scanSorted_stop lt dk b kx (Or.inl (by omega))]; omega)]
          go_wp2
          try rw [hv]
          go_ret
          exact ⟨rfl, H2.st, H2.up⟩
    · have hs6 : s = 5 := by omega
      subst hs6
      have hv : Sort.partialInsertionSort lt d a b = (dk, false) := by
        unfold Sort.partialInsertionSort
        rw [← HO.out, pi_end lt a b i dk]
      go_wp2
      try rw [hv]
      go_ret
      exact ⟨rfl, H1.st, H1.up⟩

end Go.Proofs.Ytpkkomifenlkaaa.St
