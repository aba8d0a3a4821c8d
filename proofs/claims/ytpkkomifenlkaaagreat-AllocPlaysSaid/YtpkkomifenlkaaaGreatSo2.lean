import Derived.Test.YtpkkomifenlkaaaGreatSo1
import Derived.Deep.RegionHeld3
import Derived.Sort.WalkA6
import Derived.Sort.WalkB2
import Derived.Deep.CutBlock
import Derived.Deep.DeepCutAuto
import Derived.Sort.WalkC
import Derived.Sort.WalkC4
import Derived.Sort.AssemblyPlain
import Derived.Sort.Walk13
import Derived.Sort.Walk13a
import Derived.Test.YtpkkomifenlkaaaGreatNumB
/- partialInsertionSort -/
namespace Go.Proofs.YtpkkomifenlkaaaGreat.So
open Go Go.RowKit Go.Sort Go.Proofs Go.Lib
set_option linter.unusedVariables false

set_option maxHeartbeats 25600000 in
set_option maxRecDepth 20000 in
theorem par_any (g n cap : Nat) (hn : n < 4611686018427387904) (a b : Nat) (hab : a < b) (hb : b ≤ n) (d : Array Int) (w0 w : World) (H0 : AtO g n w0 d w) :
    Calls Tryz.prog 116 #[.slice (some ⟨g, 0, none⟩) n cap, .int .i64 (a : Int), .int .i64 (b : Int)] w fun e w' => e = .returned (.bool (Sort.partialInsertionSort ltInt d a b).2) ∧ AtO g n w0 ((Sort.partialInsertionSort ltInt d a b).1) w' := by
  have HH := Lib.hid H0
  clear H0
  go_enter Tryz.func116, Tryz.ntmps116
  go_wp2
  go_loopg [7, 8] 5 (fun g1 vi vs wr => ∃ (i s : Nat) (dk : Array Int), vi = .int .i64 (i : Int) ∧ vs = .int .i64 (s : Int) ∧ s ≤ 5 ∧ 5 - s ≤ g1 ∧ a < i ∧ i ≤ b ∧ AtO g n w0 (dk) wr ∧ Hid (partialIns ltInt a b (5 - s) i dk = partialIns ltInt a b 5 (a + 1) d))
  case atStart => exact ⟨a + 1, 0, d, by go_num, rfl, by omega, by omega, by omega, by omega, HH.out, Lib.hid rfl⟩
  case round =>
    clear HH
    obtain ⟨i, s, dk, rfl, rfl, hs5, hg1, hai, hib, h1, HO⟩ := hrel
    have H1 := Lib.hid h1
    clear h1
    by_cases hs : s < 5
    · have hsz5 : (s : Int) < 5 := by omega
      go_wp2
      go_loopg [7] (b - i) (fun g2 vi wr2 => ∃ (kx : Nat), vi = .int .i64 (kx : Int) ∧ i ≤ kx ∧ kx ≤ b ∧ b - kx ≤ g2 ∧ AtO g n w0 (dk) wr2 ∧ Hid (scanSorted ltInt dk b kx = scanSorted ltInt dk b i))
      case atStart => exact ⟨i, rfl, Nat.le_refl _, hib, Nat.le_refl _, H1.out, Lib.hid rfl⟩
      case round =>
        clear H1
        obtain ⟨kx, rfl, hik, hkb, hg2, h2, HSc⟩ := hrel
        have H2 := Lib.hid h2
        clear h2
        by_cases hkb' : kx < b
        · have hkz : (kx : Int) < (b : Int) := by omega
          cases hlv : ltInt dk[kx]! dk[kx - 1]! with
          | false =>
            have kx0 : (0 : Int) ≤ (kx : Int) := by omega
            have kx1 : (kx : Int) < (n : Int) := by omega
            have ckx := H2.out.cell kx (by omega)
            obtain ⟨x, hx⟩ : ∃ x, x = (dk)[kx]! := ⟨_, rfl⟩
            rw [← hx] at ckx
            obtain ⟨p, hp⟩ : ∃ p : Nat, p = kx - 1 := ⟨_, rfl⟩
            have ep : (kx : Int) - 1 = (p : Int) := by omega
            have wp : IntKind.i64.wrap (p : Int) = (p : Int) := by rw [IntKind.wrap_i64]; omega
            have p0 : (0 : Int) ≤ (p : Int) := by omega
            have p1 : (p : Int) < (n : Int) := by omega
            have cp := H2.out.cell p (by omega)
            obtain ⟨y, hy⟩ : ∃ y, y = (dk)[p]! := ⟨_, rfl⟩
            rw [← hy] at cp
            have HPQ := Lib.hid (And.intro (And.intro (Eq.refl kx) hx) (And.intro hp hy))
            have fz := H2.out.frz
            have hl : ltInt x y = false := by rw [hx, hy, hp]; exact hlv
            have HVkx := Lib.hid hlv
            clear hx hy hp hlv
            go_wp2_with fail
            go_quiet ((go_at_call 117; exact Calls.quiet_of_same (less_u _ _ _)))
            have H3 := Lib.hid (H2.out.drewN nq)
            clear HPQ hl ckx cp kx0 kx1 p0 p1 ep wp fz
            go_wp2
            go_roundg (b - (kx + 1))
            case measure => omega
            case rel => exact ⟨kx + 1, by go_num, by omega, by omega, Nat.le_refl _, H3.out, Lib.hid (by rw [← HSc.out, scanSorted_go ltInt dk b kx hkb' HVkx.out])⟩
          | true =>
            have HK : Hid (scanSorted ltInt dk b i = kx) := Lib.hid (by rw [← HSc.out, scanSorted_stop ltInt dk b kx (Or.inr hlv)])
            have kx0 : (0 : Int) ≤ (kx : Int) := by omega
            have kx1 : (kx : Int) < (n : Int) := by omega
            have ckx := H2.out.cell kx (by omega)
            obtain ⟨x, hx⟩ : ∃ x, x = (dk)[kx]! := ⟨_, rfl⟩
            rw [← hx] at ckx
            obtain ⟨p, hp⟩ : ∃ p : Nat, p = kx - 1 := ⟨_, rfl⟩
            have ep : (kx : Int) - 1 = (p : Int) := by omega
            have wp : IntKind.i64.wrap (p : Int) = (p : Int) := by rw [IntKind.wrap_i64]; omega
            have p0 : (0 : Int) ≤ (p : Int) := by omega
            have p1 : (p : Int) < (n : Int) := by omega
            have cp := H2.out.cell p (by omega)
            obtain ⟨y, hy⟩ : ∃ y, y = (dk)[p]! := ⟨_, rfl⟩
            rw [← hy] at cp
            have HPQ := Lib.hid (And.intro (And.intro (Eq.refl kx) hx) (And.intro hp hy))
            have fz := H2.out.frz
            have hl : ltInt x y = true := by rw [hx, hy, hp]; exact hlv
            have HVkx := Lib.hid hlv
            clear hx hy hp hlv
            go_wp2_with fail
            go_quiet ((go_at_call 117; exact Calls.quiet_of_same (less_u _ _ _)))
            have H3 := Lib.hid (H2.out.drewN nq)
            clear HPQ hl ckx cp kx0 kx1 p0 p1 ep wp fz
            go_upto_region 7 with fail
            obtain ⟨w3, hw3⟩ : ∃ X, X = wr.drewN nq := ⟨_, rfl⟩
            rw [← hw3] at H3 ⊢
            clear hw3
            clear H2
            have hkne : ((kx : Int) == (b : Int)) = false := beq_eq_false_iff_ne.2 (by omega)
            by_cases h50 : b - a < 50
            · have h50z : (b : Int) - (a : Int) < 50 := by omega
              go_wp2
              have hv : Sort.partialInsertionSort ltInt d a b = (dk, false) := by
                unfold Sort.partialInsertionSort
                rw [← HO.out, pi_short ltInt a b s i dk hs (by rw [HK.out]; omega) h50]
              refine bodyPost_ret (v := .bool false) (by simp [results, Tryz.results116, go_sem]) rfl ?_
              exact ⟨by rw [hv], by rw [hv]; exact H3.out⟩
            · have h50z : ¬ ((b : Int) - (a : Int) < 50) := by omega
              go_upto_region 11 with fail
              have kx0 : (0 : Int) ≤ (kx : Int) := by omega
              have kx1 : (kx : Int) < (n : Int) := by omega
              have ckx := H3.out.cell kx (by omega)
              obtain ⟨x, hx⟩ : ∃ x, x = (dk)[kx]! := ⟨_, rfl⟩
              rw [← hx] at ckx
              obtain ⟨p, hp⟩ : ∃ p : Nat, p = kx - 1 := ⟨_, rfl⟩
              have ep : (kx : Int) - 1 = (p : Int) := by omega
              have wp : IntKind.i64.wrap (p : Int) = (p : Int) := by rw [IntKind.wrap_i64]; omega
              have p0 : (0 : Int) ≤ (p : Int) := by omega
              have p1 : (p : Int) < (n : Int) := by omega
              have cp := H3.out.cell p (by omega)
              obtain ⟨y, hy⟩ : ∃ y, y = (dk)[p]! := ⟨_, rfl⟩
              rw [← hy] at cp
              have HPQ := Lib.hid (And.intro (And.intro (Eq.refl kx) hx) (And.intro hp hy))
              have fz := H3.out.frz
              clear hx hy hp 
              have hne : ¬ kx = p := by have := HPQ.out.2.1; omega
              have hne2 : ¬ p = kx := fun e => hne e.symm
              have HS := Lib.hid (H3.out.swapL HPQ.out (by omega) (by omega))
              go_region
              obtain ⟨w5, hw5⟩ : ∃ X, X = ((w3.setCell ⟨g, kx, none⟩ (.int .u64 y)).setCell ⟨g, p, none⟩ (.int .u64 x)).drew := ⟨_, rfl⟩
              have H5 : Hid (AtO g n w0 (swp (dk) kx (kx - 1)) w5) := Lib.hid (by rw [hw5]; exact HS.out 1)
              rw [← hw5]
              clear hw5 HS HPQ hne hne2 ckx cp kx0 kx1 p0 p1 ep wp fz
              clear H3
              by_cases hka : kx - a ≥ 2
              · have hkaz : (2 : Int) ≤ (kx : Int) - (a : Int) := by omega
                have ekk : (kx : Int) - 1 = ((kx - 1 : Nat) : Int) := by omega
                go_wp2
                go_loopg [9] (kx - 1) (fun g3 vj wr3 => ∃ (j : Nat) (dj : Array Int), vj = .int .i64 (j : Int) ∧ j ≤ kx - 1 ∧ j ≤ g3 ∧ AtO g n w0 (dj) wr3 ∧ Hid (shiftDown ltInt j dj = shiftDown ltInt (kx - 1) (swp dk kx (kx - 1))))
                case atStart => exact ⟨kx - 1, swp dk kx (kx - 1), by congr 1, Nat.le_refl _, Nat.le_refl _, H5.out, Lib.hid rfl⟩
                case round =>
                  clear H5 ekk
                  obtain ⟨j, dj, rfl, hjk, hg3, h4, HDn⟩ := hrel
                  have H4 := Lib.hid h4
                  clear h4
                  by_cases hj1 : 1 ≤ j
                  · have hj1z : (1 : Int) ≤ (j : Int) := by omega
                    cases hlv2 : ltInt dj[j]! dj[j - 1]! with
                    | true =>
                      have j0 : (0 : Int) ≤ (j : Int) := by omega
                      have j1 : (j : Int) < (n : Int) := by omega
                      have cj := H4.out.cell j (by omega)
                      obtain ⟨x, hx⟩ : ∃ x, x = (dj)[j]! := ⟨_, rfl⟩
                      rw [← hx] at cj
                      obtain ⟨p, hp⟩ : ∃ p : Nat, p = j - 1 := ⟨_, rfl⟩
                      have ep : (j : Int) - 1 = (p : Int) := by omega
                      have wp : IntKind.i64.wrap (p : Int) = (p : Int) := by rw [IntKind.wrap_i64]; omega
                      have p0 : (0 : Int) ≤ (p : Int) := by omega
                      have p1 : (p : Int) < (n : Int) := by omega
                      have cp := H4.out.cell p (by omega)
                      obtain ⟨y, hy⟩ : ∃ y, y = (dj)[p]! := ⟨_, rfl⟩
                      rw [← hy] at cp
                      have HPQ := Lib.hid (And.intro (And.intro (Eq.refl j) hx) (And.intro hp hy))
                      have fz := H4.out.frz
                      have hl : ltInt x y = true := by rw [hx, hy, hp]; exact hlv2
                      have HVj := Lib.hid hlv2
                      clear hx hy hp hlv2
                      go_wp2_with fail
                      go_quiet ((go_at_call 117; exact Calls.quiet_of_same (less_u _ _ _)))
                      have H6 := Lib.hid (H4.out.drewN nq)
                      clear HPQ hl cj cp j0 j1 p0 p1 ep wp fz
                      go_upto_region 17 with fail
                      obtain ⟨w6, hw6⟩ : ∃ X, X = wr.drewN nq := ⟨_, rfl⟩
                      rw [← hw6] at H6 ⊢
                      clear hw6
                      have j0 : (0 : Int) ≤ (j : Int) := by omega
                      have j1 : (j : Int) < (n : Int) := by omega
                      have cj := H6.out.cell j (by omega)
                      obtain ⟨x, hx⟩ : ∃ x, x = (dj)[j]! := ⟨_, rfl⟩
                      rw [← hx] at cj
                      obtain ⟨p, hp⟩ : ∃ p : Nat, p = j - 1 := ⟨_, rfl⟩
                      have ep : (j : Int) - 1 = (p : Int) := by omega
                      have wp : IntKind.i64.wrap (p : Int) = (p : Int) := by rw [IntKind.wrap_i64]; omega
                      have p0 : (0 : Int) ≤ (p : Int) := by omega
                      have p1 : (p : Int) < (n : Int) := by omega
                      have cp := H6.out.cell p (by omega)
                      obtain ⟨y, hy⟩ : ∃ y, y = (dj)[p]! := ⟨_, rfl⟩
                      rw [← hy] at cp
                      have HPQ := Lib.hid (And.intro (And.intro (Eq.refl j) hx) (And.intro hp hy))
                      have fz := H6.out.frz
                      clear hx hy hp 
                      have hne : ¬ j = p := by have := HPQ.out.2.1; omega
                      have hne2 : ¬ p = j := fun e => hne e.symm
                      have HS := Lib.hid (H6.out.swapL HPQ.out (by omega) (by omega))
                      go_region
                      obtain ⟨w7, hw7⟩ : ∃ X, X = ((w6.setCell ⟨g, j, none⟩ (.int .u64 y)).setCell ⟨g, p, none⟩ (.int .u64 x)).drew := ⟨_, rfl⟩
                      have H7 : Hid (AtO g n w0 (swp (dj) j (j - 1)) w7) := Lib.hid (by rw [hw7]; exact HS.out 1)
                      rw [← hw7]
                      clear hw7 HS HPQ hne hne2 cj cp j0 j1 p0 p1 ep wp fz
                      have ejj : (j : Int) - 1 = ((j - 1 : Nat) : Int) := by omega
                      go_wp2
                      go_roundg (j - 1)
                      case measure => omega
                      case rel => exact ⟨j - 1, swp dj j (j - 1), by congr 1, by omega, Nat.le_refl _, H7.out, Lib.hid (by rw [← HDn.out, shiftDown_go ltInt j dj hj1 HVj.out])⟩
                    | false =>
                      have j0 : (0 : Int) ≤ (j : Int) := by omega
                      have j1 : (j : Int) < (n : Int) := by omega
                      have cj := H4.out.cell j (by omega)
                      obtain ⟨x, hx⟩ : ∃ x, x = (dj)[j]! := ⟨_, rfl⟩
                      rw [← hx] at cj
                      obtain ⟨p, hp⟩ : ∃ p : Nat, p = j - 1 := ⟨_, rfl⟩
                      have ep : (j : Int) - 1 = (p : Int) := by omega
                      have wp : IntKind.i64.wrap (p : Int) = (p : Int) := by rw [IntKind.wrap_i64]; omega
                      have p0 : (0 : Int) ≤ (p : Int) := by omega
                      have p1 : (p : Int) < (n : Int) := by omega
                      have cp := H4.out.cell p (by omega)
                      obtain ⟨y, hy⟩ : ∃ y, y = (dj)[p]! := ⟨_, rfl⟩
                      rw [← hy] at cp
                      have HPQ := Lib.hid (And.intro (And.intro (Eq.refl j) hx) (And.intro hp hy))
                      have fz := H4.out.frz
                      have hl : ltInt x y = false := by rw [hx, hy, hp]; exact hlv2
                      have HVj := Lib.hid hlv2
                      clear hx hy hp hlv2
                      go_wp2_with fail
                      go_quiet ((go_at_call 117; exact Calls.quiet_of_same (less_u _ _ _)))
                      have H6 := Lib.hid (H4.out.drewN nq)
                      clear HPQ hl cj cp j0 j1 p0 p1 ep wp fz
                      go_upto_region 18 with fail
                      obtain ⟨w6, hw6⟩ : ∃ X, X = wr.drewN nq := ⟨_, rfl⟩
                      rw [← hw6] at H6 ⊢
                      clear hw6
                      have HDD : Hid (fixDown ltInt a kx (swp dk kx (kx - 1)) = dj) := Lib.hid (by unfold fixDown; rw [if_pos hka, ← HDn.out, shiftDown_stop ltInt j dj (Or.inr HVj.out)])
                      clear H4
                      by_cases hbk : b - kx ≥ 2
                      · have hbkz : (2 : Int) ≤ (b : Int) - (kx : Int) := by omega
                        go_wp2
                        go_loopg [10] (b - (kx + 1)) (fun g4 vj wr4 => ∃ (ju : Nat) (du : Array Int), vj = .int .i64 (ju : Int) ∧ kx + 1 ≤ ju ∧ ju ≤ b ∧ b - ju ≤ g4 ∧ AtO g n w0 (du) wr4 ∧ Hid (shiftUp ltInt b ju du = shiftUp ltInt b (kx + 1) (dj)))
                        case atStart => exact ⟨kx + 1, dj, by go_num, Nat.le_refl _, by omega, Nat.le_refl _, H6.out, Lib.hid rfl⟩
                        case round =>
                          clear H6
                          obtain ⟨ju, du, rfl, hkj, hjb, hg4, h8, HU⟩ := hrel
                          have H8 := Lib.hid h8
                          clear h8
                          by_cases hjb' : ju < b
                          · have hjz : (ju : Int) < (b : Int) := by omega
                            cases hlv3 : ltInt du[ju]! du[ju - 1]! with
                            | true =>
                              have ju0 : (0 : Int) ≤ (ju : Int) := by omega
                              have ju1 : (ju : Int) < (n : Int) := by omega
                              have cju := H8.out.cell ju (by omega)
                              obtain ⟨x, hx⟩ : ∃ x, x = (du)[ju]! := ⟨_, rfl⟩
                              rw [← hx] at cju
                              obtain ⟨p, hp⟩ : ∃ p : Nat, p = ju - 1 := ⟨_, rfl⟩
                              have ep : (ju : Int) - 1 = (p : Int) := by omega
                              have wp : IntKind.i64.wrap (p : Int) = (p : Int) := by rw [IntKind.wrap_i64]; omega
                              have p0 : (0 : Int) ≤ (p : Int) := by omega
                              have p1 : (p : Int) < (n : Int) := by omega
                              have cp := H8.out.cell p (by omega)
                              obtain ⟨y, hy⟩ : ∃ y, y = (du)[p]! := ⟨_, rfl⟩
                              rw [← hy] at cp
                              have HPQ := Lib.hid (And.intro (And.intro (Eq.refl ju) hx) (And.intro hp hy))
                              have fz := H8.out.frz
                              have hl : ltInt x y = true := by rw [hx, hy, hp]; exact hlv3
                              have HVju := Lib.hid hlv3
                              clear hx hy hp hlv3
                              go_wp2_with fail
                              go_quiet ((go_at_call 117; exact Calls.quiet_of_same (less_u _ _ _)))
                              have H9 := Lib.hid (H8.out.drewN nq)
                              clear HPQ hl cju cp ju0 ju1 p0 p1 ep wp fz
                              go_upto_region 23 with fail
                              obtain ⟨w9, hw9⟩ : ∃ X, X = wr.drewN nq := ⟨_, rfl⟩
                              rw [← hw9] at H9 ⊢
                              clear hw9
                              have ju0 : (0 : Int) ≤ (ju : Int) := by omega
                              have ju1 : (ju : Int) < (n : Int) := by omega
                              have cju := H9.out.cell ju (by omega)
                              obtain ⟨x, hx⟩ : ∃ x, x = (du)[ju]! := ⟨_, rfl⟩
                              rw [← hx] at cju
                              obtain ⟨p, hp⟩ : ∃ p : Nat, p = ju - 1 := ⟨_, rfl⟩
                              have ep : (ju : Int) - 1 = (p : Int) := by omega
                              have wp : IntKind.i64.wrap (p : Int) = (p : Int) := by rw [IntKind.wrap_i64]; omega
                              have p0 : (0 : Int) ≤ (p : Int) := by omega
                              have p1 : (p : Int) < (n : Int) := by omega
                              have cp := H9.out.cell p (by omega)
                              obtain ⟨y, hy⟩ : ∃ y, y = (du)[p]! := ⟨_, rfl⟩
                              rw [← hy] at cp
                              have HPQ := Lib.hid (And.intro (And.intro (Eq.refl ju) hx) (And.intro hp hy))
                              have fz := H9.out.frz
                              clear hx hy hp 
                              have hne : ¬ ju = p := by have := HPQ.out.2.1; omega
                              have hne2 : ¬ p = ju := fun e => hne e.symm
                              have HS := Lib.hid (H9.out.swapL HPQ.out (by omega) (by omega))
                              go_region
                              obtain ⟨w10, hw10⟩ : ∃ X, X = ((w9.setCell ⟨g, ju, none⟩ (.int .u64 y)).setCell ⟨g, p, none⟩ (.int .u64 x)).drew := ⟨_, rfl⟩
                              have H10 : Hid (AtO g n w0 (swp (du) ju (ju - 1)) w10) := Lib.hid (by rw [hw10]; exact HS.out 1)
                              rw [← hw10]
                              clear hw10 HS HPQ hne hne2 cju cp ju0 ju1 p0 p1 ep wp fz
                              go_wp2
                              go_roundg (b - (ju + 1))
                              case measure => omega
                              case rel => exact ⟨ju + 1, swp du ju (ju - 1), by go_num, by omega, by omega, Nat.le_refl _, H10.out, Lib.hid (by rw [← HU.out, shiftUp_go ltInt b ju du hjb' HVju.out])⟩
                            | false =>
                              have ju0 : (0 : Int) ≤ (ju : Int) := by omega
                              have ju1 : (ju : Int) < (n : Int) := by omega
                              have cju := H8.out.cell ju (by omega)
                              obtain ⟨x, hx⟩ : ∃ x, x = (du)[ju]! := ⟨_, rfl⟩
                              rw [← hx] at cju
                              obtain ⟨p, hp⟩ : ∃ p : Nat, p = ju - 1 := ⟨_, rfl⟩
                              have ep : (ju : Int) - 1 = (p : Int) := by omega
                              have wp : IntKind.i64.wrap (p : Int) = (p : Int) := by rw [IntKind.wrap_i64]; omega
                              have p0 : (0 : Int) ≤ (p : Int) := by omega
                              have p1 : (p : Int) < (n : Int) := by omega
                              have cp := H8.out.cell p (by omega)
                              obtain ⟨y, hy⟩ : ∃ y, y = (du)[p]! := ⟨_, rfl⟩
                              rw [← hy] at cp
                              have HPQ := Lib.hid (And.intro (And.intro (Eq.refl ju) hx) (And.intro hp hy))
                              have fz := H8.out.frz
                              have hl : ltInt x y = false := by rw [hx, hy, hp]; exact hlv3
                              have HVju := Lib.hid hlv3
                              clear hx hy hp hlv3
                              go_wp2_with fail
                              go_quiet ((go_at_call 117; exact Calls.quiet_of_same (less_u _ _ _)))
                              have H9 := Lib.hid (H8.out.drewN nq)
                              clear HPQ hl cju cp ju0 ju1 p0 p1 ep wp fz
                              go_wp2
                              go_roundg (5 - (s + 1))
                              case measure => omega
                              case rel => exact ⟨kx, s + 1, du, rfl, by go_num, by omega, Nat.le_refl _, by omega, by omega, H9.out, Lib.hid (by rw [← HO.out, pi_go ltInt a b s i kx dk hs HK.out (by omega) h50, HDD.out, show fixUp ltInt b kx (dj) = du from by unfold fixUp; rw [if_pos hbk, ← HU.out, shiftUp_stop ltInt b ju du (Or.inr HVju.out)]])⟩
                          · have hjz : decide ((ju : Int) < (b : Int)) = false := decide_eq_false (by omega)
                            go_wp2
                            go_roundg (5 - (s + 1))
                            case measure => omega
                            case rel => exact ⟨kx, s + 1, du, rfl, by go_num, by omega, Nat.le_refl _, by omega, by omega, H8.out, Lib.hid (by rw [← HO.out, pi_go ltInt a b s i kx dk hs HK.out (by omega) h50, HDD.out, show fixUp ltInt b kx (dj) = du from by unfold fixUp; rw [if_pos hbk, ← HU.out, shiftUp_stop ltInt b ju du (Or.inl hjb')]])⟩
                      · have hbkz : ¬ (2 : Int) ≤ (b : Int) - (kx : Int) := by omega
                        go_wp2
                        go_roundg (5 - (s + 1))
                        case measure => omega
                        case rel => exact ⟨kx, s + 1, dj, rfl, by go_num, by omega, Nat.le_refl _, by omega, by omega, H6.out, Lib.hid (by rw [← HO.out, pi_go ltInt a b s i kx dk hs HK.out (by omega) h50, HDD.out, show fixUp ltInt b kx (dj) = dj from by unfold fixUp; rw [if_neg hbk]])⟩
                  · have hj1z : ¬ (1 : Int) ≤ (j : Int) := by omega
                    have HDD : Hid (fixDown ltInt a kx (swp dk kx (kx - 1)) = dj) := Lib.hid (by unfold fixDown; rw [if_pos hka, ← HDn.out, shiftDown_stop ltInt j dj (Or.inl (by omega))])
                    by_cases hbk : b - kx ≥ 2
                    · have hbkz : (2 : Int) ≤ (b : Int) - (kx : Int) := by omega
                      go_wp2
                      go_loopg [10] (b - (kx + 1)) (fun g4 vj wr4 => ∃ (ju : Nat) (du : Array Int), vj = .int .i64 (ju : Int) ∧ kx + 1 ≤ ju ∧ ju ≤ b ∧ b - ju ≤ g4 ∧ AtO g n w0 (du) wr4 ∧ Hid (shiftUp ltInt b ju du = shiftUp ltInt b (kx + 1) (dj)))
                      case atStart => exact ⟨kx + 1, dj, by go_num, Nat.le_refl _, by omega, Nat.le_refl _, H4.out, Lib.hid rfl⟩
                      case round =>
                        clear H4
                        obtain ⟨ju, du, rfl, hkj, hjb, hg4, h8, HU⟩ := hrel
                        have H8 := Lib.hid h8
                        clear h8
                        by_cases hjb' : ju < b
                        · have hjz : (ju : Int) < (b : Int) := by omega
                          cases hlv3 : ltInt du[ju]! du[ju - 1]! with
                          | true =>
                            have ju0 : (0 : Int) ≤ (ju : Int) := by omega
                            have ju1 : (ju : Int) < (n : Int) := by omega
                            have cju := H8.out.cell ju (by omega)
                            obtain ⟨x, hx⟩ : ∃ x, x = (du)[ju]! := ⟨_, rfl⟩
                            rw [← hx] at cju
                            obtain ⟨p, hp⟩ : ∃ p : Nat, p = ju - 1 := ⟨_, rfl⟩
                            have ep : (ju : Int) - 1 = (p : Int) := by omega
                            have wp : IntKind.i64.wrap (p : Int) = (p : Int) := by rw [IntKind.wrap_i64]; omega
                            have p0 : (0 : Int) ≤ (p : Int) := by omega
                            have p1 : (p : Int) < (n : Int) := by omega
                            have cp := H8.out.cell p (by omega)
                            obtain ⟨y, hy⟩ : ∃ y, y = (du)[p]! := ⟨_, rfl⟩
                            rw [← hy] at cp
                            have HPQ := Lib.hid (And.intro (And.intro (Eq.refl ju) hx) (And.intro hp hy))
                            have fz := H8.out.frz
                            have hl : ltInt x y = true := by rw [hx, hy, hp]; exact hlv3
                            have HVju := Lib.hid hlv3
                            clear hx hy hp hlv3
                            go_wp2_with fail
                            go_quiet ((go_at_call 117; exact Calls.quiet_of_same (less_u _ _ _)))
                            have H9 := Lib.hid (H8.out.drewN nq)
                            clear HPQ hl cju cp ju0 ju1 p0 p1 ep wp fz
                            go_upto_region 23 with fail
                            obtain ⟨w9, hw9⟩ : ∃ X, X = wr.drewN nq := ⟨_, rfl⟩
                            rw [← hw9] at H9 ⊢
                            clear hw9
                            have ju0 : (0 : Int) ≤ (ju : Int) := by omega
                            have ju1 : (ju : Int) < (n : Int) := by omega
                            have cju := H9.out.cell ju (by omega)
                            obtain ⟨x, hx⟩ : ∃ x, x = (du)[ju]! := ⟨_, rfl⟩
                            rw [← hx] at cju
                            obtain ⟨p, hp⟩ : ∃ p : Nat, p = ju - 1 := ⟨_, rfl⟩
                            have ep : (ju : Int) - 1 = (p : Int) := by omega
                            have wp : IntKind.i64.wrap (p : Int) = (p : Int) := by rw [IntKind.wrap_i64]; omega
                            have p0 : (0 : Int) ≤ (p : Int) := by omega
                            have p1 : (p : Int) < (n : Int) := by omega
                            have cp := H9.out.cell p (by omega)
                            obtain ⟨y, hy⟩ : ∃ y, y = (du)[p]! := ⟨_, rfl⟩
                            rw [← hy] at cp
                            have HPQ := Lib.hid (And.intro (And.intro (Eq.refl ju) hx) (And.intro hp hy))
                            have fz := H9.out.frz
                            clear hx hy hp 
                            have hne : ¬ ju = p := by have := HPQ.out.2.1; omega
                            have hne2 : ¬ p = ju := fun e => hne e.symm
                            have HS := Lib.hid (H9.out.swapL HPQ.out (by omega) (by omega))
                            go_region
                            obtain ⟨w10, hw10⟩ : ∃ X, X = ((w9.setCell ⟨g, ju, none⟩ (.int .u64 y)).setCell ⟨g, p, none⟩ (.int .u64 x)).drew := ⟨_, rfl⟩
                            have H10 : Hid (AtO g n w0 (swp (du) ju (ju - 1)) w10) := Lib.hid (by rw [hw10]; exact HS.out 1)
                            rw [← hw10]
                            clear hw10 HS HPQ hne hne2 cju cp ju0 ju1 p0 p1 ep wp fz
                            go_wp2
                            go_roundg (b - (ju + 1))
                            case measure => omega
                            case rel => exact ⟨ju + 1, swp du ju (ju - 1), by go_num, by omega, by omega, Nat.le_refl _, H10.out, Lib.hid (by rw [← HU.out, shiftUp_go ltInt b ju du hjb' HVju.out])⟩
                          | false =>
                            have ju0 : (0 : Int) ≤ (ju : Int) := by omega
                            have ju1 : (ju : Int) < (n : Int) := by omega
                            have cju := H8.out.cell ju (by omega)
                            obtain ⟨x, hx⟩ : ∃ x, x = (du)[ju]! := ⟨_, rfl⟩
                            rw [← hx] at cju
                            obtain ⟨p, hp⟩ : ∃ p : Nat, p = ju - 1 := ⟨_, rfl⟩
                            have ep : (ju : Int) - 1 = (p : Int) := by omega
                            have wp : IntKind.i64.wrap (p : Int) = (p : Int) := by rw [IntKind.wrap_i64]; omega
                            have p0 : (0 : Int) ≤ (p : Int) := by omega
                            have p1 : (p : Int) < (n : Int) := by omega
                            have cp := H8.out.cell p (by omega)
                            obtain ⟨y, hy⟩ : ∃ y, y = (du)[p]! := ⟨_, rfl⟩
                            rw [← hy] at cp
                            have HPQ := Lib.hid (And.intro (And.intro (Eq.refl ju) hx) (And.intro hp hy))
                            have fz := H8.out.frz
                            have hl : ltInt x y = false := by rw [hx, hy, hp]; exact hlv3
                            have HVju := Lib.hid hlv3
                            clear hx hy hp hlv3
                            go_wp2_with fail
                            go_quiet ((go_at_call 117; exact Calls.quiet_of_same (less_u _ _ _)))
                            have H9 := Lib.hid (H8.out.drewN nq)
                            clear HPQ hl cju cp ju0 ju1 p0 p1 ep wp fz
                            go_wp2
                            go_roundg (5 - (s + 1))
                            case measure => omega
                            case rel => exact ⟨kx, s + 1, du, rfl, by go_num, by omega, Nat.le_refl _, by omega, by omega, H9.out, Lib.hid (by rw [← HO.out, pi_go ltInt a b s i kx dk hs HK.out (by omega) h50, HDD.out, show fixUp ltInt b kx (dj) = du from by unfold fixUp; rw [if_pos hbk, ← HU.out, shiftUp_stop ltInt b ju du (Or.inr HVju.out)]])⟩
                        · have hjz : decide ((ju : Int) < (b : Int)) = false := decide_eq_false (by omega)
                          go_wp2
                          go_roundg (5 - (s + 1))
                          case measure => omega
                          case rel => exact ⟨kx, s + 1, du, rfl, by go_num, by omega, Nat.le_refl _, by omega, by omega, H8.out, Lib.hid (by rw [← HO.out, pi_go ltInt a b s i kx dk hs HK.out (by omega) h50, HDD.out, show fixUp ltInt b kx (dj) = du from by unfold fixUp; rw [if_pos hbk, ← HU.out, shiftUp_stop ltInt b ju du (Or.inl hjb')]])⟩
                    · have hbkz : ¬ (2 : Int) ≤ (b : Int) - (kx : Int) := by omega
                      go_wp2
                      go_roundg (5 - (s + 1))
                      case measure => omega
                      case rel => exact ⟨kx, s + 1, dj, rfl, by go_num, by omega, Nat.le_refl _, by omega, by omega, H4.out, Lib.hid (by rw [← HO.out, pi_go ltInt a b s i kx dk hs HK.out (by omega) h50, HDD.out, show fixUp ltInt b kx (dj) = dj from by unfold fixUp; rw [if_neg hbk]])⟩
              · have hkaz : ¬ (2 : Int) ≤ (kx : Int) - (a : Int) := by omega
                have HDD : Hid (fixDown ltInt a kx (swp dk kx (kx - 1)) = swp dk kx (kx - 1)) := Lib.hid (by unfold fixDown; rw [if_neg hka])
                by_cases hbk : b - kx ≥ 2
                · have hbkz : (2 : Int) ≤ (b : Int) - (kx : Int) := by omega
                  go_wp2
                  go_loopg [10] (b - (kx + 1)) (fun g4 vj wr4 => ∃ (ju : Nat) (du : Array Int), vj = .int .i64 (ju : Int) ∧ kx + 1 ≤ ju ∧ ju ≤ b ∧ b - ju ≤ g4 ∧ AtO g n w0 (du) wr4 ∧ Hid (shiftUp ltInt b ju du = shiftUp ltInt b (kx + 1) (swp dk kx (kx - 1))))
                  case atStart => exact ⟨kx + 1, swp dk kx (kx - 1), by go_num, Nat.le_refl _, by omega, Nat.le_refl _, H5.out, Lib.hid rfl⟩
                  case round =>
                    clear H5
                    obtain ⟨ju, du, rfl, hkj, hjb, hg4, h8, HU⟩ := hrel
                    have H8 := Lib.hid h8
                    clear h8
                    by_cases hjb' : ju < b
                    · have hjz : (ju : Int) < (b : Int) := by omega
                      cases hlv3 : ltInt du[ju]! du[ju - 1]! with
                      | true =>
                        have ju0 : (0 : Int) ≤ (ju : Int) := by omega
                        have ju1 : (ju : Int) < (n : Int) := by omega
                        have cju := H8.out.cell ju (by omega)
                        obtain ⟨x, hx⟩ : ∃ x, x = (du)[ju]! := ⟨_, rfl⟩
                        rw [← hx] at cju
                        obtain ⟨p, hp⟩ : ∃ p : Nat, p = ju - 1 := ⟨_, rfl⟩
                        have ep : (ju : Int) - 1 = (p : Int) := by omega
                        have wp : IntKind.i64.wrap (p : Int) = (p : Int) := by rw [IntKind.wrap_i64]; omega
                        have p0 : (0 : Int) ≤ (p : Int) := by omega
                        have p1 : (p : Int) < (n : Int) := by omega
                        have cp := H8.out.cell p (by omega)
                        obtain ⟨y, hy⟩ : ∃ y, y = (du)[p]! := ⟨_, rfl⟩
                        rw [← hy] at cp
                        have HPQ := Lib.hid (And.intro (And.intro (Eq.refl ju) hx) (And.intro hp hy))
                        have fz := H8.out.frz
                        have hl : ltInt x y = true := by rw [hx, hy, hp]; exact hlv3
                        have HVju := Lib.hid hlv3
                        clear hx hy hp hlv3
                        go_wp2_with fail
                        go_quiet ((go_at_call 117; exact Calls.quiet_of_same (less_u _ _ _)))
                        have H9 := Lib.hid (H8.out.drewN nq)
                        clear HPQ hl cju cp ju0 ju1 p0 p1 ep wp fz
                        go_upto_region 23 with fail
                        obtain ⟨w9, hw9⟩ : ∃ X, X = wr.drewN nq := ⟨_, rfl⟩
                        rw [← hw9] at H9 ⊢
                        clear hw9
                        have ju0 : (0 : Int) ≤ (ju : Int) := by omega
                        have ju1 : (ju : Int) < (n : Int) := by omega
                        have cju := H9.out.cell ju (by omega)
                        obtain ⟨x, hx⟩ : ∃ x, x = (du)[ju]! := ⟨_, rfl⟩
                        rw [← hx] at cju
                        obtain ⟨p, hp⟩ : ∃ p : Nat, p = ju - 1 := ⟨_, rfl⟩
                        have ep : (ju : Int) - 1 = (p : Int) := by omega
                        have wp : IntKind.i64.wrap (p : Int) = (p : Int) := by rw [IntKind.wrap_i64]; omega
                        have p0 : (0 : Int) ≤ (p : Int) := by omega
                        have p1 : (p : Int) < (n : Int) := by omega
                        have cp := H9.out.cell p (by omega)
                        obtain ⟨y, hy⟩ : ∃ y, y = (du)[p]! := ⟨_, rfl⟩
                        rw [← hy] at cp
                        have HPQ := Lib.hid (And.intro (And.intro (Eq.refl ju) hx) (And.intro hp hy))
                        have fz := H9.out.frz
                        clear hx hy hp 
                        have hne : ¬ ju = p := by have := HPQ.out.2.1; omega
                        have hne2 : ¬ p = ju := fun e => hne e.symm
                        have HS := Lib.hid (H9.out.swapL HPQ.out (by omega) (by omega))
                        go_region
                        obtain ⟨w10, hw10⟩ : ∃ X, X = ((w9.setCell ⟨g, ju, none⟩ (.int .u64 y)).setCell ⟨g, p, none⟩ (.int .u64 x)).drew := ⟨_, rfl⟩
                        have H10 : Hid (AtO g n w0 (swp (du) ju (ju - 1)) w10) := Lib.hid (by rw [hw10]; exact HS.out 1)
                        rw [← hw10]
                        clear hw10 HS HPQ hne hne2 cju cp ju0 ju1 p0 p1 ep wp fz
                        go_wp2
                        go_roundg (b - (ju + 1))
                        case measure => omega
                        case rel => exact ⟨ju + 1, swp du ju (ju - 1), by go_num, by omega, by omega, Nat.le_refl _, H10.out, Lib.hid (by rw [← HU.out, shiftUp_go ltInt b ju du hjb' HVju.out])⟩
                      | false =>
                        have ju0 : (0 : Int) ≤ (ju : Int) := by omega
                        have ju1 : (ju : Int) < (n : Int) := by omega
                        have cju := H8.out.cell ju (by omega)
                        obtain ⟨x, hx⟩ : ∃ x, x = (du)[ju]! := ⟨_, rfl⟩
                        rw [← hx] at cju
                        obtain ⟨p, hp⟩ : ∃ p : Nat, p = ju - 1 := ⟨_, rfl⟩
                        have ep : (ju : Int) - 1 = (p : Int) := by omega
                        have wp : IntKind.i64.wrap (p : Int) = (p : Int) := by rw [IntKind.wrap_i64]; omega
                        have p0 : (0 : Int) ≤ (p : Int) := by omega
                        have p1 : (p : Int) < (n : Int) := by omega
                        have cp := H8.out.cell p (by omega)
                        obtain ⟨y, hy⟩ : ∃ y, y = (du)[p]! := ⟨_, rfl⟩
                        rw [← hy] at cp
                        have HPQ := Lib.hid (And.intro (And.intro (Eq.refl ju) hx) (And.intro hp hy))
                        have fz := H8.out.frz
                        have hl : ltInt x y = false := by rw [hx, hy, hp]; exact hlv3
                        have HVju := Lib.hid hlv3
                        clear hx hy hp hlv3
                        go_wp2_with fail
                        go_quiet ((go_at_call 117; exact Calls.quiet_of_same (less_u _ _ _)))
                        have H9 := Lib.hid (H8.out.drewN nq)
                        clear HPQ hl cju cp ju0 ju1 p0 p1 ep wp fz
                        go_wp2
                        go_roundg (5 - (s + 1))
                        case measure => omega
                        case rel => exact ⟨kx, s + 1, du, rfl, by go_num, by omega, Nat.le_refl _, by omega, by omega, H9.out, Lib.hid (by rw [← HO.out, pi_go ltInt a b s i kx dk hs HK.out (by omega) h50, HDD.out, show fixUp ltInt b kx (swp dk kx (kx - 1)) = du from by unfold fixUp; rw [if_pos hbk, ← HU.out, shiftUp_stop ltInt b ju du (Or.inr HVju.out)]])⟩
                    · have hjz : decide ((ju : Int) < (b : Int)) = false := decide_eq_false (by omega)
                      go_wp2
                      go_roundg (5 - (s + 1))
                      case measure => omega
                      case rel => exact ⟨kx, s + 1, du, rfl, by go_num, by omega, Nat.le_refl _, by omega, by omega, H8.out, Lib.hid (by rw [← HO.out, pi_go ltInt a b s i kx dk hs HK.out (by omega) h50, HDD.out, show fixUp ltInt b kx (swp dk kx (kx - 1)) = du from by unfold fixUp; rw [if_pos hbk, ← HU.out, shiftUp_stop ltInt b ju du (Or.inl hjb')]])⟩
                · exfalso; omega
        · have hkz : decide ((kx : Int) < (b : Int)) = false := decide_eq_false (by omega)
          have hkeb : ((kx : Int) == (b : Int)) = true := by simp; omega
          have hv : Sort.partialInsertionSort ltInt d a b = (dk, true) := by
            unfold Sort.partialInsertionSort
            rw [← HO.out, pi_true ltInt a b s i dk hs (by rw [← HSc.out, scanSorted_stop ltInt dk b kx (Or.inl (by omega))]; omega)]
          have HV := Lib.hid hv
          clear hv
          go_wp2_with fail
          go_quiet ((go_at_call 117; exact Calls.quiet_of_same (less_u _ _ _)))
          have H3 := Lib.hid (H2.out.drewN nq)
          go_wp2
          refine bodyPost_ret (v := .bool true) (by simp [results, Tryz.results116, go_sem]) rfl ?_
          exact ⟨by rw [HV.out], by rw [HV.out]; exact H3.out⟩
    · have hs6 : s = 5 := by omega
      subst hs6
      have hv : Sort.partialInsertionSort ltInt d a b = (dk, false) := by
        unfold Sort.partialInsertionSort
        rw [← HO.out, pi_end ltInt a b i dk]
      have HV := Lib.hid hv
      clear hv
      go_wp2
      refine bodyPost_ret (v := .bool false) (by simp [results, Tryz.results116, go_sem]) rfl ?_
      exact ⟨by rw [HV.out], by rw [HV.out]; exact H1.out⟩
end Go.Proofs.YtpkkomifenlkaaaGreat.So
/- partitionEqual -/
namespace Go.Proofs.YtpkkomifenlkaaaGreat.So
open Go Go.RowKit Go.Sort Go.Proofs Go.Lib
set_option linter.unusedVariables false

set_option maxHeartbeats 12800000 in
set_option maxRecDepth 20000 in
theorem peq_any (g n cap : Nat) (hn : n < 4611686018427387904) (a b pivot : Nat) (hap : a ≤ pivot) (hpb : pivot < b) (hb : b ≤ n) (d : Array Int) (w0 w : World) (H0 : AtO g n w0 d w) :
    Calls Tryz.prog 118 #[.slice (some ⟨g, 0, none⟩) n cap, .int .i64 (a : Int), .int .i64 (b : Int), .int .i64 (pivot : Int)] w fun e w' => e = .returned (.int .i64 ((Sort.partitionEqual ltInt d a b pivot).1 : Int)) ∧ AtO g n w0 ((Sort.partitionEqual ltInt d a b pivot).2) w' := by
  have HH := Lib.hid H0
  clear H0
  go_enter Tryz.func118, Tryz.ntmps118
  go_upto_region 1 with fail
  go_cut [] (fun wx => AtO g n w0 (Sort.swp d a pivot) wx)
  case first =>
    by_cases hpq : a = pivot
    · subst hpq
      have a0 : (0 : Int) ≤ (a : Int) := by omega
      have a1 : (a : Int) < (n : Int) := by omega
      have ca := HH.out.cell a (by omega)
      obtain ⟨x, hx⟩ : ∃ x, x = (d)[a]! := ⟨_, rfl⟩
      rw [← hx] at ca
      have fz := HH.out.frz
      have HS := Lib.hid (HH.out.swapL (p := a) (q := a) (P := a) (Q := a) (x := x) (y := x) ⟨⟨rfl, hx⟩, rfl, hx⟩ (by omega) (by omega))
      clear hx
      go_region
      go_wp2
      go_meet
      exact HS.out _
    · have hqp : ¬ pivot = a := fun e => hpq e.symm
      have a0 : (0 : Int) ≤ (a : Int) := by omega
      have a1 : (a : Int) < (n : Int) := by omega
      have ca := HH.out.cell a (by omega)
      obtain ⟨x, hx⟩ : ∃ x, x = (d)[a]! := ⟨_, rfl⟩
      rw [← hx] at ca
      have pivot0 : (0 : Int) ≤ (pivot : Int) := by omega
      have pivot1 : (pivot : Int) < (n : Int) := by omega
      have cpivot := HH.out.cell pivot (by omega)
      obtain ⟨y, hy⟩ : ∃ y, y = (d)[pivot]! := ⟨_, rfl⟩
      rw [← hy] at cpivot
      have HPQ := Lib.hid (And.intro (And.intro (Eq.refl a) hx) (And.intro (Eq.refl pivot) hy))
      have fz := HH.out.frz
      clear hx hy 
      have HS := Lib.hid (HH.out.swapL HPQ.out (by omega) (by omega))
      go_region
      go_wp2
      go_meet
      exact HS.out _
  case rest =>
    have HW := Lib.hid hcut
    clear hcut HH
    go_wp2
    go_loopw [9, 10] (fun vi vj wr => ∃ (i j : Nat) (dk : Array Int), vi = .int .i64 (i : Int) ∧ vj = .int .i64 (j : Int) ∧ a < i ∧ i ≤ j + 1 ∧ j < b ∧ AtO g n w0 dk wr ∧ Hid (Sort.partEqLoop ltInt a i j dk = Sort.partEqLoop ltInt a (a + 1) (b - 1) (Sort.swp d a pivot))) (fun vi vj _ => (intOf vj).toNat + 1 - (intOf vi).toNat)
    case atStart => exact ⟨a + 1, b - 1, Sort.swp d a pivot, by go_num, by go_num, by omega, by omega, by omega, HW.out, Lib.hid rfl⟩
    case round =>
      clear HW
      obtain ⟨i, j, dk, rfl, rfl, hai, hij, hjb, H, AE⟩ := hrel
      have HX := Lib.hid H
      clear H
      go_wp2
      go_loopw [9] (fun vi w1 => ∃ (iu : Nat), vi = .int .i64 (iu : Int) ∧ i ≤ iu ∧ iu ≤ j + 1 ∧ AtO g n w0 dk w1 ∧ Hid (Sort.scanUp (fun x => !ltInt dk[a]! x) dk j iu = Sort.scanUp (fun x => !ltInt dk[a]! x) dk j i)) (fun vi _ => j + 1 - (intOf vi).toNat)
      case atStart => exact ⟨i, rfl, Nat.le_refl _, hij, HX.out, Lib.hid rfl⟩
      case round =>
        clear HX
        obtain ⟨iu, rfl, hii, hij', H, hsc⟩ := hrel
        have HD := Lib.hid H
        by_cases hle : iu ≤ j
        · have hlez : (iu : Int) ≤ (j : Int) := by omega
          cases hlv : ltInt dk[a]! dk[iu]! with
          | false =>
            have HV := Lib.hid hlv
            have a0 : (0 : Int) ≤ (a : Int) := by omega
            have a1 : (a : Int) < (n : Int) := by omega
            have ca := H.cell a (by omega)
            obtain ⟨x, hx⟩ : ∃ x, x = (dk)[a]! := ⟨_, rfl⟩
            rw [← hx] at ca
            have iu0 : (0 : Int) ≤ (iu : Int) := by omega
            have iu1 : (iu : Int) < (n : Int) := by omega
            have ciu := H.cell iu (by omega)
            obtain ⟨y, hy⟩ : ∃ y, y = (dk)[iu]! := ⟨_, rfl⟩
            rw [← hy] at ciu
            have HPQ := Lib.hid (And.intro (And.intro (Eq.refl a) hx) (And.intro (Eq.refl iu) hy))
            have fz := H.frz
            have hl : ltInt x y = false := by rw [hx, hy]; exact hlv
            clear hx hy hlv H
            go_wp2_with fail
            go_quiet ((go_at_call 117; exact Calls.quiet_of_same (less_u _ _ _)))
            go_wp2
            go_roundw
            case rel => exact ⟨iu + 1, by go_num, by omega, by omega, HD.out.drewN _, Lib.hid ((scanUp_go (fun x => !ltInt dk[a]! x) dk j iu hle (by simp [HV.out])).symm.trans hsc.out)⟩
            case measure => simp [intOf]; omega
          | true =>
            have HV := Lib.hid hlv
            have a0 : (0 : Int) ≤ (a : Int) := by omega
            have a1 : (a : Int) < (n : Int) := by omega
            have ca := H.cell a (by omega)
            obtain ⟨x, hx⟩ : ∃ x, x = (dk)[a]! := ⟨_, rfl⟩
            rw [← hx] at ca
            have iu0 : (0 : Int) ≤ (iu : Int) := by omega
            have iu1 : (iu : Int) < (n : Int) := by omega
            have ciu := H.cell iu (by omega)
            obtain ⟨y, hy⟩ : ∃ y, y = (dk)[iu]! := ⟨_, rfl⟩
            rw [← hy] at ciu
            have HPQ := Lib.hid (And.intro (And.intro (Eq.refl a) hx) (And.intro (Eq.refl iu) hy))
            have fz := H.frz
            have hl : ltInt x y = true := by rw [hx, hy]; exact hlv
            clear hx hy hlv H
            have hi2 : Hid (iu = Sort.scanUp (fun x => !ltInt dk[a]! x) dk j i) := Lib.hid ((scanUp_end (fun x => !ltInt dk[a]! x) dk j iu (Or.inr (by simp [HV.out]))).symm.trans hsc.out)
            go_wp2_with fail
            go_quiet ((go_at_call 117; exact Calls.quiet_of_same (less_u _ _ _)))
            have HN := Lib.hid (HD.out.drewN nq)
            clear HPQ hsc HD HV
            clear ca ciu a0 a1 iu0 iu1 hl fz
            go_wp2
            go_loopw [10] (fun vj w2 => ∃ (ju : Nat), vj = .int .i64 (ju : Int) ∧ ju ≤ j ∧ iu ≤ ju + 1 ∧ AtO g n w0 dk w2 ∧ Hid (Sort.scanDown (fun x => ltInt dk[a]! x) dk iu ju = Sort.scanDown (fun x => ltInt dk[a]! x) dk iu j)) (fun vj _ => (intOf vj).toNat)
            case atStart => exact ⟨j, rfl, Nat.le_refl _, hij', HN.out, Lib.hid rfl⟩
            case round =>
              clear HN
              obtain ⟨ju, rfl, hjj, hij2, H, hsd⟩ := hrel
              have HD := Lib.hid H
              by_cases hle2 : iu ≤ ju
              · have hle2z : (iu : Int) ≤ (ju : Int) := by omega
                cases hlv2 : ltInt dk[a]! dk[ju]! with
                | true =>
                  have HV2 := Lib.hid hlv2
                  have a0 : (0 : Int) ≤ (a : Int) := by omega
                  have a1 : (a : Int) < (n : Int) := by omega
                  have ca := H.cell a (by omega)
                  obtain ⟨x, hx⟩ : ∃ x, x = (dk)[a]! := ⟨_, rfl⟩
                  rw [← hx] at ca
                  have ju0 : (0 : Int) ≤ (ju : Int) := by omega
                  have ju1 : (ju : Int) < (n : Int) := by omega
                  have cju := H.cell ju (by omega)
                  obtain ⟨y, hy⟩ : ∃ y, y = (dk)[ju]! := ⟨_, rfl⟩
                  rw [← hy] at cju
                  have HPQ := Lib.hid (And.intro (And.intro (Eq.refl a) hx) (And.intro (Eq.refl ju) hy))
                  have fz := H.frz
                  have hl : ltInt x y = true := by rw [hx, hy]; exact hlv2
                  clear hx hy hlv2 H
                  go_wp2_with fail
                  go_quiet ((go_at_call 117; exact Calls.quiet_of_same (less_u _ _ _)))
                  go_wp2
                  go_roundw
                  case rel => exact ⟨ju - 1, by go_num, by omega, by omega, HD.out.drewN _, Lib.hid ((scanDown_go (fun x => ltInt dk[a]! x) dk iu ju hle2 (by omega) (by simp [HV2.out])).symm.trans hsd.out)⟩
                  case measure => simp [intOf]; omega
                | false =>
                  have HV2 := Lib.hid hlv2
                  have a0 : (0 : Int) ≤ (a : Int) := by omega
                  have a1 : (a : Int) < (n : Int) := by omega
                  have ca := H.cell a (by omega)
                  obtain ⟨x, hx⟩ : ∃ x, x = (dk)[a]! := ⟨_, rfl⟩
                  rw [← hx] at ca
                  have ju0 : (0 : Int) ≤ (ju : Int) := by omega
                  have ju1 : (ju : Int) < (n : Int) := by omega
                  have cju := H.cell ju (by omega)
                  obtain ⟨y, hy⟩ : ∃ y, y = (dk)[ju]! := ⟨_, rfl⟩
                  rw [← hy] at cju
                  have HPQ := Lib.hid (And.intro (And.intro (Eq.refl a) hx) (And.intro (Eq.refl ju) hy))
                  have fz := H.frz
                  have hl : ltInt x y = false := by rw [hx, hy]; exact hlv2
                  clear hx hy hlv2 H
                  have hj2 : Hid (ju = Sort.scanDown (fun x => ltInt dk[a]! x) dk iu j) := Lib.hid ((scanDown_end (fun x => ltInt dk[a]! x) dk iu ju (Or.inr (by simp [HV2.out]))).symm.trans hsd.out)
                  have hlt3 := scans_lt ltInt a i j dk (by omega) hi2.out hj2.out hle2
                  clear hsd
                  go_wp2_with fail
                  go_quiet ((go_at_call 117; exact Calls.quiet_of_same (less_u _ _ _)))
                  have HN := Lib.hid (HD.out.drewN nq)
                  clear HPQ
                  clear ca cju a0 a1 ju0 ju1 hl fz
                  go_upto_region 8 with fail
                  obtain ⟨w3, hw3⟩ : ∃ X, X = wr.drewN nq := ⟨_, rfl⟩
                  rw [← hw3] at HN ⊢
                  clear hw3
                  have hne : ¬ iu = ju := by omega
                  have hne2 : ¬ ju = iu := by omega
                  have iu0 : (0 : Int) ≤ (iu : Int) := by omega
                  have iu1 : (iu : Int) < (n : Int) := by omega
                  have ciu := HN.out.cell iu (by omega)
                  obtain ⟨u, hu⟩ : ∃ u, u = (dk)[iu]! := ⟨_, rfl⟩
                  rw [← hu] at ciu
                  have ju0 : (0 : Int) ≤ (ju : Int) := by omega
                  have ju1 : (ju : Int) < (n : Int) := by omega
                  have cju := HN.out.cell ju (by omega)
                  obtain ⟨z, hz⟩ : ∃ z, z = (dk)[ju]! := ⟨_, rfl⟩
                  rw [← hz] at cju
                  have HPQ := Lib.hid (And.intro (And.intro (Eq.refl iu) hu) (And.intro (Eq.refl ju) hz))
                  have fz := HN.out.frz
                  clear hu hz 
                  have HS := Lib.hid (HN.out.swapL HPQ.out (by omega) (by omega))
                  go_region
                  go_wp2
                  go_roundw
                  case rel => exact ⟨iu + 1, ju - 1, Sort.swp dk iu ju, by go_num, by go_num, by omega, by omega, by omega, HS.out _, Lib.hid (by rw [← AE.out]; exact (partEq_go ltInt a i j dk hi2.out hj2.out (by omega)).symm)⟩
                  case measure => simp [intOf]; omega
              · have hle2z : decide ((iu : Int) ≤ (ju : Int)) = false := decide_eq_false (by omega)
                have hj2 : Hid (ju = Sort.scanDown (fun x => ltInt dk[a]! x) dk iu j) := Lib.hid ((scanDown_end (fun x => ltInt dk[a]! x) dk iu ju (Or.inl hle2)).symm.trans hsd.out)
                have hgt : (ju : Int) < (iu : Int) := by omega
                clear hsd H
                go_wp2_with fail
                go_quiet ((go_at_call 117; exact Calls.quiet_of_same (less_u _ _ _)))
                have HN := Lib.hid (HD.out.drewN nq)
                go_wp2
                go_ret
                have e := partEq_break ltInt a i j dk hi2.out hj2.out (by omega)
                exact ⟨by unfold Sort.partitionEqual; rw [← AE.out, e]; rfl, by unfold Sort.partitionEqual; rw [← AE.out, e]; exact HN.out⟩
        · have hlez : decide ((iu : Int) ≤ (j : Int)) = false := decide_eq_false (by omega)
          have hi2 : Hid (iu = Sort.scanUp (fun x => !ltInt dk[a]! x) dk j i) := Lib.hid ((scanUp_end (fun x => !ltInt dk[a]! x) dk j iu (Or.inl hle)).symm.trans hsc.out)
          clear H
          go_wp2_with fail
          go_quiet ((go_at_call 117; exact Calls.quiet_of_same (less_u _ _ _)))
          have HN := Lib.hid (HD.out.drewN nq)
          clear hsc HD
          go_wp2
          go_loopw [10] (fun vj w2 => ∃ (ju : Nat), vj = .int .i64 (ju : Int) ∧ ju ≤ j ∧ iu ≤ ju + 1 ∧ AtO g n w0 dk w2 ∧ Hid (Sort.scanDown (fun x => ltInt dk[a]! x) dk iu ju = Sort.scanDown (fun x => ltInt dk[a]! x) dk iu j)) (fun vj _ => (intOf vj).toNat)
          case atStart => exact ⟨j, rfl, Nat.le_refl _, hij', HN.out, Lib.hid rfl⟩
          case round =>
            clear HN
            obtain ⟨ju, rfl, hjj, hij2, H, hsd⟩ := hrel
            have HD := Lib.hid H
            by_cases hle2 : iu ≤ ju
            · exfalso; omega
            · have hle2z : decide ((iu : Int) ≤ (ju : Int)) = false := decide_eq_false (by omega)
              have hj2 : Hid (ju = Sort.scanDown (fun x => ltInt dk[a]! x) dk iu j) := Lib.hid ((scanDown_end (fun x => ltInt dk[a]! x) dk iu ju (Or.inl hle2)).symm.trans hsd.out)
              have hgt : (ju : Int) < (iu : Int) := by omega
              clear hsd H
              go_wp2_with fail
              go_quiet ((go_at_call 117; exact Calls.quiet_of_same (less_u _ _ _)))
              have HN := Lib.hid (HD.out.drewN nq)
              go_wp2
              go_ret
              have e := partEq_break ltInt a i j dk hi2.out hj2.out (by omega)
              exact ⟨by unfold Sort.partitionEqual; rw [← AE.out, e]; rfl, by unfold Sort.partitionEqual; rw [← AE.out, e]; exact HN.out⟩
end Go.Proofs.YtpkkomifenlkaaaGreat.So
/- partition -/
namespace Go.Proofs.YtpkkomifenlkaaaGreat.So
open Go Go.RowKit Go.Sort Go.Proofs Go.Lib
set_option linter.unusedVariables false

set_option maxHeartbeats 25600000 in
set_option maxRecDepth 20000 in
theorem part_any (g n cap : Nat) (hn : n < 4611686018427387904) (a b pivot : Nat) (hap : a ≤ pivot) (hpb : pivot < b) (hb : b ≤ n) (d : Array Int) (w0 w : World) (H0 : AtO g n w0 d w) :
    Calls Tryz.prog 119 #[.slice (some ⟨g, 0, none⟩) n cap, .int .i64 (a : Int), .int .i64 (b : Int), .int .i64 (pivot : Int)] w fun e w' => e = .returned (.tuple #[.int .i64 ((Sort.partition ltInt d a b pivot).1 : Int), .bool (Sort.partition ltInt d a b pivot).2.1]) ∧ AtO g n w0 ((Sort.partition ltInt d a b pivot).2.2) w' := by
  have HH := Lib.hid H0
  clear H0
  go_enter Tryz.func119, Tryz.ntmps119
  go_upto_region 1 with fail
  go_cut [] (fun wx => AtO g n w0 (Sort.swp d a pivot) wx)
  case first =>
    by_cases hpq : a = pivot
    · subst hpq
      have a0 : (0 : Int) ≤ (a : Int) := by omega
      have a1 : (a : Int) < (n : Int) := by omega
      have ca := HH.out.cell a (by omega)
      obtain ⟨x, hx⟩ : ∃ x, x = (d)[a]! := ⟨_, rfl⟩
      rw [← hx] at ca
      have fz := HH.out.frz
      have HS := Lib.hid (HH.out.swapL (p := a) (q := a) (P := a) (Q := a) (x := x) (y := x) ⟨⟨rfl, hx⟩, rfl, hx⟩ (by omega) (by omega))
      clear hx
      go_region
      go_wp2
      go_meet
      exact HS.out _
    · have hqp : ¬ pivot = a := fun e => hpq e.symm
      have a0 : (0 : Int) ≤ (a : Int) := by omega
      have a1 : (a : Int) < (n : Int) := by omega
      have ca := HH.out.cell a (by omega)
      obtain ⟨x, hx⟩ : ∃ x, x = (d)[a]! := ⟨_, rfl⟩
      rw [← hx] at ca
      have pivot0 : (0 : Int) ≤ (pivot : Int) := by omega
      have pivot1 : (pivot : Int) < (n : Int) := by omega
      have cpivot := HH.out.cell pivot (by omega)
      obtain ⟨y, hy⟩ : ∃ y, y = (d)[pivot]! := ⟨_, rfl⟩
      rw [← hy] at cpivot
      have HPQ := Lib.hid (And.intro (And.intro (Eq.refl a) hx) (And.intro (Eq.refl pivot) hy))
      have fz := HH.out.frz
      clear hx hy 
      have HS := Lib.hid (HH.out.swapL HPQ.out (by omega) (by omega))
      go_region
      go_wp2
      go_meet
      exact HS.out _
  case rest =>
    obtain ⟨i, hi⟩ : ∃ i : Nat, i = a + 1 := ⟨_, rfl⟩
    obtain ⟨j, hj⟩ : ∃ j : Nat, j = b - 1 := ⟨_, rfl⟩
    obtain ⟨dk, hdk⟩ : ∃ dk : Array Int, dk = Sort.swp d a pivot := ⟨_, rfl⟩
    rw [← hdk] at hcut
    have HW := Lib.hid hcut
    have hai : a < i := by omega
    have hij : i ≤ j + 1 := by omega
    have hjb : j < b := by omega
    have ei : (a : Int) + 1 = (i : Int) := by omega
    have ej : (b : Int) - 1 = (j : Int) := by omega
    have Hi : Hid (i = a + 1) := Lib.hid hi
    have Hj : Hid (j = b - 1) := Lib.hid hj
    have Hdk : Hid (dk = Sort.swp d a pivot) := Lib.hid hdk
    clear hi hj hdk hcut HH
    go_upto_region 3 with fail
    (try rw [ei]); (try rw [ej])
    clear ei ej
    go_loopw [10] (fun vi w1 => ∃ (iu : Nat), vi = .int .i64 (iu : Int) ∧ i ≤ iu ∧ iu ≤ j + 1 ∧ AtO g n w0 dk w1 ∧ Hid (Sort.scanUp (fun x => ltInt x dk[a]!) dk j iu = Sort.scanUp (fun x => ltInt x dk[a]!) dk j i)) (fun vi _ => j + 1 - (intOf vi).toNat)
    case atStart => exact ⟨i, rfl, Nat.le_refl _, hij, HW.out, Lib.hid rfl⟩
    case round =>
      clear HW
      obtain ⟨iu, rfl, hii, hij', H, hsc⟩ := hrel
      have HD := Lib.hid H
      by_cases hle : iu ≤ j
      · have hlez : (iu : Int) ≤ (j : Int) := by omega
        cases hlv : ltInt dk[iu]! dk[a]! with
        | true =>
          have HV := Lib.hid hlv
          have iu0 : (0 : Int) ≤ (iu : Int) := by omega
          have iu1 : (iu : Int) < (n : Int) := by omega
          have ciu := H.cell iu (by omega)
          obtain ⟨x, hx⟩ : ∃ x, x = (dk)[iu]! := ⟨_, rfl⟩
          rw [← hx] at ciu
          have a0 : (0 : Int) ≤ (a : Int) := by omega
          have a1 : (a : Int) < (n : Int) := by omega
          have ca := H.cell a (by omega)
          obtain ⟨y, hy⟩ : ∃ y, y = (dk)[a]! := ⟨_, rfl⟩
          rw [← hy] at ca
          have HPQ := Lib.hid (And.intro (And.intro (Eq.refl iu) hx) (And.intro (Eq.refl a) hy))
          have fz := H.frz
          have hl : ltInt x y = true := by rw [hx, hy]; exact hlv
          clear hx hy hlv H
          go_wp2_with fail
          go_quiet ((go_at_call 117; exact Calls.quiet_of_same (less_u _ _ _)))
          go_wp2
          go_roundw
          case rel => exact ⟨iu + 1, by go_num, by omega, by omega, HD.out.drewN _, Lib.hid ((scanUp_go (fun x => ltInt x dk[a]!) dk j iu hle (by simp [HV.out])).symm.trans hsc.out)⟩
          case measure => simp [intOf]; omega
        | false =>
          have HV := Lib.hid hlv
          have iu0 : (0 : Int) ≤ (iu : Int) := by omega
          have iu1 : (iu : Int) < (n : Int) := by omega
          have ciu := H.cell iu (by omega)
          obtain ⟨x, hx⟩ : ∃ x, x = (dk)[iu]! := ⟨_, rfl⟩
          rw [← hx] at ciu
          have a0 : (0 : Int) ≤ (a : Int) := by omega
          have a1 : (a : Int) < (n : Int) := by omega
          have ca := H.cell a (by omega)
          obtain ⟨y, hy⟩ : ∃ y, y = (dk)[a]! := ⟨_, rfl⟩
          rw [← hy] at ca
          have HPQ := Lib.hid (And.intro (And.intro (Eq.refl iu) hx) (And.intro (Eq.refl a) hy))
          have fz := H.frz
          have hl : ltInt x y = false := by rw [hx, hy]; exact hlv
          clear hx hy hlv H
          have hi2 : Hid (iu = Sort.scanUp (fun x => ltInt x dk[a]!) dk j i) := Lib.hid ((scanUp_end (fun x => ltInt x dk[a]!) dk j iu (Or.inr (by simp [HV.out]))).symm.trans hsc.out)
          go_wp2_with fail
          go_quiet ((go_at_call 117; exact Calls.quiet_of_same (less_u _ _ _)))
          have HN := Lib.hid (HD.out.drewN nq)
          clear HPQ hsc HD HV
          clear ciu ca iu0 iu1 a0 a1 hl fz
          go_wp2
          go_loopw [11] (fun vj w2 => ∃ (ju : Nat), vj = .int .i64 (ju : Int) ∧ ju ≤ j ∧ iu ≤ ju + 1 ∧ AtO g n w0 dk w2 ∧ Hid (Sort.scanDown (fun x => !ltInt x dk[a]!) dk iu ju = Sort.scanDown (fun x => !ltInt x dk[a]!) dk iu j)) (fun vj _ => (intOf vj).toNat)
          case atStart => exact ⟨j, rfl, Nat.le_refl _, hij', HN.out, Lib.hid rfl⟩
          case round =>
            clear HN
            obtain ⟨ju, rfl, hjj, hij2, H, hsd⟩ := hrel
            have HD := Lib.hid H
            by_cases hle2 : iu ≤ ju
            · have hle2z : (iu : Int) ≤ (ju : Int) := by omega
              cases hlv2 : ltInt dk[ju]! dk[a]! with
              | false =>
                have HV2 := Lib.hid hlv2
                have ju0 : (0 : Int) ≤ (ju : Int) := by omega
                have ju1 : (ju : Int) < (n : Int) := by omega
                have cju := H.cell ju (by omega)
                obtain ⟨x, hx⟩ : ∃ x, x = (dk)[ju]! := ⟨_, rfl⟩
                rw [← hx] at cju
                have a0 : (0 : Int) ≤ (a : Int) := by omega
                have a1 : (a : Int) < (n : Int) := by omega
                have ca := H.cell a (by omega)
                obtain ⟨y, hy⟩ : ∃ y, y = (dk)[a]! := ⟨_, rfl⟩
                rw [← hy] at ca
                have HPQ := Lib.hid (And.intro (And.intro (Eq.refl ju) hx) (And.intro (Eq.refl a) hy))
                have fz := H.frz
                have hl : ltInt x y = false := by rw [hx, hy]; exact hlv2
                clear hx hy hlv2 H
                go_wp2_with fail
                go_quiet ((go_at_call 117; exact Calls.quiet_of_same (less_u _ _ _)))
                go_wp2
                go_roundw
                case rel => exact ⟨ju - 1, by go_num, by omega, by omega, HD.out.drewN _, Lib.hid ((scanDown_go (fun x => !ltInt x dk[a]!) dk iu ju hle2 (by omega) (by simp [HV2.out])).symm.trans hsd.out)⟩
                case measure => simp [intOf]; omega
              | true =>
                have HV2 := Lib.hid hlv2
                have ju0 : (0 : Int) ≤ (ju : Int) := by omega
                have ju1 : (ju : Int) < (n : Int) := by omega
                have cju := H.cell ju (by omega)
                obtain ⟨x, hx⟩ : ∃ x, x = (dk)[ju]! := ⟨_, rfl⟩
                rw [← hx] at cju
                have a0 : (0 : Int) ≤ (a : Int) := by omega
                have a1 : (a : Int) < (n : Int) := by omega
                have ca := H.cell a (by omega)
                obtain ⟨y, hy⟩ : ∃ y, y = (dk)[a]! := ⟨_, rfl⟩
                rw [← hy] at ca
                have HPQ := Lib.hid (And.intro (And.intro (Eq.refl ju) hx) (And.intro (Eq.refl a) hy))
                have fz := H.frz
                have hl : ltInt x y = true := by rw [hx, hy]; exact hlv2
                clear hx hy hlv2 H
                have hj2 : Hid (ju = Sort.scanDown (fun x => !ltInt x dk[a]!) dk iu j) := Lib.hid ((scanDown_end (fun x => !ltInt x dk[a]!) dk iu ju (Or.inr (by simp [HV2.out]))).symm.trans hsd.out)
                have hlt3 := part_scans_lt ltInt a i j dk (by omega) hi2.out hj2.out hle2
                clear hsd
                go_wp2_with fail
                go_quiet ((go_at_call 117; exact Calls.quiet_of_same (less_u _ _ _)))
                have HN := Lib.hid (HD.out.drewN nq)
                clear HPQ
                clear cju ca ju0 ju1 a0 a1 hl fz
                go_upto_region 10 with fail
                obtain ⟨w3, hw3⟩ : ∃ X, X = wr.drewN nq := ⟨_, rfl⟩
                rw [← hw3] at HN ⊢
                clear hw3
                have hne : ¬ iu = ju := by omega
                have hne2 : ¬ ju = iu := by omega
                have iu0 : (0 : Int) ≤ (iu : Int) := by omega
                have iu1 : (iu : Int) < (n : Int) := by omega
                have ciu := HN.out.cell iu (by omega)
                obtain ⟨u, hu⟩ : ∃ u, u = (dk)[iu]! := ⟨_, rfl⟩
                rw [← hu] at ciu
                have ju0 : (0 : Int) ≤ (ju : Int) := by omega
                have ju1 : (ju : Int) < (n : Int) := by omega
                have cju := HN.out.cell ju (by omega)
                obtain ⟨z, hz⟩ : ∃ z, z = (dk)[ju]! := ⟨_, rfl⟩
                rw [← hz] at cju
                have HPQ := Lib.hid (And.intro (And.intro (Eq.refl iu) hu) (And.intro (Eq.refl ju) hz))
                have fz := HN.out.frz
                clear hu hz 
                have HS := Lib.hid (HN.out.swapL HPQ.out (by omega) (by omega))
                go_region
                go_wp2
                (try rw [decide_eq_false (show ¬ ju < iu by omega)])
                obtain ⟨I0, hI0⟩ : ∃ I0 : Nat, I0 = iu + 1 := ⟨_, rfl⟩
                obtain ⟨J0, hJ0⟩ : ∃ J0 : Nat, J0 = ju - 1 := ⟨_, rfl⟩
                obtain ⟨D0, hD0⟩ : ∃ D0 : Array Int, D0 = Sort.swp dk iu ju := ⟨_, rfl⟩
                have PF : Hid (Sort.partition ltInt d a b pivot = ((Sort.partLoop ltInt a I0 J0 D0).1, false, Sort.swp (Sort.partLoop ltInt a I0 J0 D0).2 (Sort.partLoop ltInt a I0 J0 D0).1 a)) := Lib.hid (by
                  rw [hI0, hJ0, hD0]; exact part_first_go ltInt d a b pivot Hi.out Hj.out Hdk.out hi2.out hj2.out (by omega))
                have HS0 := Lib.hid (HS.out)
                clear HPQ fz ciu cju iu0 iu1 ju0 ju1 hne hne2 HN HS
                go_loopw [10, 11] (fun vi vj wr => ∃ (i j : Nat) (dk : Array Int), vi = .int .i64 (i : Int) ∧ vj = .int .i64 (j : Int) ∧ a < i ∧ i ≤ j + 1 ∧ j < b ∧ AtO g n w0 dk wr ∧ Hid (Sort.partLoop ltInt a i j dk = Sort.partLoop ltInt a I0 J0 D0)) (fun vi vj _ => (intOf vj).toNat + 1 - (intOf vi).toNat)
                case atStart => exact ⟨iu + 1, ju - 1, Sort.swp dk iu ju, by go_num, by go_num, by omega, by omega, by omega, HS0.out _, Lib.hid (by rw [hI0, hJ0, hD0])⟩
                case round =>
                  clear hI0 hJ0 hD0 hj2 hi2 hlt3 HS0 Hi Hj Hdk
                  obtain ⟨i, j, dk, rfl, rfl, hai, hij, hjb, H, AE⟩ := hrel
                  have HX := Lib.hid H
                  clear H
                  go_wp2
                  go_loopw [10] (fun vi w1 => ∃ (iu : Nat), vi = .int .i64 (iu : Int) ∧ i ≤ iu ∧ iu ≤ j + 1 ∧ AtO g n w0 dk w1 ∧ Hid (Sort.scanUp (fun x => ltInt x dk[a]!) dk j iu = Sort.scanUp (fun x => ltInt x dk[a]!) dk j i)) (fun vi _ => j + 1 - (intOf vi).toNat)
                  case atStart => exact ⟨i, rfl, Nat.le_refl _, hij, HX.out, Lib.hid rfl⟩
                  case round =>
                    clear HX
                    obtain ⟨iu, rfl, hii, hij', H, hsc⟩ := hrel
                    have HD := Lib.hid H
                    by_cases hle : iu ≤ j
                    · have hlez : (iu : Int) ≤ (j : Int) := by omega
                      cases hlv : ltInt dk[iu]! dk[a]! with
                      | true =>
                        have HV := Lib.hid hlv
                        have iu0 : (0 : Int) ≤ (iu : Int) := by omega
                        have iu1 : (iu : Int) < (n : Int) := by omega
                        have ciu := H.cell iu (by omega)
                        obtain ⟨x, hx⟩ : ∃ x, x = (dk)[iu]! := ⟨_, rfl⟩
                        rw [← hx] at ciu
                        have a0 : (0 : Int) ≤ (a : Int) := by omega
                        have a1 : (a : Int) < (n : Int) := by omega
                        have ca := H.cell a (by omega)
                        obtain ⟨y, hy⟩ : ∃ y, y = (dk)[a]! := ⟨_, rfl⟩
                        rw [← hy] at ca
                        have HPQ := Lib.hid (And.intro (And.intro (Eq.refl iu) hx) (And.intro (Eq.refl a) hy))
                        have fz := H.frz
                        have hl : ltInt x y = true := by rw [hx, hy]; exact hlv
                        clear hx hy hlv H
                        go_wp2_with fail
                        go_quiet ((go_at_call 117; exact Calls.quiet_of_same (less_u _ _ _)))
                        go_wp2
                        go_roundw
                        case rel => exact ⟨iu + 1, by go_num, by omega, by omega, HD.out.drewN _, Lib.hid ((scanUp_go (fun x => ltInt x dk[a]!) dk j iu hle (by simp [HV.out])).symm.trans hsc.out)⟩
                        case measure => simp [intOf]; omega
                      | false =>
                        have HV := Lib.hid hlv
                        have iu0 : (0 : Int) ≤ (iu : Int) := by omega
                        have iu1 : (iu : Int) < (n : Int) := by omega
                        have ciu := H.cell iu (by omega)
                        obtain ⟨x, hx⟩ : ∃ x, x = (dk)[iu]! := ⟨_, rfl⟩
                        rw [← hx] at ciu
                        have a0 : (0 : Int) ≤ (a : Int) := by omega
                        have a1 : (a : Int) < (n : Int) := by omega
                        have ca := H.cell a (by omega)
                        obtain ⟨y, hy⟩ : ∃ y, y = (dk)[a]! := ⟨_, rfl⟩
                        rw [← hy] at ca
                        have HPQ := Lib.hid (And.intro (And.intro (Eq.refl iu) hx) (And.intro (Eq.refl a) hy))
                        have fz := H.frz
                        have hl : ltInt x y = false := by rw [hx, hy]; exact hlv
                        clear hx hy hlv H
                        have hi2 : Hid (iu = Sort.scanUp (fun x => ltInt x dk[a]!) dk j i) := Lib.hid ((scanUp_end (fun x => ltInt x dk[a]!) dk j iu (Or.inr (by simp [HV.out]))).symm.trans hsc.out)
                        go_wp2_with fail
                        go_quiet ((go_at_call 117; exact Calls.quiet_of_same (less_u _ _ _)))
                        have HN := Lib.hid (HD.out.drewN nq)
                        clear HPQ hsc HD HV
                        clear ciu ca iu0 iu1 a0 a1 hl fz
                        go_wp2
                        go_loopw [11] (fun vj w2 => ∃ (ju : Nat), vj = .int .i64 (ju : Int) ∧ ju ≤ j ∧ iu ≤ ju + 1 ∧ AtO g n w0 dk w2 ∧ Hid (Sort.scanDown (fun x => !ltInt x dk[a]!) dk iu ju = Sort.scanDown (fun x => !ltInt x dk[a]!) dk iu j)) (fun vj _ => (intOf vj).toNat)
                        case atStart => exact ⟨j, rfl, Nat.le_refl _, hij', HN.out, Lib.hid rfl⟩
                        case round =>
                          clear HN
                          obtain ⟨ju, rfl, hjj, hij2, H, hsd⟩ := hrel
                          have HD := Lib.hid H
                          by_cases hle2 : iu ≤ ju
                          · have hle2z : (iu : Int) ≤ (ju : Int) := by omega
                            cases hlv2 : ltInt dk[ju]! dk[a]! with
                            | false =>
                              have HV2 := Lib.hid hlv2
                              have ju0 : (0 : Int) ≤ (ju : Int) := by omega
                              have ju1 : (ju : Int) < (n : Int) := by omega
                              have cju := H.cell ju (by omega)
                              obtain ⟨x, hx⟩ : ∃ x, x = (dk)[ju]! := ⟨_, rfl⟩
                              rw [← hx] at cju
                              have a0 : (0 : Int) ≤ (a : Int) := by omega
                              have a1 : (a : Int) < (n : Int) := by omega
                              have ca := H.cell a (by omega)
                              obtain ⟨y, hy⟩ : ∃ y, y = (dk)[a]! := ⟨_, rfl⟩
                              rw [← hy] at ca
                              have HPQ := Lib.hid (And.intro (And.intro (Eq.refl ju) hx) (And.intro (Eq.refl a) hy))
                              have fz := H.frz
                              have hl : ltInt x y = false := by rw [hx, hy]; exact hlv2
                              clear hx hy hlv2 H
                              go_wp2_with fail
                              go_quiet ((go_at_call 117; exact Calls.quiet_of_same (less_u _ _ _)))
                              go_wp2
                              go_roundw
                              case rel => exact ⟨ju - 1, by go_num, by omega, by omega, HD.out.drewN _, Lib.hid ((scanDown_go (fun x => !ltInt x dk[a]!) dk iu ju hle2 (by omega) (by simp [HV2.out])).symm.trans hsd.out)⟩
                              case measure => simp [intOf]; omega
                            | true =>
                              have HV2 := Lib.hid hlv2
                              have ju0 : (0 : Int) ≤ (ju : Int) := by omega
                              have ju1 : (ju : Int) < (n : Int) := by omega
                              have cju := H.cell ju (by omega)
                              obtain ⟨x, hx⟩ : ∃ x, x = (dk)[ju]! := ⟨_, rfl⟩
                              rw [← hx] at cju
                              have a0 : (0 : Int) ≤ (a : Int) := by omega
                              have a1 : (a : Int) < (n : Int) := by omega
                              have ca := H.cell a (by omega)
                              obtain ⟨y, hy⟩ : ∃ y, y = (dk)[a]! := ⟨_, rfl⟩
                              rw [← hy] at ca
                              have HPQ := Lib.hid (And.intro (And.intro (Eq.refl ju) hx) (And.intro (Eq.refl a) hy))
                              have fz := H.frz
                              have hl : ltInt x y = true := by rw [hx, hy]; exact hlv2
                              clear hx hy hlv2 H
                              have hj2 : Hid (ju = Sort.scanDown (fun x => !ltInt x dk[a]!) dk iu j) := Lib.hid ((scanDown_end (fun x => !ltInt x dk[a]!) dk iu ju (Or.inr (by simp [HV2.out]))).symm.trans hsd.out)
                              have hlt3 := part_scans_lt ltInt a i j dk (by omega) hi2.out hj2.out hle2
                              clear hsd
                              go_wp2_with fail
                              go_quiet ((go_at_call 117; exact Calls.quiet_of_same (less_u _ _ _)))
                              have HN := Lib.hid (HD.out.drewN nq)
                              clear HPQ
                              clear cju ca ju0 ju1 a0 a1 hl fz
                              go_upto_region 18 with fail
                              obtain ⟨w3, hw3⟩ : ∃ X, X = wr.drewN nq := ⟨_, rfl⟩
                              rw [← hw3] at HN ⊢
                              clear hw3
                              have hne : ¬ iu = ju := by omega
                              have hne2 : ¬ ju = iu := by omega
                              have iu0 : (0 : Int) ≤ (iu : Int) := by omega
                              have iu1 : (iu : Int) < (n : Int) := by omega
                              have ciu := HN.out.cell iu (by omega)
                              obtain ⟨u, hu⟩ : ∃ u, u = (dk)[iu]! := ⟨_, rfl⟩
                              rw [← hu] at ciu
                              have ju0 : (0 : Int) ≤ (ju : Int) := by omega
                              have ju1 : (ju : Int) < (n : Int) := by omega
                              have cju := HN.out.cell ju (by omega)
                              obtain ⟨z, hz⟩ : ∃ z, z = (dk)[ju]! := ⟨_, rfl⟩
                              rw [← hz] at cju
                              have HPQ := Lib.hid (And.intro (And.intro (Eq.refl iu) hu) (And.intro (Eq.refl ju) hz))
                              have fz := HN.out.frz
                              clear hu hz 
                              have HS := Lib.hid (HN.out.swapL HPQ.out (by omega) (by omega))
                              go_region
                              go_wp2
                              go_roundw
                              case rel => exact ⟨iu + 1, ju - 1, Sort.swp dk iu ju, by go_num, by go_num, by omega, by omega, by omega, HS.out _, Lib.hid (by rw [← AE.out]; exact (part_go ltInt a i j dk hi2.out hj2.out (by omega)).symm)⟩
                              case measure => simp [intOf]; omega
                          · have hle2z : decide ((iu : Int) ≤ (ju : Int)) = false := decide_eq_false (by omega)
                            have hj2 : Hid (ju = Sort.scanDown (fun x => !ltInt x dk[a]!) dk iu j) := Lib.hid ((scanDown_end (fun x => !ltInt x dk[a]!) dk iu ju (Or.inl hle2)).symm.trans hsd.out)
                            have hgt : (ju : Int) < (iu : Int) := by omega
                            clear hsd H
                            go_wp2_with fail
                            go_quiet ((go_at_call 117; exact Calls.quiet_of_same (less_u _ _ _)))
                            have HN := Lib.hid (HD.out.drewN nq)
                            go_upto_region 21 with fail
                            obtain ⟨w3, hw3⟩ : ∃ X, X = wr.drewN nq := ⟨_, rfl⟩
                            rw [← hw3] at HN ⊢
                            clear hw3 hle2z
                            have ju0 : (0 : Int) ≤ (ju : Int) := by omega
                            have ju1 : (ju : Int) < (n : Int) := by omega
                            have cju := HN.out.cell ju (by omega)
                            obtain ⟨u, hu⟩ : ∃ u, u = (dk)[ju]! := ⟨_, rfl⟩
                            rw [← hu] at cju
                            obtain ⟨aa, haa⟩ : ∃ aa : Nat, aa = a := ⟨_, rfl⟩
                            have eaa : (a : Int) = (aa : Int) := by omega
                            have waa : IntKind.i64.wrap (aa : Int) = (aa : Int) := by rw [IntKind.wrap_i64]; omega
                            have aa0 : (0 : Int) ≤ (aa : Int) := by omega
                            have aa1 : (aa : Int) < (n : Int) := by omega
                            have caa := HN.out.cell aa (by omega)
                            obtain ⟨z, hz⟩ : ∃ z, z = (dk)[aa]! := ⟨_, rfl⟩
                            rw [← hz] at caa
                            have HPQ := Lib.hid (And.intro (And.intro (Eq.refl ju) hu) (And.intro haa hz))
                            have fz := HN.out.frz
                            clear hu hz haa 
                            have HS := Lib.hid (HN.out.swapL HPQ.out (by omega) (by omega))
                            by_cases hpq : ju = aa
                            · subst hpq
                              obtain rfl : u = z := by have h1 := cju.symm.trans caa; injection h1 with h1; injection h1
                              go_region
                              go_wp2
                              go_ret2
                              have e := part_break ltInt a i j dk hi2.out hj2.out (by omega)
                              rw [PF.out, ← AE.out, e]
                              exact ⟨rfl, HS.out _⟩
                            · have hqp : ¬ aa = ju := fun e => hpq e.symm
                              go_region
                              go_wp2
                              go_ret2
                              have e := part_break ltInt a i j dk hi2.out hj2.out (by omega)
                              rw [PF.out, ← AE.out, e]
                              exact ⟨rfl, HS.out _⟩
                    · have hlez : decide ((iu : Int) ≤ (j : Int)) = false := decide_eq_false (by omega)
                      have hi2 : Hid (iu = Sort.scanUp (fun x => ltInt x dk[a]!) dk j i) := Lib.hid ((scanUp_end (fun x => ltInt x dk[a]!) dk j iu (Or.inl hle)).symm.trans hsc.out)
                      clear H
                      go_wp2_with fail
                      go_quiet ((go_at_call 117; exact Calls.quiet_of_same (less_u _ _ _)))
                      have HN := Lib.hid (HD.out.drewN nq)
                      clear hsc HD
                      go_wp2
                      go_loopw [11] (fun vj w2 => ∃ (ju : Nat), vj = .int .i64 (ju : Int) ∧ ju ≤ j ∧ iu ≤ ju + 1 ∧ AtO g n w0 dk w2 ∧ Hid (Sort.scanDown (fun x => !ltInt x dk[a]!) dk iu ju = Sort.scanDown (fun x => !ltInt x dk[a]!) dk iu j)) (fun vj _ => (intOf vj).toNat)
                      case atStart => exact ⟨j, rfl, Nat.le_refl _, hij', HN.out, Lib.hid rfl⟩
                      case round =>
                        clear HN
                        obtain ⟨ju, rfl, hjj, hij2, H, hsd⟩ := hrel
                        have HD := Lib.hid H
                        by_cases hle2 : iu ≤ ju
                        · exfalso; omega
                        · have hle2z : decide ((iu : Int) ≤ (ju : Int)) = false := decide_eq_false (by omega)
                          have hj2 : Hid (ju = Sort.scanDown (fun x => !ltInt x dk[a]!) dk iu j) := Lib.hid ((scanDown_end (fun x => !ltInt x dk[a]!) dk iu ju (Or.inl hle2)).symm.trans hsd.out)
                          have hgt : (ju : Int) < (iu : Int) := by omega
                          clear hsd H
                          go_wp2_with fail
                          go_quiet ((go_at_call 117; exact Calls.quiet_of_same (less_u _ _ _)))
                          have HN := Lib.hid (HD.out.drewN nq)
                          go_upto_region 21 with fail
                          obtain ⟨w3, hw3⟩ : ∃ X, X = wr.drewN nq := ⟨_, rfl⟩
                          rw [← hw3] at HN ⊢
                          clear hw3 hle2z
                          have ju0 : (0 : Int) ≤ (ju : Int) := by omega
                          have ju1 : (ju : Int) < (n : Int) := by omega
                          have cju := HN.out.cell ju (by omega)
                          obtain ⟨u, hu⟩ : ∃ u, u = (dk)[ju]! := ⟨_, rfl⟩
                          rw [← hu] at cju
                          obtain ⟨aa, haa⟩ : ∃ aa : Nat, aa = a := ⟨_, rfl⟩
                          have eaa : (a : Int) = (aa : Int) := by omega
                          have waa : IntKind.i64.wrap (aa : Int) = (aa : Int) := by rw [IntKind.wrap_i64]; omega
                          have aa0 : (0 : Int) ≤ (aa : Int) := by omega
                          have aa1 : (aa : Int) < (n : Int) := by omega
                          have caa := HN.out.cell aa (by omega)
                          obtain ⟨z, hz⟩ : ∃ z, z = (dk)[aa]! := ⟨_, rfl⟩
                          rw [← hz] at caa
                          have HPQ := Lib.hid (And.intro (And.intro (Eq.refl ju) hu) (And.intro haa hz))
                          have fz := HN.out.frz
                          clear hu hz haa 
                          have HS := Lib.hid (HN.out.swapL HPQ.out (by omega) (by omega))
                          by_cases hpq : ju = aa
                          · subst hpq
                            obtain rfl : u = z := by have h1 := cju.symm.trans caa; injection h1 with h1; injection h1
                            go_region
                            go_wp2
                            go_ret2
                            have e := part_break ltInt a i j dk hi2.out hj2.out (by omega)
                            rw [PF.out, ← AE.out, e]
                            exact ⟨rfl, HS.out _⟩
                          · have hqp : ¬ aa = ju := fun e => hpq e.symm
                            go_region
                            go_wp2
                            go_ret2
                            have e := part_break ltInt a i j dk hi2.out hj2.out (by omega)
                            rw [PF.out, ← AE.out, e]
                            exact ⟨rfl, HS.out _⟩
            · have hle2z : decide ((iu : Int) ≤ (ju : Int)) = false := decide_eq_false (by omega)
              have hj2 : Hid (ju = Sort.scanDown (fun x => !ltInt x dk[a]!) dk iu j) := Lib.hid ((scanDown_end (fun x => !ltInt x dk[a]!) dk iu ju (Or.inl hle2)).symm.trans hsd.out)
              have hgt : (ju : Int) < (iu : Int) := by omega
              clear hsd H
              go_wp2_with fail
              go_quiet ((go_at_call 117; exact Calls.quiet_of_same (less_u _ _ _)))
              have HN := Lib.hid (HD.out.drewN nq)
              go_upto_region 8 with fail
              obtain ⟨w3, hw3⟩ : ∃ X, X = wr.drewN nq := ⟨_, rfl⟩
              rw [← hw3] at HN ⊢
              clear hw3 hle2z
              have ju0 : (0 : Int) ≤ (ju : Int) := by omega
              have ju1 : (ju : Int) < (n : Int) := by omega
              have cju := HN.out.cell ju (by omega)
              obtain ⟨u, hu⟩ : ∃ u, u = (dk)[ju]! := ⟨_, rfl⟩
              rw [← hu] at cju
              obtain ⟨aa, haa⟩ : ∃ aa : Nat, aa = a := ⟨_, rfl⟩
              have eaa : (a : Int) = (aa : Int) := by omega
              have waa : IntKind.i64.wrap (aa : Int) = (aa : Int) := by rw [IntKind.wrap_i64]; omega
              have aa0 : (0 : Int) ≤ (aa : Int) := by omega
              have aa1 : (aa : Int) < (n : Int) := by omega
              have caa := HN.out.cell aa (by omega)
              obtain ⟨z, hz⟩ : ∃ z, z = (dk)[aa]! := ⟨_, rfl⟩
              rw [← hz] at caa
              have HPQ := Lib.hid (And.intro (And.intro (Eq.refl ju) hu) (And.intro haa hz))
              have fz := HN.out.frz
              clear hu hz haa 
              have HS := Lib.hid (HN.out.swapL HPQ.out (by omega) (by omega))
              by_cases hpq : ju = aa
              · subst hpq
                obtain rfl : u = z := by have h1 := cju.symm.trans caa; injection h1 with h1; injection h1
                go_region
                go_wp2
                go_ret2
                have e := part_first_break ltInt d a b pivot Hi.out Hj.out Hdk.out hi2.out hj2.out (by omega)
                rw [e]
                exact ⟨rfl, HS.out _⟩
              · have hqp : ¬ aa = ju := fun e => hpq e.symm
                go_region
                go_wp2
                go_ret2
                have e := part_first_break ltInt d a b pivot Hi.out Hj.out Hdk.out hi2.out hj2.out (by omega)
                rw [e]
                exact ⟨rfl, HS.out _⟩
      · have hlez : decide ((iu : Int) ≤ (j : Int)) = false := decide_eq_false (by omega)
        have hi2 : Hid (iu = Sort.scanUp (fun x => ltInt x dk[a]!) dk j i) := Lib.hid ((scanUp_end (fun x => ltInt x dk[a]!) dk j iu (Or.inl hle)).symm.trans hsc.out)
        clear H
        go_wp2_with fail
        go_quiet ((go_at_call 117; exact Calls.quiet_of_same (less_u _ _ _)))
        have HN := Lib.hid (HD.out.drewN nq)
        clear hsc HD
        go_wp2
        go_loopw [11] (fun vj w2 => ∃ (ju : Nat), vj = .int .i64 (ju : Int) ∧ ju ≤ j ∧ iu ≤ ju + 1 ∧ AtO g n w0 dk w2 ∧ Hid (Sort.scanDown (fun x => !ltInt x dk[a]!) dk iu ju = Sort.scanDown (fun x => !ltInt x dk[a]!) dk iu j)) (fun vj _ => (intOf vj).toNat)
        case atStart => exact ⟨j, rfl, Nat.le_refl _, hij', HN.out, Lib.hid rfl⟩
        case round =>
          clear HN
          obtain ⟨ju, rfl, hjj, hij2, H, hsd⟩ := hrel
          have HD := Lib.hid H
          by_cases hle2 : iu ≤ ju
          · exfalso; omega
          · have hle2z : decide ((iu : Int) ≤ (ju : Int)) = false := decide_eq_false (by omega)
            have hj2 : Hid (ju = Sort.scanDown (fun x => !ltInt x dk[a]!) dk iu j) := Lib.hid ((scanDown_end (fun x => !ltInt x dk[a]!) dk iu ju (Or.inl hle2)).symm.trans hsd.out)
            have hgt : (ju : Int) < (iu : Int) := by omega
            clear hsd H
            go_wp2_with fail
            go_quiet ((go_at_call 117; exact Calls.quiet_of_same (less_u _ _ _)))
            have HN := Lib.hid (HD.out.drewN nq)
            go_upto_region 8 with fail
            obtain ⟨w3, hw3⟩ : ∃ X, X = wr.drewN nq := ⟨_, rfl⟩
            rw [← hw3] at HN ⊢
            clear hw3 hle2z
            have ju0 : (0 : Int) ≤ (ju : Int) := by omega
            have ju1 : (ju : Int) < (n : Int) := by omega
            have cju := HN.out.cell ju (by omega)
            obtain ⟨u, hu⟩ : ∃ u, u = (dk)[ju]! := ⟨_, rfl⟩
            rw [← hu] at cju
            obtain ⟨aa, haa⟩ : ∃ aa : Nat, aa = a := ⟨_, rfl⟩
            have eaa : (a : Int) = (aa : Int) := by omega
            have waa : IntKind.i64.wrap (aa : Int) = (aa : Int) := by rw [IntKind.wrap_i64]; omega
            have aa0 : (0 : Int) ≤ (aa : Int) := by omega
            have aa1 : (aa : Int) < (n : Int) := by omega
            have caa := HN.out.cell aa (by omega)
            obtain ⟨z, hz⟩ : ∃ z, z = (dk)[aa]! := ⟨_, rfl⟩
            rw [← hz] at caa
            have HPQ := Lib.hid (And.intro (And.intro (Eq.refl ju) hu) (And.intro haa hz))
            have fz := HN.out.frz
            clear hu hz haa 
            have HS := Lib.hid (HN.out.swapL HPQ.out (by omega) (by omega))
            by_cases hpq : ju = aa
            · subst hpq
              obtain rfl : u = z := by have h1 := cju.symm.trans caa; injection h1 with h1; injection h1
              go_region
              go_wp2
              go_ret2
              have e := part_first_break ltInt d a b pivot Hi.out Hj.out Hdk.out hi2.out hj2.out (by omega)
              rw [e]
              exact ⟨rfl, HS.out _⟩
            · have hqp : ¬ aa = ju := fun e => hpq e.symm
              go_region
              go_wp2
              go_ret2
              have e := part_first_break ltInt d a b pivot Hi.out Hj.out Hdk.out hi2.out hj2.out (by omega)
              rw [e]
              exact ⟨rfl, HS.out _⟩
end Go.Proofs.YtpkkomifenlkaaaGreat.So
/- pdqsort -/
namespace Go.Proofs.YtpkkomifenlkaaaGreat.So
open Go Go.RowKit Go.Sort Go.Proofs Go.Lib
set_option linter.unusedVariables false

set_option maxHeartbeats 25600000 in
set_option maxRecDepth 20000 in
theorem pdq_all (g n cap : Nat) (hn : n < 4611686018427387904) (w0 : World) :
    ∀ (N a b limit : Nat) (d : Array Int) (w : World), b - a < N → AtO g n w0 d w → a ≤ b → b ≤ n → limit < 4611686018427387904 → Go.Sort.Below ltInt a b d →
    Calls Tryz.prog 74 #[.slice (some ⟨g, 0, none⟩) n cap, .int .i64 (a : Int), .int .i64 (b : Int), .int .i64 (limit : Int)] w fun e w' => e = .returned (.tuple #[]) ∧ AtO g n w0 (Sort.pdq ltInt d a b limit true true) w' := by
  have hO := swo_ltInt
  intro N
  induction N with
  | zero => intro _ _ _ _ _ h; exact absurd h (Nat.not_lt_zero _)
  | succ N ih =>
    intro a b limit d w hN hT hab hb hlimit hBel0
    have H0 := Lib.hid hT
    have IH := Lib.hid ih
    have HBel0 := Lib.hid hBel0
    clear ih hT hBel0
    go_enter Tryz.func74, Tryz.ntmps74
    go_wp2
    go_loopg [1, 2, 3, 8, 9] (b - a) (fun kx s1 s2 s3 s8 s9 wr => ∃ (a' b' lim : Nat) (wb wp : Bool) (dk : Array Int), s1 = .int .i64 (a' : Int) ∧ s2 = .int .i64 (b' : Int) ∧ s3 = .int .i64 (lim : Int) ∧ s8 = .bool wb ∧ s9 = .bool wp ∧
      a' ≤ b' ∧ b' ≤ n ∧ b' - a' ≤ kx ∧ kx ≤ b - a ∧ lim ≤ limit ∧ Hid (Go.Sort.Below ltInt a' b' dk) ∧ AtO g n w0 (dk) wr ∧ Hid (Sort.pdq ltInt dk a' b' lim wb wp = Sort.pdq ltInt d a b limit true true))
    case atStart => exact ⟨a, b, limit, true, true, d, rfl, rfl, rfl, rfl, rfl, hab, hb, Nat.le_refl _, Nat.le_refl _, Nat.le_refl _, HBel0, H0.out, Lib.hid rfl⟩
    case round =>
      clear H0 HBel0
      obtain ⟨a', b', lim, wb, wp, dk, rfl, rfl, rfl, rfl, rfl, hab', hb', hkx, hkN, hlim, hBel, h, A⟩ := hrel
      have hds' : dk.size = n := h.sz
      have H := Lib.hid h
      clear h
      by_cases h12 : b' - a' ≤ 12
      · have h12z : (b' : Int) - (a' : Int) ≤ 12 := by omega
        go_wp2_with fail
        refine (ins_any g n cap hn a' b' hab' hb' dk w0 wr H.out).mono ?_
        rintro _ w9 ⟨rfl, hh⟩
        have H1 := Lib.hid hh
        clear hh
        go_wp2
        (try simp only [Exit.inBlock, Exit.then]); refine bodyPost_ret (results_none rfl _ _ _) rfl ?_
        refine ⟨rfl, ?_⟩
        rw [← A.out, pdq_small h12]
        exact H1.out
      · have h12z : ¬ ((b' : Int) - (a' : Int) ≤ 12) := by omega
        by_cases hl0 : lim = 0
        · subst hl0
          have hl0z : ((0 : Nat) : Int) = 0 := rfl
          go_wp2_with fail
          refine (heap_any g n cap hn a' b' hab' hb' dk w0 wr H.out).mono ?_
          rintro _ w9 ⟨rfl, hh⟩
          have H1 := Lib.hid hh
          clear hh
          go_wp2
          (try simp only [Exit.inBlock, Exit.then]); refine bodyPost_ret (results_none rfl _ _ _) rfl ?_
          refine ⟨rfl, ?_⟩
          rw [← A.out, pdq_heap h12 rfl]
          exact H1.out
        · have hl0z : ¬ ((lim : Int) = 0) := by omega
          obtain ⟨s1, B1, hc1, s2, B2, hpv, s3, B3⟩ := rd_facts (lt := ltInt) (limit := lim) (wb := wb) (wp := wp) hO partialInsertionSort_holds reverseRange_holds (show a' < b' by omega) (show b' ≤ dk.size by omega) hBel.out
          have HB3 := Lib.hid B3
          clear B1 B2 B3
          go_upto_if 35 with fail
          go_cut [3] from 19 (fun s3 wc => s3 = .int .i64 ((rd ltInt dk a' b' lim wb wp).lim : Int) ∧ AtO g n w0 ((rd ltInt dk a' b' lim wb wp).d1) wc)
          case first =>
            cases wb
            · have ell : (lim : Int) - 1 = ((lim - 1 : Nat) : Int) := by omega
              go_wp2_with fail
              refine (brk_any g n cap hn a' b' hab' hb' dk w0 wr H.out).mono ?_
              rintro _ w9 ⟨rfl, hh⟩
              have H1 := Lib.hid hh
              clear hh
              go_wp2
              go_meet
              case rel => exact ⟨by first | rfl | (show Value.int .i64 _ = Value.int .i64 ((lim - 1 : Nat) : Int); congr 1), by rw [rd_false.1]; exact H1.out⟩
            · go_wp2_with fail
              go_meet
              case rel => exact ⟨rfl, by rw [rd_true.1]; exact H.out⟩
          case rest =>
            obtain ⟨rfl, h1⟩ := hcut
            have H1 := Lib.hid h1
            clear h1 H
            go_wp2_with fail
            refine (piv_any g n cap hn a' b' (by omega) hb' (rd ltInt dk a' b' lim wb wp).d1 w0 wc H1.out).mono ?_
            rintro _ w2 ⟨rfl, h2⟩
            have H2 := Lib.hid h2
            clear h2 H1
            rw [show choosePivot ltInt (rd ltInt dk a' b' lim wb wp).d1 a' b' = (rd ltInt dk a' b' lim wb wp).c from rfl]
            go_upto_if 50 with fail
            go_cut [11, 12] from 19 (fun s11 s12 wc => s11 = .int .i64 ((rd ltInt dk a' b' lim wb wp).pivot : Int) ∧ s12 = .int .i64 (hintCode (rd ltInt dk a' b' lim wb wp).hint) ∧ AtO g n w0 ((rd ltInt dk a' b' lim wb wp).d2) wc)
            case first =>
              by_cases hh : (rd ltInt dk a' b' lim wb wp).c.2 = .decreasing
              · have hcode : hintCode (rd ltInt dk a' b' lim wb wp).c.2 = 2 := by rw [hh]; rfl
                obtain ⟨e2, epv, eht⟩ := rd_dec hh
                go_wp2_with fail
                refine (rev_any g n cap hn a' b' hab' hb' (rd ltInt dk a' b' lim wb wp).d1 w0 w2 H2.out).mono ?_
                rintro _ w9 ⟨rfl, hh⟩
                have H3 := Lib.hid hh
                clear hh
                go_wp2
                go_meet
                case rel =>
                  refine ⟨?_, by rw [eht]; rfl, by rw [e2]; exact H3.out⟩
                  rw [epv]
                  congr 1
                  omega
              · have hcode : ¬ (hintCode (rd ltInt dk a' b' lim wb wp).c.2 = 2) := fun h => hh (hintCode_two h)
                obtain ⟨e2, epv, eht⟩ := rd_not hh
                go_wp2_with fail
                go_meet
                case rel => exact ⟨by rw [epv], by rw [eht], by rw [e2]; exact H2.out⟩
            case rest =>
              obtain ⟨rfl, rfl, h3⟩ := hcut
              have H3 := Lib.hid h3
              clear h3 H2
              go_upto_region 15 with fail
              go_cut [12, 68] from 19 (fun s12 s68 wx => s12 = .int .i64 (hintCode (rd ltInt dk a' b' lim wb wp).hint) ∧ s68 = .bool (wb && wp && decide ((rd ltInt dk a' b' lim wb wp).hint = .increasing)) ∧ wx = wc)
              case first =>
                cases wb <;> cases wp <;> cases hh3 : (rd ltInt dk a' b' lim _ _).hint <;>
                  (have hcode3 := congrArg hintCode hh3
                   simp only [hintCode] at hcode3
                   go_wp2_with fail
                   go_meet
                   exact ⟨by simp [hh3, hintCode], by simp [hh3, hintCode], rfl⟩)
              case rest =>
                obtain ⟨rfl, rfl, rfl⟩ := hcut
                go_upto_if 68 with fail
                go_cut [] from 19 (fun wx => (rd ltInt dk a' b' lim wb wp).pi.2 = false ∧ AtO g n w0 ((rd ltInt dk a' b' lim wb wp).pi.1) wx)
                case first =>
                  cases h68 : (wb && wp && decide ((rd ltInt dk a' b' lim wb wp).hint = .increasing))
                  · have epi := rd_pi_no h68
                    go_wp2_with fail
                    go_meet
                    case rel => exact ⟨by rw [epi], by rw [epi]; exact H3.out⟩
                  · have epi := rd_pi_yes h68
                    have hc19 := par_any g n cap hn a' b' (by omega) hb' (rd ltInt dk a' b' lim wb wp).d2 w0 wc H3.out
                    rw [← epi] at hc19
                    have HC19 := Lib.hid hc19
                    clear hc19
                    go_wp2_with fail
                    refine HC19.out.mono ?_
                    rintro _ w4 ⟨rfl, h4⟩
                    have H4 := Lib.hid h4
                    clear h4 HC19
                    cases hp2 : (rd ltInt dk a' b' lim wb wp).pi.2 with
                    | false =>
                      go_wp2
                      go_meet
                      exact ⟨hp2, H4.out⟩
                    | true =>
                      go_wp2
                      (try simp only [Exit.inBlock, Exit.then]); refine bodyPost_ret (results_none rfl _ _ _) rfl ?_
                      refine ⟨rfl, ?_⟩
                      rw [← A.out, pdq_done h12 hl0 hp2]
                      exact H4.out
                case rest =>
                  obtain ⟨hp2, h5⟩ := hcut
                  have H5 := Lib.hid h5
                  have HP2 := Lib.hid hp2
                  clear h5 H3 hp2
                  obtain ⟨pv, hpv2⟩ : ∃ pv, pv = (rd ltInt dk a' b' lim wb wp).pivot := ⟨_, rfl⟩
                  obtain ⟨dp, hdp⟩ : ∃ dp, dp = (rd ltInt dk a' b' lim wb wp).pi.1 := ⟨_, rfl⟩
                  have hpvb : pv < n := by omega
                  rw [← hpv2]
                  rw [← hdp] at H5
                  have HV2 := Lib.hid hpv2
                  have HDP := Lib.hid hdp
                  clear hpv2 hdp
                  go_upto_region 17 with fail
                  go_cut [87] from 19 (fun s83 wx => s83 = .bool (decide (a' > 0) && !ltInt dp[a' - 1]! dp[pv]!) ∧ AtO g n w0 (dp) wx)
                  case first =>
                    clear HV2 HDP HB3
                    rcases Nat.eq_zero_or_pos a' with ha0 | ha0
                    · have ha0z : decide ((0 : Int) < (a' : Int)) = false := decide_eq_false (by omega)
                      go_wp2_with fail
                      go_quiet ((go_at_call 117; exact Calls.quiet_of_same (less_u _ _ _)))
                      go_wp2
                      go_meet
                      case rel => exact ⟨by simp [ha0], H5.out.drewN _⟩
                    · have ha0z : (0 : Int) < (a' : Int) := by omega
                      cases hlv : ltInt dp[a' - 1]! dp[pv]! with
                      | false =>
                        have HV := Lib.hid hlv
                        obtain ⟨q, hq⟩ : ∃ q : Nat, q = a' - 1 := ⟨_, rfl⟩
                        have eq : (a' : Int) - 1 = (q : Int) := by omega
                        have wq : IntKind.i64.wrap (q : Int) = (q : Int) := by rw [IntKind.wrap_i64]; omega
                        have q0 : (0 : Int) ≤ (q : Int) := by omega
                        have q1 : (q : Int) < (n : Int) := by omega
                        have cq := H5.out.cell q (by omega)
                        obtain ⟨x, hx⟩ : ∃ x, x = (dp)[q]! := ⟨_, rfl⟩
                        rw [← hx] at cq
                        have pv0 : (0 : Int) ≤ (pv : Int) := by omega
                        have pv1 : (pv : Int) < (n : Int) := by omega
                        have cpv := H5.out.cell pv (by omega)
                        obtain ⟨y, hy⟩ : ∃ y, y = (dp)[pv]! := ⟨_, rfl⟩
                        rw [← hy] at cpv
                        have HPQ := Lib.hid (And.intro (And.intro hq hx) (And.intro (Eq.refl pv) hy))
                        have fz := H5.out.frz
                        have hl : ltInt x y = false := by rw [hx, hq, hy]; exact hlv
                        clear hx hy hq hlv
                        go_wp2_with fail
                        go_quiet ((go_at_call 117; exact Calls.quiet_of_same (less_u _ _ _)))
                        have H6 := Lib.hid (H5.out.drewN nq)
                        go_wp2
                        go_meet
                        exact ⟨by rw [HV.out]; simp [ha0], H6.out⟩
                      | true =>
                        have HV := Lib.hid hlv
                        obtain ⟨q, hq⟩ : ∃ q : Nat, q = a' - 1 := ⟨_, rfl⟩
                        have eq : (a' : Int) - 1 = (q : Int) := by omega
                        have wq : IntKind.i64.wrap (q : Int) = (q : Int) := by rw [IntKind.wrap_i64]; omega
                        have q0 : (0 : Int) ≤ (q : Int) := by omega
                        have q1 : (q : Int) < (n : Int) := by omega
                        have cq := H5.out.cell q (by omega)
                        obtain ⟨x, hx⟩ : ∃ x, x = (dp)[q]! := ⟨_, rfl⟩
                        rw [← hx] at cq
                        have pv0 : (0 : Int) ≤ (pv : Int) := by omega
                        have pv1 : (pv : Int) < (n : Int) := by omega
                        have cpv := H5.out.cell pv (by omega)
                        obtain ⟨y, hy⟩ : ∃ y, y = (dp)[pv]! := ⟨_, rfl⟩
                        rw [← hy] at cpv
                        have HPQ := Lib.hid (And.intro (And.intro hq hx) (And.intro (Eq.refl pv) hy))
                        have fz := H5.out.frz
                        have hl : ltInt x y = true := by rw [hx, hq, hy]; exact hlv
                        clear hx hy hq hlv
                        go_wp2_with fail
                        go_quiet ((go_at_call 117; exact Calls.quiet_of_same (less_u _ _ _)))
                        have H6 := Lib.hid (H5.out.drewN nq)
                        go_wp2
                        go_meet
                        exact ⟨by rw [HV.out]; simp [ha0], H6.out⟩
                  case rest =>
                    obtain ⟨rfl, h6⟩ := hcut
                    have hpv2 := HV2.out
                    have hdp := HDP.out
                    clear HV2 HDP
                    subst hpv2 hdp
                    have H6 := Lib.hid h6
                    clear h6 H5
                    have hp2 := HP2.out
                    have hs6 := H6.out.sz
                    cases h87 : (decide (a' > 0) && !ltInt (rd ltInt dk a' b' lim wb wp).pi.1[a' - 1]! (rd ltInt dk a' b' lim wb wp).pi.1[(rd ltInt dk a' b' lim wb wp).pivot]!)
                    · obtain ⟨mid, ap, d4, hx⟩ : ∃ mid ap d4, Sort.partition ltInt (rd ltInt dk a' b' lim wb wp).pi.1 a' b' (rd ltInt dk a' b' lim wb wp).pivot = (mid, ap, d4) := ⟨_, _, _, rfl⟩
                      obtain ⟨r1, r2, r3, r4, r5, r6, r7⟩ := round_part hO (partition_holds ltInt) hpv.1 hpv.2 (show b' ≤ (rd ltInt dk a' b' lim wb wp).pi.1.size by omega) HB3.out hx
                      have hc22 := part_any g n cap hn a' b' (rd ltInt dk a' b' lim wb wp).pivot hpv.1 hpv.2 hb' (rd ltInt dk a' b' lim wb wp).pi.1 w0 wc H6.out
                      rw [hx] at hc22
                      have X := Lib.hid hx
                      have R6 := Lib.hid r6; have R7 := Lib.hid r7; have R4 := Lib.hid r4; have R5 := Lib.hid r5
                      have HC := Lib.hid hc22
                      have HP3 := Lib.hid hp2
                      clear hx r6 r7 r4 r5 hc22 hp2
                      go_wp2_with fail
                      refine HC.out.mono ?_
                      rintro _ w7 ⟨rfl, h7⟩
                      have H7 := Lib.hid h7
                      clear h7 H6 HC
                      go_upto_if 113 with fail
                      have hx := X.out
                      have hp2 := HP3.out
                      by_cases h4 : mid - a' < b' - mid
                      · have h4z : (mid : Int) - (a' : Int) < (b' : Int) - (mid : Int) := by omega
                        have HIH := Lib.hid (IH.out a' mid (rd ltInt dk a' b' lim wb wp).lim d4 w7 (by omega) H7.out (by omega) (by omega) (Nat.lt_of_le_of_lt (Nat.le_trans rd_lim_le hlim) hlimit) R4.out)
                        obtain ⟨pL, sL⟩ := pdq_sorts ltInt hO d4 a' mid (rd ltInt dk a' b' lim wb wp).lim true true (by omega) (by have := H7.out.sz; omega) R4.out
                        have PL := Lib.hid pL; have SL := Lib.hid sL
                        have HXX := Lib.hid hx
                        clear pL sL hx hp2
                        go_wp2_with fail
                        refine HIH.out.mono ?_
                        rintro _ w8 ⟨rfl, h8⟩
                        have H8 := Lib.hid h8
                        clear h8 HIH
                        go_wp2
                        go_roundg (b' - (mid + 1))
                        case measure => omega
                        case rel =>
                          have hx := HXX.out
                          have hp2 := HP3.out
                          refine ⟨mid + 1, b', (rd ltInt dk a' b' lim wb wp).lim, decide (mid - a' ≥ (b' - a') / 8), ap, Sort.pdq ltInt d4 a' mid (rd ltInt dk a' b' lim wb wp).lim true true, by go_num, rfl, rfl, ?_, rfl, by omega, by omega, Nat.le_refl _, by omega, Nat.le_trans rd_lim_le hlim, Lib.hid (R6.out _ PL.out SL.out).1, H8.out, Lib.hid ?_⟩
                          · exact congrArg Value.bool (eighth (by omega) (by omega))
                          · rw [← A.out, pdq_left h12 hl0 hp2 h87 (by rw [hx]; exact ⟨r1, r2⟩) (by rw [hx]; exact h4), hx]
                      · have h4z : ¬ ((mid : Int) - (a' : Int) < (b' : Int) - (mid : Int)) := by omega
                        have hih := IH.out (mid + 1) b' (rd ltInt dk a' b' lim wb wp).lim d4 w7 (by omega) H7.out (by omega) (by omega) (Nat.lt_of_le_of_lt (Nat.le_trans rd_lim_le hlim) hlimit) R5.out
                        rw [show ((mid + 1 : Nat) : Int) = (mid : Int) + 1 by omega] at hih
                        have HIH := Lib.hid hih
                        obtain ⟨pL, sL⟩ := pdq_sorts ltInt hO d4 (mid + 1) b' (rd ltInt dk a' b' lim wb wp).lim true true (by omega) (by have := H7.out.sz; omega) R5.out
                        have PL := Lib.hid pL; have SL := Lib.hid sL
                        have HXX := Lib.hid hx
                        clear pL sL hih hx hp2
                        go_wp2_with fail
                        refine HIH.out.mono ?_
                        rintro _ w8 ⟨rfl, h8⟩
                        have H8 := Lib.hid h8
                        clear h8 HIH
                        go_wp2
                        go_roundg (mid - a')
                        case measure => omega
                        case rel =>
                          have hx := HXX.out
                          have hp2 := HP3.out
                          refine ⟨a', mid, (rd ltInt dk a' b' lim wb wp).lim, decide (b' - mid ≥ (b' - a') / 8), ap, Sort.pdq ltInt d4 (mid + 1) b' (rd ltInt dk a' b' lim wb wp).lim true true, rfl, rfl, rfl, ?_, rfl, by omega, by omega, Nat.le_refl _, by omega, Nat.le_trans rd_lim_le hlim, Lib.hid (R7.out _ PL.out SL.out).1, H8.out, Lib.hid ?_⟩
                          · exact congrArg Value.bool (eighth (by omega) (by omega))
                          · rw [← A.out, pdq_right h12 hl0 hp2 h87 (by rw [hx]; exact ⟨r1, r2⟩) (by rw [hx]; exact h4), hx]
                    · have h87' := h87
                      simp only [Bool.and_eq_true, decide_eq_true_eq, Bool.not_eq_true'] at h87'
                      obtain ⟨mid, d4, hx⟩ : ∃ mid d4, Sort.partitionEqual ltInt (rd ltInt dk a' b' lim wb wp).pi.1 a' b' (rd ltInt dk a' b' lim wb wp).pivot = (mid, d4) := ⟨_, _, rfl⟩
                      obtain ⟨r1, r2, r3, r4, _⟩ := round_eq hO (partitionEqual_holds ltInt) h87'.1 hpv.1 hpv.2 (show b' ≤ (rd ltInt dk a' b' lim wb wp).pi.1.size by omega) HB3.out h87'.2 hx
                      have hc21 := peq_any g n cap hn a' b' (rd ltInt dk a' b' lim wb wp).pivot hpv.1 hpv.2 hb' (rd ltInt dk a' b' lim wb wp).pi.1 w0 wc H6.out
                      rw [hx] at hc21
                      have X := Lib.hid hx
                      have R4 := Lib.hid r4
                      have HC := Lib.hid hc21
                      have HP3 := Lib.hid hp2
                      clear hx r4 h87' hc21 hp2
                      go_wp2_with fail
                      refine HC.out.mono ?_
                      rintro _ w7 ⟨rfl, h7⟩
                      have H7 := Lib.hid h7
                      clear h7 H6 HC
                      go_wp2
                      go_roundg (b' - mid)
                      case measure => omega
                      case rel =>
                        have hx := X.out
                        have hp2 := HP3.out
                        exact ⟨mid, b', (rd ltInt dk a' b' lim wb wp).lim, wb, wp, d4, rfl, rfl, rfl, rfl, rfl, r2, hb', Nat.le_refl _, by omega, Nat.le_trans rd_lim_le hlim, R4, H7.out, Lib.hid (by rw [← A.out, pdq_eq h12 hl0 hp2 h87 (by rw [hx]; exact ⟨r1, r2⟩), hx])⟩
end Go.Proofs.YtpkkomifenlkaaaGreat.So
/- Sorting no numbers. -/
namespace Go.Proofs.YtpkkomifenlkaaaGreat.Au
open Go Go.RowKit
set_option linter.unusedVariables false

theorem ins_nil (A : Option Addr) (cap : Nat) (V : World) : Calls Tryz.prog 111 #[.slice A 0 cap, .int .i64 0, .int .i64 0] V fun e w' => e = .returned (.tuple #[]) ∧ w' = V := by
  go_enter Tryz.func111, Tryz.ntmps111
  go_wp2
  refine wp_loop_rounds 1 ?_
  rw [rounds_succ]
  go_wp2
  exact bodyPost_end (results_none Tryz.results111 _ _ _) rfl ⟨rfl, rfl⟩
theorem pdq_nil (A : Option Addr) (cap : Nat) (n : Int) (V : World) : Calls Tryz.prog 74 #[.slice A 0 cap, .int .i64 0, .int .i64 0, .int .i64 n] V fun e w' => e = .returned (.tuple #[]) ∧ w' = V := by
  go_enter Tryz.func74, Tryz.ntmps74
  go_wp2
  refine wp_loop_rounds 1 ?_
  rw [rounds_succ]
  go_wp2_with fail
  refine (ins_nil _ _ _).mono ?_
  rintro _ _ ⟨rfl, rfl⟩
  go_wp2
  refine bodyPost_ret (results_none Tryz.results74 _ _ _) rfl ?_
  exact ⟨rfl, rfl⟩
set_option maxRecDepth 20000 in
theorem len64_nil (V : World) : Calls Tryz.prog 102 #[.int .u64 0] V fun e w' => e = .returned (.int .i64 0) ∧ w' = V := by
  go_enter Tryz.func102, Tryz.ntmps102
  go_wp2
  go_ret
  have l8 : Lib.len8 0 = 0 := by kernel_rfl
  have w8 : wrap64 0 = 0 := by unfold wrap64; omega
  rw [l8, w8, w8]
  exact ⟨rfl, rfl⟩
set_option maxRecDepth 20000 in
theorem len_nil (V : World) : Calls Tryz.prog 72 #[.int .u64 0] V fun e w' => e = .returned (.int .i64 0) ∧ w' = V := by
  go_enter Tryz.func72, Tryz.ntmps72
  go_wp2_with fail
  refine (len64_nil _).mono ?_
  rintro _ _ ⟨rfl, rfl⟩
  go_wp2
  go_ret
  exact ⟨rfl, rfl⟩
theorem sort_nil (A : Option Addr) (cap : Nat) (V : World) : Calls Tryz.prog 53 #[.slice A 0 cap] V fun e w' => e = .returned (.tuple #[]) ∧ w' = V := by
  go_enter Tryz.func53, Tryz.ntmps53
  go_wp2_with fail
  refine (len_nil _).mono ?_
  rintro _ _ ⟨rfl, rfl⟩
  go_wp2_with fail
  refine (pdq_nil _ _ _ _).mono ?_
  rintro _ _ ⟨rfl, rfl⟩
  go_wp2
  exact bodyPost_end (results_none Tryz.results53 _ _ _) rfl ⟨rfl, rfl⟩
theorem sortU_nil : SortU 0 := fun V base A n cap l hl hn hown => by
  obtain rfl : n = 0 := by omega
  obtain rfl := List.length_eq_zero_iff.1 hl
  refine (sort_nil A cap V).mono ?_
  rintro e w' ⟨rfl, rfl⟩
  exact ⟨rfl, [], List.Perm.refl _, List.Pairwise.nil, hown, ⟨rfl, rfl, rfl, Nat.le_refl _, fun _ _ _ => rfl⟩⟩
end Go.Proofs.YtpkkomifenlkaaaGreat.Au
/- slices.Sort of a row of numbers, whatever length -/
namespace Go.Proofs.YtpkkomifenlkaaaGreat.So
open Go Go.RowKit Go.Sort
set_option linter.unusedVariables false

set_option maxRecDepth 20000 in
theorem sort_any (g n cap : Nat) (hn : n < 4611686018427387904) (d : Array Int) (w0 w : World) (H0 : AtO g n w0 d w) :
    Calls Tryz.prog 53 #[.slice (some ⟨g, 0, none⟩) n cap] w fun e w' => e = .returned (.tuple #[]) ∧ ∃ d', PermIn 0 n d d' ∧ SortedIn ltInt 0 n d' ∧ AtO g n w0 d' w' := by
  have wr : IntKind.u64.wrap (n : Int) = n := by simp [IntKind.wrap, IntKind.bits, IntKind.signed]; omega
  have hlim : bitsLen n < 4611686018427387904 := Nat.lt_of_le_of_lt ((bitsLen_le_iff n 62).2 (by omega)) (by omega)
  have HL := Lib.hid (blen n hn)
  have HP := Lib.hid (pdq_all g n cap hn w0 (n + 1) 0 n (bitsLen n) d w (by omega) H0 (Nat.zero_le _) (Nat.le_refl _) hlim (Or.inl rfl))
  have hsort := pdq_sorts ltInt swo_ltInt d 0 d.size (bitsLen n) true true (Nat.zero_le _) (Nat.le_refl _) (Or.inl rfl)
  rw [H0.sz] at hsort
  have HSo := Lib.hid hsort
  clear H0 hsort
  go_enter Tryz.func53, Tryz.ntmps53
  go_wp2_with fail
  refine (HL.out _).mono ?_
  rintro _ _ ⟨rfl, rfl⟩
  go_wp2_with fail
  refine HP.out.mono ?_
  rintro _ w1 ⟨rfl, h1⟩
  have H1 := Lib.hid h1
  clear h1
  go_wp2
  refine bodyPost_end (results_none Tryz.results53 _ _ _) rfl ⟨rfl, _, HSo.out.1, HSo.out.2, H1.out⟩
end Go.Proofs.YtpkkomifenlkaaaGreat.So
namespace Go.Proofs.YtpkkomifenlkaaaGreat.Au
open Go Go.RowKit Go.Sort
theorem take_cell {V : World} {g n : Nat} {c : Array Value} {e : TypeId} (hh : V.heap[g]? = some (.cells c e (0, 0))) {xs : List Value} (h : c.toList.take n = xs) (t : Nat) (ht : t < n) : V.cell? ⟨g, t, none⟩ = xs[t]? := by
  rw [cell_of_row V g t c e (0, 0) hh, ← h, List.getElem?_take, if_pos ht, Array.getElem?_toList]
theorem sortU_all (m : Nat) (hm : m ≤ 1000000) : SortU m := fun V base A n cap l hl hn hown => by
  rcases hown.2 with ⟨hv, h0⟩ | ⟨g, cap', cur, hv, hg, hh, hnc, hcm, hcs, ht⟩
  · subst h0
    exact sortU_nil V base A 0 cap l hl (Nat.le_refl _) hown
  · injection hv with hv1 hv2 hv3
    subst hv1 hv3
    have hs : So.AtO g n V l.toArray V := So.AtO.start (c := cur) (by simpa using hl) hh fun t h => by
      have hlt : t < l.length := by omega
      rw [take_cell hh ht t (by omega)]
      simp only [uc, List.getElem?_map]
      rw [List.getElem?_eq_getElem hlt, getElem!_pos l.toArray t (by simpa using hlt)]
      simp
    refine (So.sort_any g n cap (by omega) l.toArray V V hs).mono ?_
    rintro e w' ⟨rfl, d', hp, hso, hA⟩
    have hsz : d'.size = n := hA.sz
    obtain ⟨c0, c, h1, h2, h3⟩ := hA.shape
    rw [hh] at h1
    injection h1 with h1
    injection h1 with h1 _ _
    subst h1
    refine ⟨rfl, d'.toList, ?_, ?_, ⟨?_, Or.inr ⟨g, cap, c, rfl, hg, h2, hnc, hcm, h3.trans hcs, ?_⟩⟩, ⟨hA.os, hA.tape, hA.output, hA.size, fun k hk hne => hA.block k hk fun e => hne (by rw [e]; rfl)⟩⟩
    · have h4 := hp.2.2
      have e1 : (d'.extract 0 n).toList = d'.toList := by rw [← hsz]; simp
      have e2 : (l.toArray.extract 0 n).toList = l := by rw [← hl]; simp
      rw [e1, e2] at h4
      exact h4
    · rw [List.pairwise_iff_getElem]
      intro i j hi hj hij
      have hi' : i < d'.size := by simpa using hi
      have hj' : j < d'.size := by simpa using hj
      have := hso i j (Nat.zero_le _) hij (by omega)
      rw [getElem!_pos d' i hi', getElem!_pos d' j hj'] at this
      simp only [ltInt, decide_eq_false_iff_not] at this
      simp only [Array.getElem_toList]
      omega
    · simp [uc, hsz]
    · apply List.ext_getElem?
      intro t
      by_cases htn : t < n
      · have e1 := hA.cell t htn
        rw [cell_of_row w' g t c TU (0, 0) h2] at e1
        rw [List.getElem?_take, if_pos (by omega), Array.getElem?_toList]
        have htd : t < d'.size := by omega
        rw [show c[t]? = _ from e1, getElem!_pos d' t htd]
        simp [uc, htd]
      · rw [List.getElem?_eq_none (by simp; omega), List.getElem?_eq_none (by simp [uc]; omega)]
end Go.Proofs.YtpkkomifenlkaaaGreat.Au
