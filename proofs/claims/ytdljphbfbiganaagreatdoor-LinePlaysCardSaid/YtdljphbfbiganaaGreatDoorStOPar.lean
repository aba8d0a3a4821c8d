import Derived.Test.YtdljphbfbiganaaGreatDoorGStOBits
import Derived.Deep.RegionHeld3
import Derived.Sort.WalkA6
import Derived.Sort.WalkB2
import Derived.Deep.CutBlock
import Derived.Deep.DeepCutAuto
/- partialInsertionSort -/
namespace Go.Proofs.YtdljphbfbiganaaGreatDoor.So
open Go Go.RowKit Go.Sort Go.Proofs Go.Lib
set_option linter.unusedVariables false

set_option maxHeartbeats 25600000 in
set_option maxRecDepth 20000 in
theorem par_any (g n cap : Nat) (hn : n < 4611686018427387904) (a b : Nat) (hab : a < b) (hb : b ≤ n) (d : Array Int) (w0 w : World) (H0 : AtO g n w0 d w) :
    Calls Tryz.prog 84 #[.slice (some ⟨g, 0, none⟩) n cap, .int .i64 (a : Int), .int .i64 (b : Int)] w fun e w' => e = .returned (.bool (Sort.partialInsertionSort ltInt d a b).2) ∧ AtO g n w0 ((Sort.partialInsertionSort ltInt d a b).1) w' := by
  have HH := Lib.hid H0
  clear H0
  go_enter Tryz.func84, Tryz.ntmps84
  go_wp2
  go_loopg [7, 8] 5 (fun g1 vi vs wr => ∃ (i s : Nat) (dk : Array Int), vi = .int .i64 (i : Int) ∧ vs = .int .i64 (s : Int) ∧ s ≤ 5 ∧ 5 - s ≤ g1 ∧ a < i ∧ i ≤ b ∧ AtO g n w0 (dk) wr ∧ Hid (partialIns ltInt a b (5 - s) i dk = partialIns ltInt a b 5 (a + 1) d))
  case atStart => exact ⟨a + 1, 0, d, by go_num, rfl, by omega, by omega, by omega, by omega, HH.out, Lib.hid rfl⟩
  case round =>
    clear HH
    obtain ⟨i, s, dk, rfl, rfl, hs5, hg1, hai, hib, h1, HO⟩ := hrel
    have H1 := Lib.hid h1
    clear h1
    by_cases hs : s < 5
    · have hsz5 : (s : Int) < 5 := by omega
      go_wp2
      go_loopg [7] (b - i) (fun g2 vi wr2 => ∃ (kx : Nat), vi = .int .i64 (kx : Int) ∧ i ≤ kx ∧ kx ≤ b ∧ b - kx ≤ g2 ∧ AtO g n w0 (dk) wr2 ∧ Hid (scanSorted ltInt dk b kx = scanSorted ltInt dk b i))
      case atStart => exact ⟨i, rfl, Nat.le_refl _, hib, Nat.le_refl _, H1.out, Lib.hid rfl⟩
      case round =>
        clear H1
        obtain ⟨kx, rfl, hik, hkb, hg2, h2, HSc⟩ := hrel
        have H2 := Lib.hid h2
        clear h2
        by_cases hkb' : kx < b
        · have hkz : (kx : Int) < (b : Int) := by omega
          cases hlv : ltInt dk[kx]! dk[kx - 1]! with
          | false =>
            have kx0 : (0 : Int) ≤ (kx : Int) := by omega
            have kx1 : (kx : Int) < (n : Int) := by omega
            have ckx := H2.out.cell kx (by omega)
            obtain ⟨x, hx⟩ : ∃ x, x = (dk)[kx]! := ⟨_, rfl⟩
            rw [← hx] at ckx
            obtain ⟨p, hp⟩ : ∃ p : Nat, p = kx - 1 := ⟨_, rfl⟩
            have ep : (kx : Int) - 1 = (p : Int) := by omega
            have wp : IntKind.i64.wrap (p : Int) = (p : Int) := by rw [IntKind.wrap_i64]; omega
            have p0 : (0 : Int) ≤ (p : Int) := by omega
            have p1 : (p : Int) < (n : Int) := by omega
            have cp := H2.out.cell p (by omega)
            obtain ⟨y, hy⟩ : ∃ y, y = (dk)[p]! := ⟨_, rfl⟩
            rw [← hy] at cp
            have HPQ := Lib.hid (And.intro (And.intro (Eq.refl kx) hx) (And.intro hp hy))
            have fz := H2.out.frz
            have hl : ltInt x y = false := by rw [hx, hy, hp]; exact hlv
            have HVkx := Lib.hid hlv
            clear hx hy hp hlv
            go_wp2_with fail
            go_quiet ((go_at_call 85; exact Calls.quiet_of_same (less_u _ _ _)))
            have H3 := Lib.hid (H2.out.drewN nq)
            clear HPQ hl ckx cp kx0 kx1 p0 p1 ep wp fz
            go_wp2
            go_roundg (b - (kx + 1))
            case measure => omega
            case rel => exact ⟨kx + 1, by go_num, by omega, by omega, Nat.le_refl _, H3.out, Lib.hid (by rw [← HSc.out, scanSorted_go ltInt dk b kx hkb' HVkx.out])⟩
          | true =>
            have HK : Hid (scanSorted ltInt dk b i = kx) := Lib.hid (by rw [← HSc.out, scanSorted_stop ltInt dk b kx (Or.inr hlv)])
            have kx0 : (0 : Int) ≤ (kx : Int) := by omega
            have kx1 : (kx : Int) < (n : Int) := by omega
            have ckx := H2.out.cell kx (by omega)
            obtain ⟨x, hx⟩ : ∃ x, x = (dk)[kx]! := ⟨_, rfl⟩
            rw [← hx] at ckx
            obtain ⟨p, hp⟩ : ∃ p : Nat, p = kx - 1 := ⟨_, rfl⟩
            have ep : (kx : Int) - 1 = (p : Int) := by omega
            have wp : IntKind.i64.wrap (p : Int) = (p : Int) := by rw [IntKind.wrap_i64]; omega
            have p0 : (0 : Int) ≤ (p : Int) := by omega
            have p1 : (p : Int) < (n : Int) := by omega
            have cp := H2.out.cell p (by omega)
            obtain ⟨y, hy⟩ : ∃ y, y = (dk)[p]! := ⟨_, rfl⟩
            rw [← hy] at cp
            have HPQ := Lib.hid (And.intro (And.intro (Eq.refl kx) hx) (And.intro hp hy))
            have fz := H2.out.frz
            have hl : ltInt x y = true := by rw [hx, hy, hp]; exact hlv
            have HVkx := Lib.hid hlv
            clear hx hy hp hlv
            go_wp2_with fail
            go_quiet ((go_at_call 85; exact Calls.quiet_of_same (less_u _ _ _)))
            have H3 := Lib.hid (H2.out.drewN nq)
            clear HPQ hl ckx cp kx0 kx1 p0 p1 ep wp fz
            go_upto_region 7 with fail
            obtain ⟨w3, hw3⟩ : ∃ X, X = wr.drewN nq := ⟨_, rfl⟩
            rw [← hw3] at H3 ⊢
            clear hw3
            clear H2
            have hkne : ((kx : Int) == (b : Int)) = false := beq_eq_false_iff_ne.2 (by omega)
            by_cases h50 : b - a < 50
            · have h50z : (b : Int) - (a : Int) < 50 := by omega
              go_wp2
              have hv : Sort.partialInsertionSort ltInt d a b = (dk, false) := by
                unfold Sort.partialInsertionSort
                rw [← HO.out, pi_short ltInt a b s i dk hs (by rw [HK.out]; omega) h50]
              refine bodyPost_ret (v := .bool false) (by simp [results, Tryz.results84, go_sem]) rfl ?_
              exact ⟨by rw [hv], by rw [hv]; exact H3.out⟩
            · have h50z : ¬ ((b : Int) - (a : Int) < 50) := by omega
              go_upto_region 11 with fail
              have kx0 : (0 : Int) ≤ (kx : Int) := by omega
              have kx1 : (kx : Int) < (n : Int) := by omega
              have ckx := H3.out.cell kx (by omega)
              obtain ⟨x, hx⟩ : ∃ x, x = (dk)[kx]! := ⟨_, rfl⟩
              rw [← hx] at ckx
              obtain ⟨p, hp⟩ : ∃ p : Nat, p = kx - 1 := ⟨_, rfl⟩
              have ep : (kx : Int) - 1 = (p : Int) := by omega
              have wp : IntKind.i64.wrap (p : Int) = (p : Int) := by rw [IntKind.wrap_i64]; omega
              have p0 : (0 : Int) ≤ (p : Int) := by omega
              have p1 : (p : Int) < (n : Int) := by omega
              have cp := H3.out.cell p (by omega)
              obtain ⟨y, hy⟩ : ∃ y, y = (dk)[p]! := ⟨_, rfl⟩
              rw [← hy] at cp
              have HPQ := Lib.hid (And.intro (And.intro (Eq.refl kx) hx) (And.intro hp hy))
              have fz := H3.out.frz
              clear hx hy hp 
              have hne : ¬ kx = p := by have := HPQ.out.2.1; omega
              have hne2 : ¬ p = kx := fun e => hne e.symm
              have HS := Lib.hid (H3.out.swapL HPQ.out (by omega) (by omega))
              go_region
              obtain ⟨w5, hw5⟩ : ∃ X, X = ((w3.setCell ⟨g, kx, none⟩ (.int .u64 y)).setCell ⟨g, p, none⟩ (.int .u64 x)).drew := ⟨_, rfl⟩
              have H5 : Hid (AtO g n w0 (swp (dk) kx (kx - 1)) w5) := Lib.hid (by rw [hw5]; exact HS.out 1)
              rw [← hw5]
              clear hw5 HS HPQ hne hne2 ckx cp kx0 kx1 p0 p1 ep wp fz
              clear H3
              by_cases hka : kx - a ≥ 2
              · have hkaz : (2 : Int) ≤ (kx : Int) - (a : Int) := by omega
                have ekk : (kx : Int) - 1 = ((kx - 1 : Nat) : Int) := by omega
                go_wp2
                go_loopg [9] (kx - 1) (fun g3 vj wr3 => ∃ (j : Nat) (dj : Array Int), vj = .int .i64 (j : Int) ∧ j ≤ kx - 1 ∧ j ≤ g3 ∧ AtO g n w0 (dj) wr3 ∧ Hid (shiftDown ltInt j dj = shiftDown ltInt (kx - 1) (swp dk kx (kx - 1))))
                case atStart => exact ⟨kx - 1, swp dk kx (kx - 1), by congr 1, Nat.le_refl _, Nat.le_refl _, H5.out, Lib.hid rfl⟩
                case round =>
                  clear H5 ekk
                  obtain ⟨j, dj, rfl, hjk, hg3, h4, HDn⟩ := hrel
                  have H4 := Lib.hid h4
                  clear h4
                  by_cases hj1 : 1 ≤ j
                  · have hj1z : (1 : Int) ≤ (j : Int) := by omega
                    cases hlv2 : ltInt dj[j]! dj[j - 1]! with
                    | true =>
                      have j0 : (0 : Int) ≤ (j : Int) := by omega
                      have j1 : (j : Int) < (n : Int) := by omega
                      have cj := H4.out.cell j (by omega)
                      obtain ⟨x, hx⟩ : ∃ x, x = (dj)[j]! := ⟨_, rfl⟩
                      rw [← hx] at cj
                      obtain ⟨p, hp⟩ : ∃ p : Nat, p = j - 1 := ⟨_, rfl⟩
                      have ep : (j : Int) - 1 = (p : Int) := by omega
                      have wp : IntKind.i64.wrap (p : Int) = (p : Int) := by rw [IntKind.wrap_i64]; omega
                      have p0 : (0 : Int) ≤ (p : Int) := by omega
                      have p1 : (p : Int) < (n : Int) := by omega
                      have cp := H4.out.cell p (by omega)
                      obtain ⟨y, hy⟩ : ∃ y, y = (dj)[p]! := ⟨_, rfl⟩
                      rw [← hy] at cp
                      have HPQ := Lib.hid (And.intro (And.intro (Eq.refl j) hx) (And.intro hp hy))
                      have fz := H4.out.frz
                      have hl : ltInt x y = true := by rw [hx, hy, hp]; exact hlv2
                      have HVj := Lib.hid hlv2
                      clear hx hy hp hlv2
                      go_wp2_with fail
                      go_quiet ((go_at_call 85; exact Calls.quiet_of_same (less_u _ _ _)))
                      have H6 := Lib.hid (H4.out.drewN nq)
                      clear HPQ hl cj cp j0 j1 p0 p1 ep wp fz
                      go_upto_region 17 with fail
                      obtain ⟨w6, hw6⟩ : ∃ X, X = wr.drewN nq := ⟨_, rfl⟩
                      rw [← hw6] at H6 ⊢
                      clear hw6
                      have j0 : (0 : Int) ≤ (j : Int) := by omega
                      have j1 : (j : Int) < (n : Int) := by omega
                      have cj := H6.out.cell j (by omega)
                      obtain ⟨x, hx⟩ : ∃ x, x = (dj)[j]! := ⟨_, rfl⟩
                      rw [← hx] at cj
                      obtain ⟨p, hp⟩ : ∃ p : Nat, p = j - 1 := ⟨_, rfl⟩
                      have ep : (j : Int) - 1 = (p : Int) := by omega
                      have wp : IntKind.i64.wrap (p : Int) = (p : Int) := by rw [IntKind.wrap_i64]; omega
                      have p0 : (0 : Int) ≤ (p : Int) := by omega
                      have p1 : (p : Int) < (n : Int) := by omega
                      have cp := H6.out.cell p (by omega)
                      obtain ⟨y, hy⟩ : ∃ y, y = (dj)[p]! := ⟨_, rfl⟩
                      rw [← hy] at cp
                      have HPQ := Lib.hid (And.intro (And.intro (Eq.refl j) hx) (And.intro hp hy))
                      have fz := H6.out.frz
                      clear hx hy hp 
                      have hne : ¬ j = p := by have := HPQ.out.2.1; omega
                      have hne2 : ¬ p = j := fun e => hne e.symm
                      have HS := Lib.hid (H6.out.swapL HPQ.out (by omega) (by omega))
                      go_region
                      obtain ⟨w7, hw7⟩ : ∃ X, X = ((w6.setCell ⟨g, j, none⟩ (.int .u64 y)).setCell ⟨g, p, none⟩ (.int .u64 x)).drew := ⟨_, rfl⟩
                      have H7 : Hid (AtO g n w0 (swp (dj) j (j - 1)) w7) := Lib.hid (by rw [hw7]; exact HS.out 1)
                      rw [← hw7]
                      clear hw7 HS HPQ hne hne2 cj cp j0 j1 p0 p1 ep wp fz
                      have ejj : (j : Int) - 1 = ((j - 1 : Nat) : Int) := by omega
                      go_wp2
                      go_roundg (j - 1)
                      case measure => omega
                      case rel => exact ⟨j - 1, swp dj j (j - 1), by congr 1, by omega, Nat.le_refl _, H7.out, Lib.hid (by rw [← HDn.out, shiftDown_go ltInt j dj hj1 HVj.out])⟩
                    | false =>
                      have j0 : (0 : Int) ≤ (j : Int) := by omega
                      have j1 : (j : Int) < (n : Int) := by omega
                      have cj := H4.out.cell j (by omega)
                      obtain ⟨x, hx⟩ : ∃ x, x = (dj)[j]! := ⟨_, rfl⟩
                      rw [← hx] at cj
                      obtain ⟨p, hp⟩ : ∃ p : Nat, p = j - 1 := ⟨_, rfl⟩
                      have ep : (j : Int) - 1 = (p : Int) := by omega
                      have wp : IntKind.i64.wrap (p : Int) = (p : Int) := by rw [IntKind.wrap_i64]; omega
                      have p0 : (0 : Int) ≤ (p : Int) := by omega
                      have p1 : (p : Int) < (n : Int) := by omega
                      have cp := H4.out.cell p (by omega)
                      obtain ⟨y, hy⟩ : ∃ y, y = (dj)[p]! := ⟨_, rfl⟩
                      rw [← hy] at cp
                      have HPQ := Lib.hid (And.intro (And.intro (Eq.refl j) hx) (And.intro hp hy))
                      have fz := H4.out.frz
                      have hl : ltInt x y = false := by rw [hx, hy, hp]; exact hlv2
                      have HVj := Lib.hid hlv2
                      clear hx hy hp hlv2
                      go_wp2_with fail
                      go_quiet ((go_at_call 85; exact Calls.quiet_of_same (less_u _ _ _)))
                      have H6 := Lib.hid (H4.out.drewN nq)
                      clear HPQ hl cj cp j0 j1 p0 p1 ep wp fz
                      go_upto_region 18 with fail
                      obtain ⟨w6, hw6⟩ : ∃ X, X = wr.drewN nq := ⟨_, rfl⟩
                      rw [← hw6] at H6 ⊢
                      clear hw6
                      have HDD : Hid (fixDown ltInt a kx (swp dk kx (kx - 1)) = dj) := Lib.hid (by unfold fixDown; rw [if_pos hka, ← HDn.out, shiftDown_stop ltInt j dj (Or.inr HVj.out)])
                      clear H4
                      by_cases hbk : b - kx ≥ 2
                      · have hbkz : (2 : Int) ≤ (b : Int) - (kx : Int) := by omega
                        go_wp2
                        go_loopg [10] (b - (kx + 1)) (fun g4 vj wr4 => ∃ (ju : Nat) (du : Array Int), vj = .int .i64 (ju : Int) ∧ kx + 1 ≤ ju ∧ ju ≤ b ∧ b - ju ≤ g4 ∧ AtO g n w0 (du) wr4 ∧ Hid (shiftUp ltInt b ju du = shiftUp ltInt b (kx + 1) (dj)))
                        case atStart => exact ⟨kx + 1, dj, by go_num, Nat.le_refl _, by omega, Nat.le_refl _, H6.out, Lib.hid rfl⟩
                        case round =>
                          clear H6
                          obtain ⟨ju, du, rfl, hkj, hjb, hg4, h8, HU⟩ := hrel
                          have H8 := Lib.hid h8
                          clear h8
                          by_cases hjb' : ju < b
                          · have hjz : (ju : Int) < (b : Int) := by omega
                            cases hlv3 : ltInt du[ju]! du[ju - 1]! with
                            | true =>
                              have ju0 : (0 : Int) ≤ (ju : Int) := by omega
                              have ju1 : (ju : Int) < (n : Int) := by omega
                              have cju := H8.out.cell ju (by omega)
                              obtain ⟨x, hx⟩ : ∃ x, x = (du)[ju]! := ⟨_, rfl⟩
                              rw [← hx] at cju
                              obtain ⟨p, hp⟩ : ∃ p : Nat, p = ju - 1 := ⟨_, rfl⟩
                              have ep : (ju : Int) - 1 = (p : Int) := by omega
                              have wp : IntKind.i64.wrap (p : Int) = (p : Int) := by rw [IntKind.wrap_i64]; omega
                              have p0 : (0 : Int) ≤ (p : Int) := by omega
                              have p1 : (p : Int) < (n : Int) := by omega
                              have cp := H8.out.cell p (by omega)
                              obtain ⟨y, hy⟩ : ∃ y, y = (du)[p]! := ⟨_, rfl⟩
                              rw [← hy] at cp
                              have HPQ := Lib.hid (And.intro (And.intro (Eq.refl ju) hx) (And.intro hp hy))
                              have fz := H8.out.frz
                              have hl : ltInt x y = true := by rw [hx, hy, hp]; exact hlv3
                              have HVju := Lib.hid hlv3
                              clear hx hy hp hlv3
                              go_wp2_with fail
                              go_quiet ((go_at_call 85; exact Calls.quiet_of_same (less_u _ _ _)))
                              have H9 := Lib.hid (H8.out.drewN nq)
                              clear HPQ hl cju cp ju0 ju1 p0 p1 ep wp fz
                              go_upto_region 23 with fail
                              obtain ⟨w9, hw9⟩ : ∃ X, X = wr.drewN nq := ⟨_, rfl⟩
                              rw [← hw9] at H9 ⊢
                              clear hw9
                              have ju0 : (0 : Int) ≤ (ju : Int) := by omega
                              have ju1 : (ju : Int) < (n : Int) := by omega
                              have cju := H9.out.cell ju (by omega)
                              obtain ⟨x, hx⟩ : ∃ x, x = (du)[ju]! := ⟨_, rfl⟩
                              rw [← hx] at cju
                              obtain ⟨p, hp⟩ : ∃ p : Nat, p = ju - 1 := ⟨_, rfl⟩
                              have ep : (ju : Int) - 1 = (p : Int) := by omega
                              have wp : IntKind.i64.wrap (p : Int) = (p : Int) := by rw [IntKind.wrap_i64]; omega
                              have p0 : (0 : Int) ≤ (p : Int) := by omega
                              have p1 : (p : Int) < (n : Int) := by omega
                              have cp := H9.out.cell p (by omega)
                              obtain ⟨y, hy⟩ : ∃ y, y = (du)[p]! := ⟨_, rfl⟩
                              rw [← hy] at cp
                              have HPQ := Lib.hid (And.intro (And.intro (Eq.refl ju) hx) (And.intro hp hy))
                              have fz := H9.out.frz
                              clear hx hy hp 
                              have hne : ¬ ju = p := by have := HPQ.out.2.1; omega
                              have hne2 : ¬ p = ju := fun e => hne e.symm
                              have HS := Lib.hid (H9.out.swapL HPQ.out (by omega) (by omega))
                              go_region
                              obtain ⟨w10, hw10⟩ : ∃ X, X = ((w9.setCell ⟨g, ju, none⟩ (.int .u64 y)).setCell ⟨g, p, none⟩ (.int .u64 x)).drew := ⟨_, rfl⟩
                              have H10 : Hid (AtO g n w0 (swp (du) ju (ju - 1)) w10) := Lib.hid (by rw [hw10]; exact HS.out 1)
                              rw [← hw10]
                              clear hw10 HS HPQ hne hne2 cju cp ju0 ju1 p0 p1 ep wp fz
                              go_wp2
                              go_roundg (b - (ju + 1))
                              case measure => omega
                              case rel => exact ⟨ju + 1, swp du ju (ju - 1), by go_num, by omega, by omega, Nat.le_refl _, H10.out, Lib.hid (by rw [← HU.out, shiftUp_go ltInt b ju du hjb' HVju.out])⟩
                            | false =>
                              have ju0 : (0 : Int) ≤ (ju : Int) := by omega
                              have ju1 : (ju : Int) < (n : Int) := by omega
                              have cju := H8.out.cell ju (by omega)
                              obtain ⟨x, hx⟩ : ∃ x, x = (du)[ju]! := ⟨_, rfl⟩
                              rw [← hx] at cju
                              obtain ⟨p, hp⟩ : ∃ p : Nat, p = ju - 1 := ⟨_, rfl⟩
                              have ep : (ju : Int) - 1 = (p : Int) := by omega
                              have wp : IntKind.i64.wrap (p : Int) = (p : Int) := by rw [IntKind.wrap_i64]; omega
                              have p0 : (0 : Int) ≤ (p : Int) := by omega
                              have p1 : (p : Int) < (n : Int) := by omega
                              have cp := H8.out.cell p (by omega)
                              obtain ⟨y, hy⟩ : ∃ y, y = (du)[p]! := ⟨_, rfl⟩
                              rw [← hy] at cp
                              have HPQ := Lib.hid (And.intro (And.intro (Eq.refl ju) hx) (And.intro hp hy))
                              have fz := H8.out.frz
                              have hl : ltInt x y = false := by rw [hx, hy, hp]; exact hlv3
                              have HVju := Lib.hid hlv3
                              clear hx hy hp hlv3
                              go_wp2_with fail
                              go_quiet ((go_at_call 85; exact Calls.quiet_of_same (less_u _ _ _)))
                              have H9 := Lib.hid (H8.out.drewN nq)
                              clear HPQ hl cju cp ju0 ju1 p0 p1 ep wp fz
                              go_wp2
                              go_roundg (5 - (s + 1))
                              case measure => omega
                              case rel => exact ⟨kx, s + 1, du, rfl, by go_num, by omega, Nat.le_refl _, by omega, by omega, H9.out, Lib.hid (by rw [← HO.out, pi_go ltInt a b s i kx dk hs HK.out (by omega) h50, HDD.out, show fixUp ltInt b kx (dj) = du from by unfold fixUp; rw [if_pos hbk, ← HU.out, shiftUp_stop ltInt b ju du (Or.inr HVju.out)]])⟩
                          · have hjz : decide ((ju : Int) < (b : Int)) = false := decide_eq_false (by omega)
                            go_wp2
                            go_roundg (5 - (s + 1))
                            case measure => omega
                            case rel => exact ⟨kx, s + 1, du, rfl, by go_num, by omega, Nat.le_refl _, by omega, by omega, H8.out, Lib.hid (by rw [← HO.out, pi_go ltInt a b s i kx dk hs HK.out (by omega) h50, HDD.out, show fixUp ltInt b kx (dj) = du from by unfold fixUp; rw [if_pos hbk, ← HU.out, shiftUp_stop ltInt b ju du (Or.inl hjb')]])⟩
                      · have hbkz : ¬ (2 : Int) ≤ (b : Int) - (kx : Int) := by omega
                        go_wp2
                        go_roundg (5 - (s + 1))
                        case measure => omega
                        case rel => exact ⟨kx, s + 1, dj, rfl, by go_num, by omega, Nat.le_refl _, by omega, by omega, H6.out, Lib.hid (by rw [← HO.out, pi_go ltInt a b s i kx dk hs HK.out (by omega) h50, HDD.out, show fixUp ltInt b kx (dj) = dj from by unfold fixUp; rw [if_neg hbk]])⟩
                  · have hj1z : ¬ (1 : Int) ≤ (j : Int) := by omega
                    have HDD : Hid (fixDown ltInt a kx (swp dk kx (kx - 1)) = dj) := Lib.hid (by unfold fixDown; rw [if_pos hka, ← HDn.out, shiftDown_stop ltInt j dj (Or.inl (by omega))])
                    by_cases hbk : b - kx ≥ 2
                    · have hbkz : (2 : Int) ≤ (b : Int) - (kx : Int) := by omega
                      go_wp2
                      go_loopg [10] (b - (kx + 1)) (fun g4 vj wr4 => ∃ (ju : Nat) (du : Array Int), vj = .int .i64 (ju : Int) ∧ kx + 1 ≤ ju ∧ ju ≤ b ∧ b - ju ≤ g4 ∧ AtO g n w0 (du) wr4 ∧ Hid (shiftUp ltInt b ju du = shiftUp ltInt b (kx + 1) (dj)))
                      case atStart => exact ⟨kx + 1, dj, by go_num, Nat.le_refl _, by omega, Nat.le_refl _, H4.out, Lib.hid rfl⟩
                      case round =>
                        clear H4
                        obtain ⟨ju, du, rfl, hkj, hjb, hg4, h8, HU⟩ := hrel
                        have H8 := Lib.hid h8
                        clear h8
                        by_cases hjb' : ju < b
                        · have hjz : (ju : Int) < (b : Int) := by omega
                          cases hlv3 : ltInt du[ju]! du[ju - 1]! with
                          | true =>
                            have ju0 : (0 : Int) ≤ (ju : Int) := by omega
                            have ju1 : (ju : Int) < (n : Int) := by omega
                            have cju := H8.out.cell ju (by omega)
                            obtain ⟨x, hx⟩ : ∃ x, x = (du)[ju]! := ⟨_, rfl⟩
                            rw [← hx] at cju
                            obtain ⟨p, hp⟩ : ∃ p : Nat, p = ju - 1 := ⟨_, rfl⟩
                            have ep : (ju : Int) - 1 = (p : Int) := by omega
                            have wp : IntKind.i64.wrap (p : Int) = (p : Int) := by rw [IntKind.wrap_i64]; omega
                            have p0 : (0 : Int) ≤ (p : Int) := by omega
                            have p1 : (p : Int) < (n : Int) := by omega
                            have cp := H8.out.cell p (by omega)
                            obtain ⟨y, hy⟩ : ∃ y, y = (du)[p]! := ⟨_, rfl⟩
                            rw [← hy] at cp
                            have HPQ := Lib.hid (And.intro (And.intro (Eq.refl ju) hx) (And.intro hp hy))
                            have fz := H8.out.frz
                            have hl : ltInt x y = true := by rw [hx, hy, hp]; exact hlv3
                            have HVju := Lib.hid hlv3
                            clear hx hy hp hlv3
                            go_wp2_with fail
                            go_quiet ((go_at_call 85; exact Calls.quiet_of_same (less_u _ _ _)))
                            have H9 := Lib.hid (H8.out.drewN nq)
                            clear HPQ hl cju cp ju0 ju1 p0 p1 ep wp fz
                            go_upto_region 23 with fail
                            obtain ⟨w9, hw9⟩ : ∃ X, X = wr.drewN nq := ⟨_, rfl⟩
                            rw [← hw9] at H9 ⊢
                            clear hw9
                            have ju0 : (0 : Int) ≤ (ju : Int) := by omega
                            have ju1 : (ju : Int) < (n : Int) := by omega
                            have cju := H9.out.cell ju (by omega)
                            obtain ⟨x, hx⟩ : ∃ x, x = (du)[ju]! := ⟨_, rfl⟩
                            rw [← hx] at cju
                            obtain ⟨p, hp⟩ : ∃ p : Nat, p = ju - 1 := ⟨_, rfl⟩
                            have ep : (ju : Int) - 1 = (p : Int) := by omega
                            have wp : IntKind.i64.wrap (p : Int) = (p : Int) := by rw [IntKind.wrap_i64]; omega
                            have p0 : (0 : Int) ≤ (p : Int) := by omega
                            have p1 : (p : Int) < (n : Int) := by omega
                            have cp := H9.out.cell p (by omega)
                            obtain ⟨y, hy⟩ : ∃ y, y = (du)[p]! := ⟨_, rfl⟩
                            rw [← hy] at cp
                            have HPQ := Lib.hid (And.intro (And.intro (Eq.refl ju) hx) (And.intro hp hy))
                            have fz := H9.out.frz
                            clear hx hy hp 
                            have hne : ¬ ju = p := by have := HPQ.out.2.1; omega
                            have hne2 : ¬ p = ju := fun e => hne e.symm
                            have HS := Lib.hid (H9.out.swapL HPQ.out (by omega) (by omega))
                            go_region
                            obtain ⟨w10, hw10⟩ : ∃ X, X = ((w9.setCell ⟨g, ju, none⟩ (.int .u64 y)).setCell ⟨g, p, none⟩ (.int .u64 x)).drew := ⟨_, rfl⟩
                            have H10 : Hid (AtO g n w0 (swp (du) ju (ju - 1)) w10) := Lib.hid (by rw [hw10]; exact HS.out 1)
                            rw [← hw10]
                            clear hw10 HS HPQ hne hne2 cju cp ju0 ju1 p0 p1 ep wp fz
                            go_wp2
                            go_roundg (b - (ju + 1))
                            case measure => omega
                            case rel => exact ⟨ju + 1, swp du ju (ju - 1), by go_num, by omega, by omega, Nat.le_refl _, H10.out, Lib.hid (by rw [← HU.out, shiftUp_go ltInt b ju du hjb' HVju.out])⟩
                          | false =>
                            have ju0 : (0 : Int) ≤ (ju : Int) := by omega
                            have ju1 : (ju : Int) < (n : Int) := by omega
                            have cju := H8.out.cell ju (by omega)
                            obtain ⟨x, hx⟩ : ∃ x, x = (du)[ju]! := ⟨_, rfl⟩
                            rw [← hx] at cju
                            obtain ⟨p, hp⟩ : ∃ p : Nat, p = ju - 1 := ⟨_, rfl⟩
                            have ep : (ju : Int) - 1 = (p : Int) := by omega
                            have wp : IntKind.i64.wrap (p : Int) = (p : Int) := by rw [IntKind.wrap_i64]; omega
                            have p0 : (0 : Int) ≤ (p : Int) := by omega
                            have p1 : (p : Int) < (n : Int) := by omega
                            have cp := H8.out.cell p (by omega)
                            obtain ⟨y, hy⟩ : ∃ y, y = (du)[p]! := ⟨_, rfl⟩
                            rw [← hy] at cp
                            have HPQ := Lib.hid (And.intro (And.intro (Eq.refl ju) hx) (And.intro hp hy))
                            have fz := H8.out.frz
                            have hl : ltInt x y = false := by rw [hx, hy, hp]; exact hlv3
                            have HVju := Lib.hid hlv3
                            clear hx hy hp hlv3
                            go_wp2_with fail
                            go_quiet ((go_at_call 85; exact Calls.quiet_of_same (less_u _ _ _)))
                            have H9 := Lib.hid (H8.out.drewN nq)
                            clear HPQ hl cju cp ju0 ju1 p0 p1 ep wp fz
                            go_wp2
                            go_roundg (5 - (s + 1))
                            case measure => omega
                            case rel => exact ⟨kx, s + 1, du, rfl, by go_num, by omega, Nat.le_refl _, by omega, by omega, H9.out, Lib.hid (by rw [← HO.out, pi_go ltInt a b s i kx dk hs HK.out (by omega) h50, HDD.out, show fixUp ltInt b kx (dj) = du from by unfold fixUp; rw [if_pos hbk, ← HU.out, shiftUp_stop ltInt b ju du (Or.inr HVju.out)]])⟩
                        · have hjz : decide ((ju : Int) < (b : Int)) = false := decide_eq_false (by omega)
                          go_wp2
                          go_roundg (5 - (s + 1))
                          case measure => omega
                          case rel => exact ⟨kx, s + 1, du, rfl, by go_num, by omega, Nat.le_refl _, by omega, by omega, H8.out, Lib.hid (by rw [← HO.out, pi_go ltInt a b s i kx dk hs HK.out (by omega) h50, HDD.out, show fixUp ltInt b kx (dj) = du from by unfold fixUp; rw [if_pos hbk, ← HU.out, shiftUp_stop ltInt b ju du (Or.inl hjb')]])⟩
                    · have hbkz : ¬ (2 : Int) ≤ (b : Int) - (kx : Int) := by omega
                      go_wp2
                      go_roundg (5 - (s + 1))
                      case measure => omega
                      case rel => exact ⟨kx, s + 1, dj, rfl, by go_num, by omega, Nat.le_refl _, by omega, by omega, H4.out, Lib.hid (by rw [← HO.out, pi_go ltInt a b s i kx dk hs HK.out (by omega) h50, HDD.out, show fixUp ltInt b kx (dj) = dj from by unfold fixUp; rw [if_neg hbk]])⟩
              · have hkaz : ¬ (2 : Int) ≤ (kx : Int) - (a : Int) := by omega
                have HDD : Hid (fixDown ltInt a kx (swp dk kx (kx - 1)) = swp dk kx (kx - 1)) := Lib.hid (by unfold fixDown; rw [if_neg hka])
                by_cases hbk : b - kx ≥ 2
                · have hbkz : (2 : Int) ≤ (b : Int) - (kx : Int) := by omega
                  go_wp2
                  go_loopg [10] (b - (kx + 1)) (fun g4 vj wr4 => ∃ (ju : Nat) (du : Array Int), vj = .int .i64 (ju : Int) ∧ kx + 1 ≤ ju ∧ ju ≤ b ∧ b - ju ≤ g4 ∧ AtO g n w0 (du) wr4 ∧ Hid (shiftUp ltInt b ju du = shiftUp ltInt b (kx + 1) (swp dk kx (kx - 1))))
                  case atStart => exact ⟨kx + 1, swp dk kx (kx - 1), by go_num, Nat.le_refl _, by omega, Nat.le_refl _, H5.out, Lib.hid rfl⟩
                  case round =>
                    clear H5
                    obtain ⟨ju, du, rfl, hkj, hjb, hg4, h8, HU⟩ := hrel
                    have H8 := Lib.hid h8
                    clear h8
                    by_cases hjb' : ju < b
                    · have hjz : (ju : Int) < (b : Int) := by omega
                      cases hlv3 : ltInt du[ju]! du[ju - 1]! with
                      | true =>
                        have ju0 : (0 : Int) ≤ (ju : Int) := by omega
                        have ju1 : (ju : Int) < (n : Int) := by omega
                        have cju := H8.out.cell ju (by omega)
                        obtain ⟨x, hx⟩ : ∃ x, x = (du)[ju]! := ⟨_, rfl⟩
                        rw [← hx] at cju
                        obtain ⟨p, hp⟩ : ∃ p : Nat, p = ju - 1 := ⟨_, rfl⟩
                        have ep : (ju : Int) - 1 = (p : Int) := by omega
                        have wp : IntKind.i64.wrap (p : Int) = (p : Int) := by rw [IntKind.wrap_i64]; omega
                        have p0 : (0 : Int) ≤ (p : Int) := by omega
                        have p1 : (p : Int) < (n : Int) := by omega
                        have cp := H8.out.cell p (by omega)
                        obtain ⟨y, hy⟩ : ∃ y, y = (du)[p]! := ⟨_, rfl⟩
                        rw [← hy] at cp
                        have HPQ := Lib.hid (And.intro (And.intro (Eq.refl ju) hx) (And.intro hp hy))
                        have fz := H8.out.frz
                        have hl : ltInt x y = true := by rw [hx, hy, hp]; exact hlv3
                        have HVju := Lib.hid hlv3
                        clear hx hy hp hlv3
                        go_wp2_with fail
                        go_quiet ((go_at_call 85; exact Calls.quiet_of_same (less_u _ _ _)))
                        have H9 := Lib.hid (H8.out.drewN nq)
                        clear HPQ hl cju cp ju0 ju1 p0 p1 ep wp fz
                        go_upto_region 23 with fail
                        obtain ⟨w9, hw9⟩ : ∃ X, X = wr.drewN nq := ⟨_, rfl⟩
                        rw [← hw9] at H9 ⊢
                        clear hw9
                        have ju0 : (0 : Int) ≤ (ju : Int) := by omega
                        have ju1 : (ju : Int) < (n : Int) := by omega
                        have cju := H9.out.cell ju (by omega)
                        obtain ⟨x, hx⟩ : ∃ x, x = (du)[ju]! := ⟨_, rfl⟩
                        rw [← hx] at cju
                        obtain ⟨p, hp⟩ : ∃ p : Nat, p = ju - 1 := ⟨_, rfl⟩
                        have ep : (ju : Int) - 1 = (p : Int) := by omega
                        have wp : IntKind.i64.wrap (p : Int) = (p : Int) := by rw [IntKind.wrap_i64]; omega
                        have p0 : (0 : Int) ≤ (p : Int) := by omega
                        have p1 : (p : Int) < (n : Int) := by omega
                        have cp := H9.out.cell p (by omega)
                        obtain ⟨y, hy⟩ : ∃ y, y = (du)[p]! := ⟨_, rfl⟩
                        rw [← hy] at cp
                        have HPQ := Lib.hid (And.intro (And.intro (Eq.refl ju) hx) (And.intro hp hy))
                        have fz := H9.out.frz
                        clear hx hy hp 
                        have hne : ¬ ju = p := by have := HPQ.out.2.1; omega
                        have hne2 : ¬ p = ju := fun e => hne e.symm
                        have HS := Lib.hid (H9.out.swapL HPQ.out (by omega) (by omega))
                        go_region
                        obtain ⟨w10, hw10⟩ : ∃ X, X = ((w9.setCell ⟨g, ju, none⟩ (.int .u64 y)).setCell ⟨g, p, none⟩ (.int .u64 x)).drew := ⟨_, rfl⟩
                        have H10 : Hid (AtO g n w0 (swp (du) ju (ju - 1)) w10) := Lib.hid (by rw [hw10]; exact HS.out 1)
                        rw [← hw10]
                        clear hw10 HS HPQ hne hne2 cju cp ju0 ju1 p0 p1 ep wp fz
                        go_wp2
                        go_roundg (b - (ju + 1))
                        case measure => omega
                        case rel => exact ⟨ju + 1, swp du ju (ju - 1), by go_num, by omega, by omega, Nat.le_refl _, H10.out, Lib.hid (by rw [← HU.out, shiftUp_go ltInt b ju du hjb' HVju.out])⟩
                      | false =>
                        have ju0 : (0 : Int) ≤ (ju : Int) := by omega
                        have ju1 : (ju : Int) < (n : Int) := by omega
                        have cju := H8.out.cell ju (by omega)
                        obtain ⟨x, hx⟩ : ∃ x, x = (du)[ju]! := ⟨_, rfl⟩
                        rw [← hx] at cju
                        obtain ⟨p, hp⟩ : ∃ p : Nat, p = ju - 1 := ⟨_, rfl⟩
                        have ep : (ju : Int) - 1 = (p : Int) := by omega
                        have wp : IntKind.i64.wrap (p : Int) = (p : Int) := by rw [IntKind.wrap_i64]; omega
                        have p0 : (0 : Int) ≤ (p : Int) := by omega
                        have p1 : (p : Int) < (n : Int) := by omega
                        have cp := H8.out.cell p (by omega)
                        obtain ⟨y, hy⟩ : ∃ y, y = (du)[p]! := ⟨_, rfl⟩
                        rw [← hy] at cp
                        have HPQ := Lib.hid (And.intro (And.intro (Eq.refl ju) hx) (And.intro hp hy))
                        have fz := H8.out.frz
                        have hl : ltInt x y = false := by rw [hx, hy, hp]; exact hlv3
                        have HVju := Lib.hid hlv3
                        clear hx hy hp hlv3
                        go_wp2_with fail
                        go_quiet ((go_at_call 85; exact Calls.quiet_of_same (less_u _ _ _)))
                        have H9 := Lib.hid (H8.out.drewN nq)
                        clear HPQ hl cju cp ju0 ju1 p0 p1 ep wp fz
                        go_wp2
                        go_roundg (5 - (s + 1))
                        case measure => omega
                        case rel => exact ⟨kx, s + 1, du, rfl, by go_num, by omega, Nat.le_refl _, by omega, by omega, H9.out, Lib.hid (by rw [← HO.out, pi_go ltInt a b s i kx dk hs HK.out (by omega) h50, HDD.out, show fixUp ltInt b kx (swp dk kx (kx - 1)) = du from by unfold fixUp; rw [if_pos hbk, ← HU.out, shiftUp_stop ltInt b ju du (Or.inr HVju.out)]])⟩
                    · have hjz : decide ((ju : Int) < (b : Int)) = false := decide_eq_false (by omega)
                      go_wp2
                      go_roundg (5 - (s + 1))
                      case measure => omega
                      case rel => exact ⟨kx, s + 1, du, rfl, by go_num, by omega, Nat.le_refl _, by omega, by omega, H8.out, Lib.hid (by rw [← HO.out, pi_go ltInt a b s i kx dk hs HK.out (by omega) h50, HDD.out, show fixUp ltInt b kx (swp dk kx (kx - 1)) = du from by unfold fixUp; rw [if_pos hbk, ← HU.out, shiftUp_stop ltInt b ju du (Or.inl hjb')]])⟩
                · exfalso; omega
        · have hkz : decide ((kx : Int) < (b : Int)) = false := decide_eq_false (by omega)
          have hkeb : ((kx : Int) == (b : Int)) = true := by simp; omega
          have hv : Sort.partialInsertionSort ltInt d a b = (dk, true) := by
            unfold Sort.partialInsertionSort
            rw [← HO.out, pi_true ltInt a b s i dk hs (by rw [← HSc.out, scanSorted_stop ltInt dk b kx (Or.inl (by omega))]; omega)]
          have HV := Lib.hid hv
          clear hv
          go_wp2_with fail
          go_quiet ((go_at_call 85; exact Calls.quiet_of_same (less_u _ _ _)))
          have H3 := Lib.hid (H2.out.drewN nq)
          go_wp2
          refine bodyPost_ret (v := .bool true) (by simp [results, Tryz.results84, go_sem]) rfl ?_
          exact ⟨by rw [HV.out], by rw [HV.out]; exact H3.out⟩
    · have hs6 : s = 5 := by omega
      subst hs6
      have hv : Sort.partialInsertionSort ltInt d a b = (dk, false) := by
        unfold Sort.partialInsertionSort
        rw [← HO.out, pi_end ltInt a b i dk]
      have HV := Lib.hid hv
      clear hv
      go_wp2
      refine bodyPost_ret (v := .bool false) (by simp [results, Tryz.results84, go_sem]) rfl ?_
      exact ⟨by rw [HV.out], by rw [HV.out]; exact H1.out⟩
end Go.Proofs.YtdljphbfbiganaaGreatDoor.So
