import Derived.Test.YtdljphbfbiganaaDoorStA
import Derived.Deep.RegionHeld3
import Derived.Sort.WalkA6
import Derived.Sort.WalkB2
import Derived.Deep.CutBlock
import Derived.Deep.DeepCutAuto
import Derived.Sort.WalkC
import Derived.Sort.WalkC4
import Derived.Sort.LotD4
import Derived.Sort.LotD1
import Derived.Sort.Walk11
import Derived.Shelf.GgSortFunc.LotD
import Derived.Sort.Walk7
/- partialInsertionSort -/
namespace Go.Proofs.YtdljphbfbiganaaDoor.So
open Go Go.RowKit Go.Sort Go.Proofs Go.Lib
set_option linter.unusedVariables false

set_option maxHeartbeats 25600000 in
set_option maxRecDepth 20000 in
theorem par_any (g n cap : Nat) (hn : n < 4611686018427387904) (a b : Nat) (hab : a < b) (hb : b ≤ n) (d : Array Int) (w0 w : World) (H0 : AtO g n w0 d w) :
    Calls Tryd.prog 57 #[.slice (some ⟨g, 0, none⟩) n cap, .int .i64 (a : Int), .int .i64 (b : Int)] w fun e w' => e = .returned (.bool (Sort.partialInsertionSort ltInt d a b).2) ∧ AtO g n w0 ((Sort.partialInsertionSort ltInt d a b).1) w' := by
  have HH := Lib.hid H0
  clear H0
  go_enter Tryd.func57, Tryd.ntmps57
  go_wp2
  go_loopg [7, 8] 5 (fun g1 vi vs wr => ∃ (i s : Nat) (dk : Array Int), vi = .int .i64 (i : Int) ∧ vs = .int .i64 (s : Int) ∧ s ≤ 5 ∧ 5 - s ≤ g1 ∧ a < i ∧ i ≤ b ∧ AtO g n w0 (dk) wr ∧ Hid (partialIns ltInt a b (5 - s) i dk = partialIns ltInt a b 5 (a + 1) d))
  case atStart => exact ⟨a + 1, 0, d, by go_num, rfl, by omega, by omega, by omega, by omega, HH.out, Lib.hid rfl⟩
  case round =>
    clear HH
    obtain ⟨i, s, dk, rfl, rfl, hs5, hg1, hai, hib, h1, HO⟩ := hrel
    have H1 := Lib.hid h1
    clear h1
    by_cases hs : s < 5
    · have hsz5 : (s : Int) < 5 := by omega
      go_wp2
      go_loopg [7] (b - i) (fun g2 vi wr2 => ∃ (kx : Nat), vi = .int .i64 (kx : Int) ∧ i ≤ kx ∧ kx ≤ b ∧ b - kx ≤ g2 ∧ AtO g n w0 (dk) wr2 ∧ Hid (scanSorted ltInt dk b kx = scanSorted ltInt dk b i))
      case atStart => exact ⟨i, rfl, Nat.le_refl _, hib, Nat.le_refl _, H1.out, Lib.hid rfl⟩
      case round =>
        clear H1
        obtain ⟨kx, rfl, hik, hkb, hg2, h2, HSc⟩ := hrel
        have H2 := Lib.hid h2
        clear h2
        by_cases hkb' : kx < b
        · have hkz : (kx : Int) < (b : Int) := by omega
          cases hlv : ltInt dk[kx]! dk[kx - 1]! with
          | false =>
            have kx0 : (0 : Int) ≤ (kx : Int) := by omega
            have kx1 : (kx : Int) < (n : Int) := by omega
            have ckx := H2.out.cell kx (by omega)
            obtain ⟨x, hx⟩ : ∃ x, x = (dk)[kx]! := ⟨_, rfl⟩
            rw [← hx] at ckx
            obtain ⟨p, hp⟩ : ∃ p : Nat, p = kx - 1 := ⟨_, rfl⟩
            have ep : (kx : Int) - 1 = (p : Int) := by omega
            have wp : IntKind.i64.wrap (p : Int) = (p : Int) := by rw [IntKind.wrap_i64]; omega
            have p0 : (0 : Int) ≤ (p : Int) := by omega
            have p1 : (p : Int) < (n : Int) := by omega
            have cp := H2.out.cell p (by omega)
            obtain ⟨y, hy⟩ : ∃ y, y = (dk)[p]! := ⟨_, rfl⟩
            rw [← hy] at cp
            have HPQ := Lib.hid (And.intro (And.intro (Eq.refl kx) hx) (And.intro hp hy))
            have fz := H2.out.frz
            have hl : ltInt x y = false := by rw [hx, hy, hp]; exact hlv
            have HVkx := Lib.hid hlv
            clear hx hy hp hlv
            go_wp2_with fail
            go_quiet ((go_at_call 58; exact Calls.quiet_of_same (less_u _ _ _)))
            have H3 := Lib.hid (H2.out.drewN nq)
            clear HPQ hl ckx cp kx0 kx1 p0 p1 ep wp fz
            go_wp2
            go_roundg (b - (kx + 1))
            case measure => omega
            case rel => exact ⟨kx + 1, by go_num, by omega, by omega, Nat.le_refl _, H3.out, Lib.hid (by rw [← HSc.out, scanSorted_go ltInt dk b kx hkb' HVkx.out])⟩
          | true =>
            have HK : Hid (scanSorted ltInt dk b i = kx) := Lib.hid (by rw [← HSc.out, scanSorted_stop ltInt dk b kx (Or.inr hlv)])
            have kx0 : (0 : Int) ≤ (kx : Int) := by omega
            have kx1 : (kx : Int) < (n : Int) := by omega
            have ckx := H2.out.cell kx (by omega)
            obtain ⟨x, hx⟩ : ∃ x, x = (dk)[kx]! := ⟨_, rfl⟩
            rw [← hx] at ckx
            obtain ⟨p, hp⟩ : ∃ p : Nat, p = kx - 1 := ⟨_, rfl⟩
            have ep : (kx : Int) - 1 = (p : Int) := by omega
            have wp : IntKind.i64.wrap (p : Int) = (p : Int) := by rw [IntKind.wrap_i64]; omega
            have p0 : (0 : Int) ≤ (p : Int) := by omega
            have p1 : (p : Int) < (n : Int) := by omega
            have cp := H2.out.cell p (by omega)
            obtain ⟨y, hy⟩ : ∃ y, y = (dk)[p]! := ⟨_, rfl⟩
            rw [← hy] at cp
            have HPQ := Lib.hid (And.intro (And.intro (Eq.refl kx) hx) (And.intro hp hy))
            have fz := H2.out.frz
            have hl : ltInt x y = true := by rw [hx, hy, hp]; exact hlv
            have HVkx := Lib.hid hlv
            clear hx hy hp hlv
            go_wp2_with fail
            go_quiet ((go_at_call 58; exact Calls.quiet_of_same (less_u _ _ _)))
            have H3 := Lib.hid (H2.out.drewN nq)
            clear HPQ hl ckx cp kx0 kx1 p0 p1 ep wp fz
            go_upto_region 7 with fail
            obtain ⟨w3, hw3⟩ : ∃ X, X = wr.drewN nq := ⟨_, rfl⟩
            rw [← hw3] at H3 ⊢
            clear hw3
            clear H2
            have hkne : ((kx : Int) == (b : Int)) = false := beq_eq_false_iff_ne.2 (by omega)
            by_cases h50 : b - a < 50
            · have h50z : (b : Int) - (a : Int) < 50 := by omega
              go_wp2
              have hv : Sort.partialInsertionSort ltInt d a b = (dk, false) := by
                unfold Sort.partialInsertionSort
                rw [← HO.out, pi_short ltInt a b s i dk hs (by rw [HK.out]; omega) h50]
              refine bodyPost_ret (v := .bool false) (by simp [results, Tryd.results57, go_sem]) rfl ?_
              exact ⟨by rw [hv], by rw [hv]; exact H3.out⟩
            · have h50z : ¬ ((b : Int) - (a : Int) < 50) := by omega
              go_upto_region 11 with fail
              have kx0 : (0 : Int) ≤ (kx : Int) := by omega
              have kx1 : (kx : Int) < (n : Int) := by omega
              have ckx := H3.out.cell kx (by omega)
              obtain ⟨x, hx⟩ : ∃ x, x = (dk)[kx]! := ⟨_, rfl⟩
              rw [← hx] at ckx
              obtain ⟨p, hp⟩ : ∃ p : Nat, p = kx - 1 := ⟨_, rfl⟩
              have ep : (kx : Int) - 1 = (p : Int) := by omega
              have wp : IntKind.i64.wrap (p : Int) = (p : Int) := by rw [IntKind.wrap_i64]; omega
              have p0 : (0 : Int) ≤ (p : Int) := by omega
              have p1 : (p : Int) < (n : Int) := by omega
              have cp := H3.out.cell p (by omega)
              obtain ⟨y, hy⟩ : ∃ y, y = (dk)[p]! := ⟨_, rfl⟩
              rw [← hy] at cp
              have HPQ := Lib.hid (And.intro (And.intro (Eq.refl kx) hx) (And.intro hp hy))
              have fz := H3.out.frz
              clear hx hy hp 
              have hne : ¬ kx = p := by have := HPQ.out.2.1; omega
              have hne2 : ¬ p = kx := fun e => hne e.symm
              have HS := Lib.hid (H3.out.swapL HPQ.out (by omega) (by omega))
              go_region
              obtain ⟨w5, hw5⟩ : ∃ X, X = ((w3.setCell ⟨g, kx, none⟩ (.int .u64 y)).setCell ⟨g, p, none⟩ (.int .u64 x)).drew := ⟨_, rfl⟩
              have H5 : Hid (AtO g n w0 (swp (dk) kx (kx - 1)) w5) := Lib.hid (by rw [hw5]; exact HS.out 1)
              rw [← hw5]
              clear hw5 HS HPQ hne hne2 ckx cp kx0 kx1 p0 p1 ep wp fz
              clear H3
              by_cases hka : kx - a ≥ 2
              · have hkaz : (2 : Int) ≤ (kx : Int) - (a : Int) := by omega
                have ekk : (kx : Int) - 1 = ((kx - 1 : Nat) : Int) := by omega
                go_wp2
                go_loopg [9] (kx - 1) (fun g3 vj wr3 => ∃ (j : Nat) (dj : Array Int), vj = .int .i64 (j : Int) ∧ j ≤ kx - 1 ∧ j ≤ g3 ∧ AtO g n w0 (dj) wr3 ∧ Hid (shiftDown ltInt j dj = shiftDown ltInt (kx - 1) (swp dk kx (kx - 1))))
                case atStart => exact ⟨kx - 1, swp dk kx (kx - 1), by congr 1, Nat.le_refl _, Nat.le_refl _, H5.out, Lib.hid rfl⟩
                case round =>
                  clear H5 ekk
                  obtain ⟨j, dj, rfl, hjk, hg3, h4, HDn⟩ := hrel
                  have H4 := Lib.hid h4
                  clear h4
                  by_cases hj1 : 1 ≤ j
                  · have hj1z : (1 : Int) ≤ (j : Int) := by omega
                    cases hlv2 : ltInt dj[j]! dj[j - 1]! with
                    | true =>
                      have j0 : (0 : Int) ≤ (j : Int) := by omega
                      have j1 : (j : Int) < (n : Int) := by omega
                      have cj := H4.out.cell j (by omega)
                      obtain ⟨x, hx⟩ : ∃ x, x = (dj)[j]! := ⟨_, rfl⟩
                      rw [← hx] at cj
                      obtain ⟨p, hp⟩ : ∃ p : Nat, p = j - 1 := ⟨_, rfl⟩
                      have ep : (j : Int) - 1 = (p : Int) := by omega
                      have wp : IntKind.i64.wrap (p : Int) = (p : Int) := by rw [IntKind.wrap_i64]; omega
                      have p0 : (0 : Int) ≤ (p : Int) := by omega
                      have p1 : (p : Int) < (n : Int) := by omega
                      have cp := H4.out.cell p (by omega)
                      obtain ⟨y, hy⟩ : ∃ y, y = (dj)[p]! := ⟨_, rfl⟩
                      rw [← hy] at cp
                      have HPQ := Lib.hid (And.intro (And.intro (Eq.refl j) hx) (And.intro hp hy))
                      have fz := H4.out.frz
                      have hl : ltInt x y = true := by rw [hx, hy, hp]; exact hlv2
                      have HVj := Lib.hid hlv2
                      clear hx hy hp hlv2
                      go_wp2_with fail
                      go_quiet ((go_at_call 58; exact Calls.quiet_of_same (less_u _ _ _)))
                      have H6 := Lib.hid (H4.out.drewN nq)
                      clear HPQ hl cj cp j0 j1 p0 p1 ep wp fz
                      go_upto_region 17 with fail
                      obtain ⟨w6, hw6⟩ : ∃ X, X = wr.drewN nq := ⟨_, rfl⟩
                      rw [← hw6] at H6 ⊢
                      clear hw6
                      have j0 : (0 : Int) ≤ (j : Int) := by omega
                      have j1 : (j : Int) < (n : Int) := by omega
                      have cj := H6.out.cell j (by omega)
                      obtain ⟨x, hx⟩ : ∃ x, x = (dj)[j]! := ⟨_, rfl⟩
                      rw [← hx] at cj
                      obtain ⟨p, hp⟩ : ∃ p : Nat, p = j - 1 := ⟨_, rfl⟩
                      have ep : (j : Int) - 1 = (p : Int) := by omega
                      have wp : IntKind.i64.wrap (p : Int) = (p : Int) := by rw [IntKind.wrap_i64]; omega
                      have p0 : (0 : Int) ≤ (p : Int) := by omega
                      have p1 : (p : Int) < (n : Int) := by omega
                      have cp := H6.out.cell p (by omega)
                      obtain ⟨y, hy⟩ : ∃ y, y = (dj)[p]! := ⟨_, rfl⟩
                      rw [← hy] at cp
                      have HPQ := Lib.hid (And.intro (And.intro (Eq.refl j) hx) (And.intro hp hy))
                      have fz := H6.out.frz
                      clear hx hy hp 
                      have hne : ¬ j = p := by have := HPQ.out.2.1; omega
                      have hne2 : ¬ p = j := fun e => hne e.symm
                      have HS := Lib.hid (H6.out.swapL HPQ.out (by omega) (by omega))
                      go_region
                      obtain ⟨w7, hw7⟩ : ∃ X, X = ((w6.setCell ⟨g, j, none⟩ (.int .u64 y)).setCell ⟨g, p, none⟩ (.int .u64 x)).drew := ⟨_, rfl⟩
                      have H7 : Hid (AtO g n w0 (swp (dj) j (j - 1)) w7) := Lib.hid (by rw [hw7]; exact HS.out 1)
                      rw [← hw7]
                      clear hw7 HS HPQ hne hne2 cj cp j0 j1 p0 p1 ep wp fz
                      have ejj : (j : Int) - 1 = ((j - 1 : Nat) : Int) := by omega
                      go_wp2
                      go_roundg (j - 1)
                      case measure => omega
                      case rel => exact ⟨j - 1, swp dj j (j - 1), by congr 1, by omega, Nat.le_refl _, H7.out, Lib.hid (by rw [← HDn.out, shiftDown_go ltInt j dj hj1 HVj.out])⟩
                    | false =>
                      have j0 : (0 : Int) ≤ (j : Int) := by omega
                      have j1 : (j : Int) < (n : Int) := by omega
                      have cj := H4.out.cell j (by omega)
                      obtain ⟨x, hx⟩ : ∃ x, x = (dj)[j]! := ⟨_, rfl⟩
                      rw [← hx] at cj
                      obtain ⟨p, hp⟩ : ∃ p : Nat, p = j - 1 := ⟨_, rfl⟩
                      have ep : (j : Int) - 1 = (p : Int) := by omega
                      have wp : IntKind.i64.wrap (p : Int) = (p : Int) := by rw [IntKind.wrap_i64]; omega
                      have p0 : (0 : Int) ≤ (p : Int) := by omega
                      have p1 : (p : Int) < (n : Int) := by omega
                      have cp := H4.out.cell p (by omega)
                      obtain ⟨y, hy⟩ : ∃ y, y = (dj)[p]! := ⟨_, rfl⟩
                      rw [← hy] at cp
                      have HPQ := Lib.hid (And.intro (And.intro (Eq.refl j) hx) (And.intro hp hy))
                      have fz := H4.out.frz
                      have hl : ltInt x y = false := by rw [hx, hy, hp]; exact hlv2
                      have HVj := Lib.hid hlv2
                      clear hx hy hp hlv2
                      go_wp2_with fail
                      go_quiet ((go_at_call 58; exact Calls.quiet_of_same (less_u _ _ _)))
                      have H6 := Lib.hid (H4.out.drewN nq)
                      clear HPQ hl cj cp j0 j1 p0 p1 ep wp fz
                      go_upto_region 18 with fail
                      obtain ⟨w6, hw6⟩ : ∃ X, X = wr.drewN nq := ⟨_, rfl⟩
                      rw [← hw6] at H6 ⊢
                      clear hw6
                      have HDD : Hid (fixDown ltInt a kx (swp dk kx (kx - 1)) = dj) := Lib.hid (by unfold fixDown; rw [if_pos hka, ← HDn.out, shiftDown_stop ltInt j dj (Or.inr HVj.out)])
                      clear H4
                      by_cases hbk : b - kx ≥ 2
                      · have hbkz : (2 : Int) ≤ (b : Int) - (kx : Int) := by omega
                        go_wp2
                        go_loopg [10] (b - (kx + 1)) (fun g4 vj wr4 => ∃ (ju : Nat) (du : Array Int), vj = .int .i64 (ju : Int) ∧ kx + 1 ≤ ju ∧ ju ≤ b ∧ b - ju ≤ g4 ∧ AtO g n w0 (du) wr4 ∧ Hid (shiftUp ltInt b ju du = shiftUp ltInt b (kx + 1) (dj)))
                        case atStart => exact ⟨kx + 1, dj, by go_num, Nat.le_refl _, by omega, Nat.le_refl _, H6.out, Lib.hid rfl⟩
                        case round =>
                          clear H6
                          obtain ⟨ju, du, rfl, hkj, hjb, hg4, h8, HU⟩ := hrel
                          have H8 := Lib.hid h8
                          clear h8
                          by_cases hjb' : ju < b
                          · have hjz : (ju : Int) < (b : Int) := by omega
                            cases hlv3 : ltInt du[ju]! du[ju - 1]! with
                            | true =>
                              have ju0 : (0 : Int) ≤ (ju : Int) := by omega
                              have ju1 : (ju : Int) < (n : Int) := by omega
                              have cju := H8.out.cell ju (by omega)
                              obtain ⟨x, hx⟩ : ∃ x, x = (du)[ju]! := ⟨_, rfl⟩
                              rw [← hx] at cju
                              obtain ⟨p, hp⟩ : ∃ p : Nat, p = ju - 1 := ⟨_, rfl⟩
                              have ep : (ju : Int) - 1 = (p : Int) := by omega
                              have wp : IntKind.i64.wrap (p : Int) = (p : Int) := by rw [IntKind.wrap_i64]; omega
                              have p0 : (0 : Int) ≤ (p : Int) := by omega
                              have p1 : (p : Int) < (n : Int) := by omega
                              have cp := H8.out.cell p (by omega)
                              obtain ⟨y, hy⟩ : ∃ y, y = (du)[p]! := ⟨_, rfl⟩
                              rw [← hy] at cp
                              have HPQ := Lib.hid (And.intro (And.intro (Eq.refl ju) hx) (And.intro hp hy))
                              have fz := H8.out.frz
                              have hl : ltInt x y = true := by rw [hx, hy, hp]; exact hlv3
                              have HVju := Lib.hid hlv3
                              clear hx hy hp hlv3
                              go_wp2_with fail
                              go_quiet ((go_at_call 58; exact Calls.quiet_of_same (less_u _ _ _)))
                              have H9 := Lib.hid (H8.out.drewN nq)
                              clear HPQ hl cju cp ju0 ju1 p0 p1 ep wp fz
                              go_upto_region 23 with fail
                              obtain ⟨w9, hw9⟩ : ∃ X, X = wr.drewN nq := ⟨_, rfl⟩
                              rw [← hw9] at H9 ⊢
                              clear hw9
                              have ju0 : (0 : Int) ≤ (ju : Int) := by omega
                              have ju1 : (ju : Int) < (n : Int) := by omega
                              have cju := H9.out.cell ju (by omega)
                              obtain ⟨x, hx⟩ : ∃ x, x = (du)[ju]! := ⟨_, rfl⟩
                              rw [← hx] at cju
                              obtain ⟨p, hp⟩ : ∃ p : Nat, p = ju - 1 := ⟨_, rfl⟩
                              have ep : (ju : Int) - 1 = (p : Int) := by omega
                              have wp : IntKind.i64.wrap (p : Int) = (p : Int) := by rw [IntKind.wrap_i64]; omega
                              have p0 : (0 : Int) ≤ (p : Int) := by omega
                              have p1 : (p : Int) < (n : Int) := by omega
                              have cp := H9.out.cell p (by omega)
                              obtain ⟨y, hy⟩ : ∃ y, y = (du)[p]! := ⟨_, rfl⟩
                              rw [← hy] at cp
                              have HPQ := Lib.hid (And.intro (And.intro (Eq.refl ju) hx) (And.intro hp hy))
                              have fz := H9.out.frz
                              clear hx hy hp 
                              have hne : ¬ ju = p := by have := HPQ.out.2.1; omega
                              have hne2 : ¬ p = ju := fun e => hne e.symm
                              have HS := Lib.hid (H9.out.swapL HPQ.out (by omega) (by omega))
                              go_region
                              obtain ⟨w10, hw10⟩ : ∃ X, X = ((w9.setCell ⟨g, ju, none⟩ (.int .u64 y)).setCell ⟨g, p, none⟩ (.int .u64 x)).drew := ⟨_, rfl⟩
                              have H10 : Hid (AtO g n w0 (swp (du) ju (ju - 1)) w10) := Lib.hid (by rw [hw10]; exact HS.out 1)
                              rw [← hw10]
                              clear hw10 HS HPQ hne hne2 cju cp ju0 ju1 p0 p1 ep wp fz
                              go_wp2
                              go_roundg (b - (ju + 1))
                              case measure => omega
                              case rel => exact ⟨ju + 1, swp du ju (ju - 1), by go_num, by omega, by omega, Nat.le_refl _, H10.out, Lib.hid (by rw [← HU.out, shiftUp_go ltInt b ju du hjb' HVju.out])⟩
                            | false =>
                              have ju0 : (0 : Int) ≤ (ju : Int) := by omega
                              have ju1 : (ju : Int) < (n : Int) := by omega
                              have cju := H8.out.cell ju (by omega)
                              obtain ⟨x, hx⟩ : ∃ x, x = (du)[ju]! := ⟨_, rfl⟩
                              rw [← hx] at cju
                              obtain ⟨p, hp⟩ : ∃ p : Nat, p = ju - 1 := ⟨_, rfl⟩
                              have ep : (ju : Int) - 1 = (p : Int) := by omega
                              have wp : IntKind.i64.wrap (p : Int) = (p : Int) := by rw [IntKind.wrap_i64]; omega
                              have p0 : (0 : Int) ≤ (p : Int) := by omega
                              have p1 : (p : Int) < (n : Int) := by omega
                              have cp := H8.out.cell p (by omega)
                              obtain ⟨y, hy⟩ : ∃ y, y = (du)[p]! := ⟨_, rfl⟩
                              rw [← hy] at cp
                              have HPQ := Lib.hid (And.intro (And.intro (Eq.refl ju) hx) (And.intro hp hy))
                              have fz := H8.out.frz
                              have hl : ltInt x y = false := by rw [hx, hy, hp]; exact hlv3
                              have HVju := Lib.hid hlv3
                              clear hx hy hp hlv3
                              go_wp2_with fail
                              go_quiet ((go_at_call 58; exact Calls.quiet_of_same (less_u _ _ _)))
                              have H9 := Lib.hid (H8.out.drewN nq)
                              clear HPQ hl cju cp ju0 ju1 p0 p1 ep wp fz
                              go_wp2
                              go_roundg (5 - (s + 1))
                              case measure => omega
                              case rel => exact ⟨kx, s + 1, du, rfl, by go_num, by omega, Nat.le_refl _, by omega, by omega, H9.out, Lib.hid (by rw [← HO.out, pi_go ltInt a b s i kx dk hs HK.out (by omega) h50, HDD.out, show fixUp ltInt b kx (dj) = du from by unfold fixUp; rw [if_pos hbk, ← HU.out, shiftUp_stop ltInt b ju du (Or.inr HVju.out)]])⟩
                          · have hjz : decide ((ju : Int) < (b : Int)) = false := decide_eq_false (by omega)
                            go_wp2
                            go_roundg (5 - (s + 1))
                            case measure => omega
                            case rel => exact ⟨kx, s + 1, du, rfl, by go_num, by omega, Nat.le_refl _, by omega, by omega, H8.out, Lib.hid (by rw [← HO.out, pi_go ltInt a b s i kx dk hs HK.out (by omega) h50, HDD.out, show fixUp ltInt b kx (dj) = du from by unfold fixUp; rw [if_pos hbk, ← HU.out, shiftUp_stop ltInt b ju du (Or.inl hjb')]])⟩
                      · have hbkz : ¬ (2 : Int) ≤ (b : Int) - (kx : Int) := by omega
                        go_wp2
                        go_roundg (5 - (s + 1))
                        case measure => omega
                        case rel => exact ⟨kx, s + 1, dj, rfl, by go_num, by omega, Nat.le_refl _, by omega, by omega, H6.out, Lib.hid (by rw [← HO.out, pi_go ltInt a b s i kx dk hs HK.out (by omega) h50, HDD.out, show fixUp ltInt b kx (dj) = dj from by unfold fixUp; rw [if_neg hbk]])⟩
                  · have hj1z : ¬ (1 : Int) ≤ (j : Int) := by omega
                    have HDD : Hid (fixDown ltInt a kx (swp dk kx (kx - 1)) = dj) := Lib.hid (by unfold fixDown; rw [if_pos hka, ← HDn.out, shiftDown_stop ltInt j dj (Or.inl (by omega))])
                    by_cases hbk : b - kx ≥ 2
                    · have hbkz : (2 : Int) ≤ (b : Int) - (kx : Int) := by omega
                      go_wp2
                      go_loopg [10] (b - (kx + 1)) (fun g4 vj wr4 => ∃ (ju : Nat) (du : Array Int), vj = .int .i64 (ju : Int) ∧ kx + 1 ≤ ju ∧ ju ≤ b ∧ b - ju ≤ g4 ∧ AtO g n w0 (du) wr4 ∧ Hid (shiftUp ltInt b ju du = shiftUp ltInt b (kx + 1) (dj)))
                      case atStart => exact ⟨kx + 1, dj, by go_num, Nat.le_refl _, by omega, Nat.le_refl _, H4.out, Lib.hid rfl⟩
                      case round =>
                        clear H4
                        obtain ⟨ju, du, rfl, hkj, hjb, hg4, h8, HU⟩ := hrel
                        have H8 := Lib.hid h8
                        clear h8
                        by_cases hjb' : ju < b
                        · have hjz : (ju : Int) < (b : Int) := by omega
                          cases hlv3 : ltInt du[ju]! du[ju - 1]! with
                          | true =>
                            have ju0 : (0 : Int) ≤ (ju : Int) := by omega
                            have ju1 : (ju : Int) < (n : Int) := by omega
                            have cju := H8.out.cell ju (by omega)
                            obtain ⟨x, hx⟩ : ∃ x, x = (du)[ju]! := ⟨_, rfl⟩
                            rw [← hx] at cju
                            obtain ⟨p, hp⟩ : ∃ p : Nat, p = ju - 1 := ⟨_, rfl⟩
                            have ep : (ju : Int) - 1 = (p : Int) := by omega
                            have wp : IntKind.i64.wrap (p : Int) = (p : Int) := by rw [IntKind.wrap_i64]; omega
                            have p0 : (0 : Int) ≤ (p : Int) := by omega
                            have p1 : (p : Int) < (n : Int) := by omega
                            have cp := H8.out.cell p (by omega)
                            obtain ⟨y, hy⟩ : ∃ y, y = (du)[p]! := ⟨_, rfl⟩
                            rw [← hy] at cp
                            have HPQ := Lib.hid (And.intro (And.intro (Eq.refl ju) hx) (And.intro hp hy))
                            have fz := H8.out.frz
                            have hl : ltInt x y = true := by rw [hx, hy, hp]; exact hlv3
                            have HVju := Lib.hid hlv3
                            clear hx hy hp hlv3
                            go_wp2_with fail
                            go_quiet ((go_at_call 58; exact Calls.quiet_of_same (less_u _ _ _)))
                            have H9 := Lib.hid (H8.out.drewN nq)
                            clear HPQ hl cju cp ju0 ju1 p0 p1 ep wp fz
                            go_upto_region 23 with fail
                            obtain ⟨w9, hw9⟩ : ∃ X, X = wr.drewN nq := ⟨_, rfl⟩
                            rw [← hw9] at H9 ⊢
                            clear hw9
                            have ju0 : (0 : Int) ≤ (ju : Int) := by omega
                            have ju1 : (ju : Int) < (n : Int) := by omega
                            have cju := H9.out.cell ju (by omega)
                            obtain ⟨x, hx⟩ : ∃ x, x = (du)[ju]! := ⟨_, rfl⟩
                            rw [← hx] at cju
                            obtain ⟨p, hp⟩ : ∃ p : Nat, p = ju - 1 := ⟨_, rfl⟩
                            have ep : (ju : Int) - 1 = (p : Int) := by omega
                            have wp : IntKind.i64.wrap (p : Int) = (p : Int) := by rw [IntKind.wrap_i64]; omega
                            have p0 : (0 : Int) ≤ (p : Int) := by omega
                            have p1 : (p : Int) < (n : Int) := by omega
                            have cp := H9.out.cell p (by omega)
                            obtain ⟨y, hy⟩ : ∃ y, y = (du)[p]! := ⟨_, rfl⟩
                            rw [← hy] at cp
                            have HPQ := Lib.hid (And.intro (And.intro (Eq.refl ju) hx) (And.intro hp hy))
                            have fz := H9.out.frz
                            clear hx hy hp 
                            have hne : ¬ ju = p := by have := HPQ.out.2.1; omega
                            have hne2 : ¬ p = ju := fun e => hne e.symm
                            have HS := Lib.hid (H9.out.swapL HPQ.out (by omega) (by omega))
                            go_region
                            obtain ⟨w10, hw10⟩ : ∃ X, X = ((w9.setCell ⟨g, ju, none⟩ (.int .u64 y)).setCell ⟨g, p, none⟩ (.int .u64 x)).drew := ⟨_, rfl⟩
                            have H10 : Hid (AtO g n w0 (swp (du) ju (ju - 1)) w10) := Lib.hid (by rw [hw10]; exact HS.out 1)
                            rw [← hw10]
                            clear hw10 HS HPQ hne hne2 cju cp ju0 ju1 p0 p1 ep wp fz
                            go_wp2
                            go_roundg (b - (ju + 1))
                            case measure => omega
                            case rel => exact ⟨ju + 1, swp du ju (ju - 1), by go_num, by omega, by omega, Nat.le_refl _, H10.out, Lib.hid (by rw [← HU.out, shiftUp_go ltInt b ju du hjb' HVju.out])⟩
                          | false =>
                            have ju0 : (0 : Int) ≤ (ju : Int) := by omega
                            have ju1 : (ju : Int) < (n : Int) := by omega
                            have cju := H8.out.cell ju (by omega)
                            obtain ⟨x, hx⟩ : ∃ x, x = (du)[ju]! := ⟨_, rfl⟩
                            rw [← hx] at cju
                            obtain ⟨p, hp⟩ : ∃ p : Nat, p = ju - 1 := ⟨_, rfl⟩
                            have ep : (ju : Int) - 1 = (p : Int) := by omega
                            have wp : IntKind.i64.wrap (p : Int) = (p : Int) := by rw [IntKind.wrap_i64]; omega
                            have p0 : (0 : Int) ≤ (p : Int) := by omega
                            have p1 : (p : Int) < (n : Int) := by omega
                            have cp := H8.out.cell p (by omega)
                            obtain ⟨y, hy⟩ : ∃ y, y = (du)[p]! := ⟨_, rfl⟩
                            rw [← hy] at cp
                            have HPQ := Lib.hid (And.intro (And.intro (Eq.refl ju) hx) (And.intro hp hy))
                            have fz := H8.out.frz
                            have hl : ltInt x y = false := by rw [hx, hy, hp]; exact hlv3
                            have HVju := Lib.hid hlv3
                            clear hx hy hp hlv3
                            go_wp2_with fail
                            go_quiet ((go_at_call 58; exact Calls.quiet_of_same (less_u _ _ _)))
                            have H9 := Lib.hid (H8.out.drewN nq)
                            clear HPQ hl cju cp ju0 ju1 p0 p1 ep wp fz
                            go_wp2
                            go_roundg (5 - (s + 1))
                            case measure => omega
                            case rel => exact ⟨kx, s + 1, du, rfl, by go_num, by omega, Nat.le_refl _, by omega, by omega, H9.out, Lib.hid (by rw [← HO.out, pi_go ltInt a b s i kx dk hs HK.out (by omega) h50, HDD.out, show fixUp ltInt b kx (dj) = du from by unfold fixUp; rw [if_pos hbk, ← HU.out, shiftUp_stop ltInt b ju du (Or.inr HVju.out)]])⟩
                        · have hjz : decide ((ju : Int) < (b : Int)) = false := decide_eq_false (by omega)
                          go_wp2
                          go_roundg (5 - (s + 1))
                          case measure => omega
                          case rel => exact ⟨kx, s + 1, du, rfl, by go_num, by omega, Nat.le_refl _, by omega, by omega, H8.out, Lib.hid (by rw [← HO.out, pi_go ltInt a b s i kx dk hs HK.out (by omega) h50, HDD.out, show fixUp ltInt b kx (dj) = du from by unfold fixUp; rw [if_pos hbk, ← HU.out, shiftUp_stop ltInt b ju du (Or.inl hjb')]])⟩
                    · have hbkz : ¬ (2 : Int) ≤ (b : Int) - (kx : Int) := by omega
                      go_wp2
                      go_roundg (5 - (s + 1))
                      case measure => omega
                      case rel => exact ⟨kx, s + 1, dj, rfl, by go_num, by omega, Nat.le_refl _, by omega, by omega, H4.out, Lib.hid (by rw [← HO.out, pi_go ltInt a b s i kx dk hs HK.out (by omega) h50, HDD.out, show fixUp ltInt b kx (dj) = dj from by unfold fixUp; rw [if_neg hbk]])⟩
              · have hkaz : ¬ (2 : Int) ≤ (kx : Int) - (a : Int) := by omega
                have HDD : Hid (fixDown ltInt a kx (swp dk kx (kx - 1)) = swp dk kx (kx - 1)) := Lib.hid (by unfold fixDown; rw [if_neg hka])
                by_cases hbk : b - kx ≥ 2
                · have hbkz : (2 : Int) ≤ (b : Int) - (kx : Int) := by omega
                  go_wp2
                  go_loopg [10] (b - (kx + 1)) (fun g4 vj wr4 => ∃ (ju : Nat) (du : Array Int), vj = .int .i64 (ju : Int) ∧ kx + 1 ≤ ju ∧ ju ≤ b ∧ b - ju ≤ g4 ∧ AtO g n w0 (du) wr4 ∧ Hid (shiftUp ltInt b ju du = shiftUp ltInt b (kx + 1) (swp dk kx (kx - 1))))
                  case atStart => exact ⟨kx + 1, swp dk kx (kx - 1), by go_num, Nat.le_refl _, by omega, Nat.le_refl _, H5.out, Lib.hid rfl⟩
                  case round =>
                    clear H5
                    obtain ⟨ju, du, rfl, hkj, hjb, hg4, h8, HU⟩ := hrel
                    have H8 := Lib.hid h8
                    clear h8
                    by_cases hjb' : ju < b
                    · have hjz : (ju : Int) < (b : Int) := by omega
                      cases hlv3 : ltInt du[ju]! du[ju - 1]! with
                      | true =>
                        have ju0 : (0 : Int) ≤ (ju : Int) := by omega
                        have ju1 : (ju : Int) < (n : Int) := by omega
                        have cju := H8.out.cell ju (by omega)
                        obtain ⟨x, hx⟩ : ∃ x, x = (du)[ju]! := ⟨_, rfl⟩
                        rw [← hx] at cju
                        obtain ⟨p, hp⟩ : ∃ p : Nat, p = ju - 1 := ⟨_, rfl⟩
                        have ep : (ju : Int) - 1 = (p : Int) := by omega
                        have wp : IntKind.i64.wrap (p : Int) = (p : Int) := by rw [IntKind.wrap_i64]; omega
                        have p0 : (0 : Int) ≤ (p : Int) := by omega
                        have p1 : (p : Int) < (n : Int) := by omega
                        have cp := H8.out.cell p (by omega)
                        obtain ⟨y, hy⟩ : ∃ y, y = (du)[p]! := ⟨_, rfl⟩
                        rw [← hy] at cp
                        have HPQ := Lib.hid (And.intro (And.intro (Eq.refl ju) hx) (And.intro hp hy))
                        have fz := H8.out.frz
                        have hl : ltInt x y = true := by rw [hx, hy, hp]; exact hlv3
                        have HVju := Lib.hid hlv3
                        clear hx hy hp hlv3
                        go_wp2_with fail
                        go_quiet ((go_at_call 58; exact Calls.quiet_of_same (less_u _ _ _)))
                        have H9 := Lib.hid (H8.out.drewN nq)
                        clear HPQ hl cju cp ju0 ju1 p0 p1 ep wp fz
                        go_upto_region 23 with fail
                        obtain ⟨w9, hw9⟩ : ∃ X, X = wr.drewN nq := ⟨_, rfl⟩
                        rw [← hw9] at H9 ⊢
                        clear hw9
                        have ju0 : (0 : Int) ≤ (ju : Int) := by omega
                        have ju1 : (ju : Int) < (n : Int) := by omega
                        have cju := H9.out.cell ju (by omega)
                        obtain ⟨x, hx⟩ : ∃ x, x = (du)[ju]! := ⟨_, rfl⟩
                        rw [← hx] at cju
                        obtain ⟨p, hp⟩ : ∃ p : Nat, p = ju - 1 := ⟨_, rfl⟩
                        have ep : (ju : Int) - 1 = (p : Int) := by omega
                        have wp : IntKind.i64.wrap (p : Int) = (p : Int) := by rw [IntKind.wrap_i64]; omega
                        have p0 : (0 : Int) ≤ (p : Int) := by omega
                        have p1 : (p : Int) < (n : Int) := by omega
                        have cp := H9.out.cell p (by omega)
                        obtain ⟨y, hy⟩ : ∃ y, y = (du)[p]! := ⟨_, rfl⟩
                        rw [← hy] at cp
                        have HPQ := Lib.hid (And.intro (And.intro (Eq.refl ju) hx) (And.intro hp hy))
                        have fz := H9.out.frz
                        clear hx hy hp 
                        have hne : ¬ ju = p := by have := HPQ.out.2.1; omega
                        have hne2 : ¬ p = ju := fun e => hne e.symm
                        have HS := Lib.hid (H9.out.swapL HPQ.out (by omega) (by omega))
                        go_region
                        obtain ⟨w10, hw10⟩ : ∃ X, X = ((w9.setCell ⟨g, ju, none⟩ (.int .u64 y)).setCell ⟨g, p, none⟩ (.int .u64 x)).drew := ⟨_, rfl⟩
                        have H10 : Hid (AtO g n w0 (swp (du) ju (ju - 1)) w10) := Lib.hid (by rw [hw10]; exact HS.out 1)
                        rw [← hw10]
                        clear hw10 HS HPQ hne hne2 cju cp ju0 ju1 p0 p1 ep wp fz
                        go_wp2
                        go_roundg (b - (ju + 1))
                        case measure => omega
                        case rel => exact ⟨ju + 1, swp du ju (ju - 1), by go_num, by omega, by omega, Nat.le_refl _, H10.out, Lib.hid (by rw [← HU.out, shiftUp_go ltInt b ju du hjb' HVju.out])⟩
                      | false =>
                        have ju0 : (0 : Int) ≤ (ju : Int) := by omega
                        have ju1 : (ju : Int) < (n : Int) := by omega
                        have cju := H8.out.cell ju (by omega)
                        obtain ⟨x, hx⟩ : ∃ x, x = (du)[ju]! := ⟨_, rfl⟩
                        rw [← hx] at cju
                        obtain ⟨p, hp⟩ : ∃ p : Nat, p = ju - 1 := ⟨_, rfl⟩
                        have ep : (ju : Int) - 1 = (p : Int) := by omega
                        have wp : IntKind.i64.wrap (p : Int) = (p : Int) := by rw [IntKind.wrap_i64]; omega
                        have p0 : (0 : Int) ≤ (p : Int) := by omega
                        have p1 : (p : Int) < (n : Int) := by omega
                        have cp := H8.out.cell p (by omega)
                        obtain ⟨y, hy⟩ : ∃ y, y = (du)[p]! := ⟨_, rfl⟩
                        rw [← hy] at cp
                        have HPQ := Lib.hid (And.intro (And.intro (Eq.refl ju) hx) (And.intro hp hy))
                        have fz := H8.out.frz
                        have hl : ltInt x y = false := by rw [hx, hy, hp]; exact hlv3
                        have HVju := Lib.hid hlv3
                        clear hx hy hp hlv3
                        go_wp2_with fail
                        go_quiet ((go_at_call 58; exact Calls.quiet_of_same (less_u _ _ _)))
                        have H9 := Lib.hid (H8.out.drewN nq)
                        clear HPQ hl cju cp ju0 ju1 p0 p1 ep wp fz
                        go_wp2
                        go_roundg (5 - (s + 1))
                        case measure => omega
                        case rel => exact ⟨kx, s + 1, du, rfl, by go_num, by omega, Nat.le_refl _, by omega, by omega, H9.out, Lib.hid (by rw [← HO.out, pi_go ltInt a b s i kx dk hs HK.out (by omega) h50, HDD.out, show fixUp ltInt b kx (swp dk kx (kx - 1)) = du from by unfold fixUp; rw [if_pos hbk, ← HU.out, shiftUp_stop ltInt b ju du (Or.inr HVju.out)]])⟩
                    · have hjz : decide ((ju : Int) < (b : Int)) = false := decide_eq_false (by omega)
                      go_wp2
                      go_roundg (5 - (s + 1))
                      case measure => omega
                      case rel => exact ⟨kx, s + 1, du, rfl, by go_num, by omega, Nat.le_refl _, by omega, by omega, H8.out, Lib.hid (by rw [← HO.out, pi_go ltInt a b s i kx dk hs HK.out (by omega) h50, HDD.out, show fixUp ltInt b kx (swp dk kx (kx - 1)) = du from by unfold fixUp; rw [if_pos hbk, ← HU.out, shiftUp_stop ltInt b ju du (Or.inl hjb')]])⟩
                · exfalso; omega
        · have hkz : decide ((kx : Int) < (b : Int)) = false := decide_eq_false (by omega)
          have hkeb : ((kx : Int) == (b : Int)) = true := by simp; omega
          have hv : Sort.partialInsertionSort ltInt d a b = (dk, true) := by
            unfold Sort.partialInsertionSort
            rw [← HO.out, pi_true ltInt a b s i dk hs (by rw [← HSc.out, scanSorted_stop ltInt dk b kx (Or.inl (by omega))]; omega)]
          have HV := Lib.hid hv
          clear hv
          go_wp2_with fail
          go_quiet ((go_at_call 58; exact Calls.quiet_of_same (less_u _ _ _)))
          have H3 := Lib.hid (H2.out.drewN nq)
          go_wp2
          refine bodyPost_ret (v := .bool true) (by simp [results, Tryd.results57, go_sem]) rfl ?_
          exact ⟨by rw [HV.out], by rw [HV.out]; exact H3.out⟩
    · have hs6 : s = 5 := by omega
      subst hs6
      have hv : Sort.partialInsertionSort ltInt d a b = (dk, false) := by
        unfold Sort.partialInsertionSort
        rw [← HO.out, pi_end ltInt a b i dk]
      have HV := Lib.hid hv
      clear hv
      go_wp2
      refine bodyPost_ret (v := .bool false) (by simp [results, Tryd.results57, go_sem]) rfl ?_
      exact ⟨by rw [HV.out], by rw [HV.out]; exact H1.out⟩
end Go.Proofs.YtdljphbfbiganaaDoor.So
/- partitionEqual -/
namespace Go.Proofs.YtdljphbfbiganaaDoor.So
open Go Go.RowKit Go.Sort Go.Proofs Go.Lib
set_option linter.unusedVariables false

set_option maxHeartbeats 12800000 in
set_option maxRecDepth 20000 in
theorem peq_any (g n cap : Nat) (hn : n < 4611686018427387904) (a b pivot : Nat) (hap : a ≤ pivot) (hpb : pivot < b) (hb : b ≤ n) (d : Array Int) (w0 w : World) (H0 : AtO g n w0 d w) :
    Calls Tryd.prog 59 #[.slice (some ⟨g, 0, none⟩) n cap, .int .i64 (a : Int), .int .i64 (b : Int), .int .i64 (pivot : Int)] w fun e w' => e = .returned (.int .i64 ((Sort.partitionEqual ltInt d a b pivot).1 : Int)) ∧ AtO g n w0 ((Sort.partitionEqual ltInt d a b pivot).2) w' := by
  have HH := Lib.hid H0
  clear H0
  go_enter Tryd.func59, Tryd.ntmps59
  go_upto_region 1 with fail
  go_cut [] (fun wx => AtO g n w0 (Sort.swp d a pivot) wx)
  case first =>
    by_cases hpq : a = pivot
    · subst hpq
      have a0 : (0 : Int) ≤ (a : Int) := by omega
      have a1 : (a : Int) < (n : Int) := by omega
      have ca := HH.out.cell a (by omega)
      obtain ⟨x, hx⟩ : ∃ x, x = (d)[a]! := ⟨_, rfl⟩
      rw [← hx] at ca
      have fz := HH.out.frz
      have HS := Lib.hid (HH.out.swapL (p := a) (q := a) (P := a) (Q := a) (x := x) (y := x) ⟨⟨rfl, hx⟩, rfl, hx⟩ (by omega) (by omega))
      clear hx
      go_region
      go_wp2
      go_meet
      exact HS.out _
    · have hqp : ¬ pivot = a := fun e => hpq e.symm
      have a0 : (0 : Int) ≤ (a : Int) := by omega
      have a1 : (a : Int) < (n : Int) := by omega
      have ca := HH.out.cell a (by omega)
      obtain ⟨x, hx⟩ : ∃ x, x = (d)[a]! := ⟨_, rfl⟩
      rw [← hx] at ca
      have pivot0 : (0 : Int) ≤ (pivot : Int) := by omega
      have pivot1 : (pivot : Int) < (n : Int) := by omega
      have cpivot := HH.out.cell pivot (by omega)
      obtain ⟨y, hy⟩ : ∃ y, y = (d)[pivot]! := ⟨_, rfl⟩
      rw [← hy] at cpivot
      have HPQ := Lib.hid (And.intro (And.intro (Eq.refl a) hx) (And.intro (Eq.refl pivot) hy))
      have fz := HH.out.frz
      clear hx hy 
      have HS := Lib.hid (HH.out.swapL HPQ.out (by omega) (by omega))
      go_region
      go_wp2
      go_meet
      exact HS.out _
  case rest =>
    have HW := Lib.hid hcut
    clear hcut HH
    go_wp2
    go_loopw [9, 10] (fun vi vj wr => ∃ (i j : Nat) (dk : Array Int), vi = .int .i64 (i : Int) ∧ vj = .int .i64 (j : Int) ∧ a < i ∧ i ≤ j + 1 ∧ j < b ∧ AtO g n w0 dk wr ∧ Hid (Sort.partEqLoop ltInt a i j dk = Sort.partEqLoop ltInt a (a + 1) (b - 1) (Sort.swp d a pivot))) (fun vi vj _ => (intOf vj).toNat + 1 - (intOf vi).toNat)
    case atStart => exact ⟨a + 1, b - 1, Sort.swp d a pivot, by go_num, by go_num, by omega, by omega, by omega, HW.out, Lib.hid rfl⟩
    case round =>
      clear HW
      obtain ⟨i, j, dk, rfl, rfl, hai, hij, hjb, H, AE⟩ := hrel
      have HX := Lib.hid H
      clear H
      go_wp2
      go_loopw [9] (fun vi w1 => ∃ (iu : Nat), vi = .int .i64 (iu : Int) ∧ i ≤ iu ∧ iu ≤ j + 1 ∧ AtO g n w0 dk w1 ∧ Hid (Sort.scanUp (fun x => !ltInt dk[a]! x) dk j iu = Sort.scanUp (fun x => !ltInt dk[a]! x) dk j i)) (fun vi _ => j + 1 - (intOf vi).toNat)
      case atStart => exact ⟨i, rfl, Nat.le_refl _, hij, HX.out, Lib.hid rfl⟩
      case round =>
        clear HX
        obtain ⟨iu, rfl, hii, hij', H, hsc⟩ := hrel
        have HD := Lib.hid H
        by_cases hle : iu ≤ j
        · have hlez : (iu : Int) ≤ (j : Int) := by omega
          cases hlv : ltInt dk[a]! dk[iu]! with
          | false =>
            have HV := Lib.hid hlv
            have a0 : (0 : Int) ≤ (a : Int) := by omega
            have a1 : (a : Int) < (n : Int) := by omega
            have ca := H.cell a (by omega)
            obtain ⟨x, hx⟩ : ∃ x, x = (dk)[a]! := ⟨_, rfl⟩
            rw [← hx] at ca
            have iu0 : (0 : Int) ≤ (iu : Int) := by omega
            have iu1 : (iu : Int) < (n : Int) := by omega
            have ciu := H.cell iu (by omega)
            obtain ⟨y, hy⟩ : ∃ y, y = (dk)[iu]! := ⟨_, rfl⟩
            rw [← hy] at ciu
            have HPQ := Lib.hid (And.intro (And.intro (Eq.refl a) hx) (And.intro (Eq.refl iu) hy))
            have fz := H.frz
            have hl : ltInt x y = false := by rw [hx, hy]; exact hlv
            clear hx hy hlv H
            go_wp2_with fail
            go_quiet ((go_at_call 58; exact Calls.quiet_of_same (less_u _ _ _)))
            go_wp2
            go_roundw
            case rel => exact ⟨iu + 1, by go_num, by omega, by omega, HD.out.drewN _, Lib.hid ((scanUp_go (fun x => !ltInt dk[a]! x) dk j iu hle (by simp [HV.out])).symm.trans hsc.out)⟩
            case measure => simp [intOf]; omega
          | true =>
            have HV := Lib.hid hlv
            have a0 : (0 : Int) ≤ (a : Int) := by omega
            have a1 : (a : Int) < (n : Int) := by omega
            have ca := H.cell a (by omega)
            obtain ⟨x, hx⟩ : ∃ x, x = (dk)[a]! := ⟨_, rfl⟩
            rw [← hx] at ca
            have iu0 : (0 : Int) ≤ (iu : Int) := by omega
            have iu1 : (iu : Int) < (n : Int) := by omega
            have ciu := H.cell iu (by omega)
            obtain ⟨y, hy⟩ : ∃ y, y = (dk)[iu]! := ⟨_, rfl⟩
            rw [← hy] at ciu
            have HPQ := Lib.hid (And.intro (And.intro (Eq.refl a) hx) (And.intro (Eq.refl iu) hy))
            have fz := H.frz
            have hl : ltInt x y = true := by rw [hx, hy]; exact hlv
            clear hx hy hlv H
            have hi2 : Hid (iu = Sort.scanUp (fun x => !ltInt dk[a]! x) dk j i) := Lib.hid ((scanUp_end (fun x => !ltInt dk[a]! x) dk j iu (Or.inr (by simp [HV.out]))).symm.trans hsc.out)
            go_wp2_with fail
            go_quiet ((go_at_call 58; exact Calls.quiet_of_same (less_u _ _ _)))
            have HN := Lib.hid (HD.out.drewN nq)
            clear HPQ hsc HD HV
            clear ca ciu a0 a1 iu0 iu1 hl fz
            go_wp2
            go_loopw [10] (fun vj w2 => ∃ (ju : Nat), vj = .int .i64 (ju : Int) ∧ ju ≤ j ∧ iu ≤ ju + 1 ∧ AtO g n w0 dk w2 ∧ Hid (Sort.scanDown (fun x => ltInt dk[a]! x) dk iu ju = Sort.scanDown (fun x => ltInt dk[a]! x) dk iu j)) (fun vj _ => (intOf vj).toNat)
            case atStart => exact ⟨j, rfl, Nat.le_refl _, hij', HN.out, Lib.hid rfl⟩
            case round =>
              clear HN
              obtain ⟨ju, rfl, hjj, hij2, H, hsd⟩ := hrel
              have HD := Lib.hid H
              by_cases hle2 : iu ≤ ju
              · have hle2z : (iu : Int) ≤ (ju : Int) := by omega
                cases hlv2 : ltInt dk[a]! dk[ju]! with
                | true =>
                  have HV2 := Lib.hid hlv2
                  have a0 : (0 : Int) ≤ (a : Int) := by omega
                  have a1 : (a : Int) < (n : Int) := by omega
                  have ca := H.cell a (by omega)
                  obtain ⟨x, hx⟩ : ∃ x, x = (dk)[a]! := ⟨_, rfl⟩
                  rw [← hx] at ca
                  have ju0 : (0 : Int) ≤ (ju : Int) := by omega
                  have ju1 : (ju : Int) < (n : Int) := by omega
                  have cju := H.cell ju (by omega)
                  obtain ⟨y, hy⟩ : ∃ y, y = (dk)[ju]! := ⟨_, rfl⟩
                  rw [← hy] at cju
                  have HPQ := Lib.hid (And.intro (And.intro (Eq.refl a) hx) (And.intro (Eq.refl ju) hy))
                  have fz := H.frz
                  have hl : ltInt x y = true := by rw [hx, hy]; exact hlv2
                  clear hx hy hlv2 H
                  go_wp2_with fail
                  go_quiet ((go_at_call 58; exact Calls.quiet_of_same (less_u _ _ _)))
                  go_wp2
                  go_roundw
                  case rel => exact ⟨ju - 1, by go_num, by omega, by omega, HD.out.drewN _, Lib.hid ((scanDown_go (fun x => ltInt dk[a]! x) dk iu ju hle2 (by omega) (by simp [HV2.out])).symm.trans hsd.out)⟩
                  case measure => simp [intOf]; omega
                | false =>
                  have HV2 := Lib.hid hlv2
                  have a0 : (0 : Int) ≤ (a : Int) := by omega
                  have a1 : (a : Int) < (n : Int) := by omega
                  have ca := H.cell a (by omega)
                  obtain ⟨x, hx⟩ : ∃ x, x = (dk)[a]! := ⟨_, rfl⟩
                  rw [← hx] at ca
                  have ju0 : (0 : Int) ≤ (ju : Int) := by omega
                  have ju1 : (ju : Int) < (n : Int) := by omega
                  have cju := H.cell ju (by omega)
                  obtain ⟨y, hy⟩ : ∃ y, y = (dk)[ju]! := ⟨_, rfl⟩
                  rw [← hy] at cju
                  have HPQ := Lib.hid (And.intro (And.intro (Eq.refl a) hx) (And.intro (Eq.refl ju) hy))
                  have fz := H.frz
                  have hl : ltInt x y = false := by rw [hx, hy]; exact hlv2
                  clear hx hy hlv2 H
                  have hj2 : Hid (ju = Sort.scanDown (fun x => ltInt dk[a]! x) dk iu j) := Lib.hid ((scanDown_end (fun x => ltInt dk[a]! x) dk iu ju (Or.inr (by simp [HV2.out]))).symm.trans hsd.out)
                  have hlt3 := scans_lt ltInt a i j dk (by omega) hi2.out hj2.out hle2
                  clear hsd
                  go_wp2_with fail
                  go_quiet ((go_at_call 58; exact Calls.quiet_of_same (less_u _ _ _)))
                  have HN := Lib.hid (HD.out.drewN nq)
                  clear HPQ
                  clear ca cju a0 a1 ju0 ju1 hl fz
                  go_upto_region 8 with fail
                  obtain ⟨w3, hw3⟩ : ∃ X, X = wr.drewN nq := ⟨_, rfl⟩
                  rw [← hw3] at HN ⊢
                  clear hw3
                  have hne : ¬ iu = ju := by omega
                  have hne2 : ¬ ju = iu := by omega
                  have iu0 : (0 : Int) ≤ (iu : Int) := by omega
                  have iu1 : (iu : Int) < (n : Int) := by omega
                  have ciu := HN.out.cell iu (by omega)
                  obtain ⟨u, hu⟩ : ∃ u, u = (dk)[iu]! := ⟨_, rfl⟩
                  rw [← hu] at ciu
                  have ju0 : (0 : Int) ≤ (ju : Int) := by omega
                  have ju1 : (ju : Int) < (n : Int) := by omega
                  have cju := HN.out.cell ju (by omega)
                  obtain ⟨z, hz⟩ : ∃ z, z = (dk)[ju]! := ⟨_, rfl⟩
                  rw [← hz] at cju
                  have HPQ := Lib.hid (And.intro (And.intro (Eq.refl iu) hu) (And.intro (Eq.refl ju) hz))
                  have fz := HN.out.frz
                  clear hu hz 
                  have HS := Lib.hid (HN.out.swapL HPQ.out (by omega) (by omega))
                  go_region
                  go_wp2
                  go_roundw
                  case rel => exact ⟨iu + 1, ju - 1, Sort.swp dk iu ju, by go_num, by go_num, by omega, by omega, by omega, HS.out _, Lib.hid (by rw [← AE.out]; exact (partEq_go ltInt a i j dk hi2.out hj2.out (by omega)).symm)⟩
                  case measure => simp [intOf]; omega
              · have hle2z : decide ((iu : Int) ≤ (ju : Int)) = false := decide_eq_false (by omega)
                have hj2 : Hid (ju = Sort.scanDown (fun x => ltInt dk[a]! x) dk iu j) := Lib.hid ((scanDown_end (fun x => ltInt dk[a]! x) dk iu ju (Or.inl hle2)).symm.trans hsd.out)
                have hgt : (ju : Int) < (iu : Int) := by omega
                clear hsd H
                go_wp2_with fail
                go_quiet ((go_at_call 58; exact Calls.quiet_of_same (less_u _ _ _)))
                have HN := Lib.hid (HD.out.drewN nq)
                go_wp2
                go_ret
                have e := partEq_break ltInt a i j dk hi2.out hj2.out (by omega)
                exact ⟨by unfold Sort.partitionEqual; rw [← AE.out, e]; rfl, by unfold Sort.partitionEqual; rw [← AE.out, e]; exact HN.out⟩
        · have hlez : decide ((iu : Int) ≤ (j : Int)) = false := decide_eq_false (by omega)
          have hi2 : Hid (iu = Sort.scanUp (fun x => !ltInt dk[a]! x) dk j i) := Lib.hid ((scanUp_end (fun x => !ltInt dk[a]! x) dk j iu (Or.inl hle)).symm.trans hsc.out)
          clear H
          go_wp2_with fail
          go_quiet ((go_at_call 58; exact Calls.quiet_of_same (less_u _ _ _)))
          have HN := Lib.hid (HD.out.drewN nq)
          clear hsc HD
          go_wp2
          go_loopw [10] (fun vj w2 => ∃ (ju : Nat), vj = .int .i64 (ju : Int) ∧ ju ≤ j ∧ iu ≤ ju + 1 ∧ AtO g n w0 dk w2 ∧ Hid (Sort.scanDown (fun x => ltInt dk[a]! x) dk iu ju = Sort.scanDown (fun x => ltInt dk[a]! x) dk iu j)) (fun vj _ => (intOf vj).toNat)
          case atStart => exact ⟨j, rfl, Nat.le_refl _, hij', HN.out, Lib.hid rfl⟩
          case round =>
            clear HN
            obtain ⟨ju, rfl, hjj, hij2, H, hsd⟩ := hrel
            have HD := Lib.hid H
            by_cases hle2 : iu ≤ ju
            · exfalso; omega
            · have hle2z : decide ((iu : Int) ≤ (ju : Int)) = false := decide_eq_false (by omega)
              have hj2 : Hid (ju = Sort.scanDown (fun x => ltInt dk[a]! x) dk iu j) := Lib.hid ((scanDown_end (fun x => ltInt dk[a]! x) dk iu ju (Or.inl hle2)).symm.trans hsd.out)
              have hgt : (ju : Int) < (iu : Int) := by omega
              clear hsd H
              go_wp2_with fail
              go_quiet ((go_at_call 58; exact Calls.quiet_of_same (less_u _ _ _)))
              have HN := Lib.hid (HD.out.drewN nq)
              go_wp2
              go_ret
              have e := partEq_break ltInt a i j dk hi2.out hj2.out (by omega)
              exact ⟨by unfold Sort.partitionEqual; rw [← AE.out, e]; rfl, by unfold Sort.partitionEqual; rw [← AE.out, e]; exact HN.out⟩
end Go.Proofs.YtdljphbfbiganaaDoor.So
/- partition -/
namespace Go.Proofs.YtdljphbfbiganaaDoor.So
open Go Go.RowKit Go.Sort Go.Proofs Go.Lib
set_option linter.unusedVariables false

set_option maxHeartbeats 25600000 in
set_option maxRecDepth 20000 in
theorem part_any (g n cap : Nat) (hn : n < 4611686018427387904) (a b pivot : Nat) (hap : a ≤ pivot) (hpb : pivot < b) (hb : b ≤ n) (d : Array Int) (w0 w : World) (H0 : AtO g n w0 d w) :
    Calls Tryd.prog 60 #[.slice (some ⟨g, 0, none⟩) n cap, .int .i64 (a : Int), .int .i64 (b : Int), .int .i64 (pivot : Int)] w fun e w' => e = .returned (.tuple #[.int .i64 ((Sort.partition ltInt d a b pivot).1 : Int), .bool (Sort.partition ltInt d a b pivot).2.1]) ∧ AtO g n w0 ((Sort.partition ltInt d a b pivot).2.2) w' := by
  have HH := Lib.hid H0
  clear H0
  go_enter Tryd.func60, Tryd.ntmps60
  go_upto_region 1 with fail
  go_cut [] (fun wx => AtO g n w0 (Sort.swp d a pivot) wx)
  case first =>
    by_cases hpq : a = pivot
    · subst hpq
      have a0 : (0 : Int) ≤ (a : Int) := by omega
      have a1 : (a : Int) < (n : Int) := by omega
      have ca := HH.out.cell a (by omega)
      obtain ⟨x, hx⟩ : ∃ x, x = (d)[a]! := ⟨_, rfl⟩
      rw [← hx] at ca
      have fz := HH.out.frz
      have HS := Lib.hid (HH.out.swapL (p := a) (q := a) (P := a) (Q := a) (x := x) (y := x) ⟨⟨rfl, hx⟩, rfl, hx⟩ (by omega) (by omega))
      clear hx
      go_region
      go_wp2
      go_meet
      exact HS.out _
    · have hqp : ¬ pivot = a := fun e => hpq e.symm
      have a0 : (0 : Int) ≤ (a : Int) := by omega
      have a1 : (a : Int) < (n : Int) := by omega
      have ca := HH.out.cell a (by omega)
      obtain ⟨x, hx⟩ : ∃ x, x = (d)[a]! := ⟨_, rfl⟩
      rw [← hx] at ca
      have pivot0 : (0 : Int) ≤ (pivot : Int) := by omega
      have pivot1 : (pivot : Int) < (n : Int) := by omega
      have cpivot := HH.out.cell pivot (by omega)
      obtain ⟨y, hy⟩ : ∃ y, y = (d)[pivot]! := ⟨_, rfl⟩
      rw [← hy] at cpivot
      have HPQ := Lib.hid (And.intro (And.intro (Eq.refl a) hx) (And.intro (Eq.refl pivot) hy))
      have fz := HH.out.frz
      clear hx hy 
      have HS := Lib.hid (HH.out.swapL HPQ.out (by omega) (by omega))
      go_region
      go_wp2
      go_meet
      exact HS.out _
  case rest =>
    obtain ⟨i, hi⟩ : ∃ i : Nat, i = a + 1 := ⟨_, rfl⟩
    obtain ⟨j, hj⟩ : ∃ j : Nat, j = b - 1 := ⟨_, rfl⟩
    obtain ⟨dk, hdk⟩ : ∃ dk : Array Int, dk = Sort.swp d a pivot := ⟨_, rfl⟩
    rw [← hdk] at hcut
    have HW := Lib.hid hcut
    have hai : a < i := by omega
    have hij : i ≤ j + 1 := by omega
    have hjb : j < b := by omega
    have ei : (a : Int) + 1 = (i : Int) := by omega
    have ej : (b : Int) - 1 = (j : Int) := by omega
    have Hi : Hid (i = a + 1) := Lib.hid hi
    have Hj : Hid (j = b - 1) := Lib.hid hj
    have Hdk : Hid (dk = Sort.swp d a pivot) := Lib.hid hdk
    clear hi hj hdk hcut HH
    go_upto_region 3 with fail
    (try rw [ei]); (try rw [ej])
    clear ei ej
    go_loopw [10] (fun vi w1 => ∃ (iu : Nat), vi = .int .i64 (iu : Int) ∧ i ≤ iu ∧ iu ≤ j + 1 ∧ AtO g n w0 dk w1 ∧ Hid (Sort.scanUp (fun x => ltInt x dk[a]!) dk j iu = Sort.scanUp (fun x => ltInt x dk[a]!) dk j i)) (fun vi _ => j + 1 - (intOf vi).toNat)
    case atStart => exact ⟨i, rfl, Nat.le_refl _, hij, HW.out, Lib.hid rfl⟩
    case round =>
      clear HW
      obtain ⟨iu, rfl, hii, hij', H, hsc⟩ := hrel
      have HD := Lib.hid H
      by_cases hle : iu ≤ j
      · have hlez : (iu : Int) ≤ (j : Int) := by omega
        cases hlv : ltInt dk[iu]! dk[a]! with
        | true =>
          have HV := Lib.hid hlv
          have iu0 : (0 : Int) ≤ (iu : Int) := by omega
          have iu1 : (iu : Int) < (n : Int) := by omega
          have ciu := H.cell iu (by omega)
          obtain ⟨x, hx⟩ : ∃ x, x = (dk)[iu]! := ⟨_, rfl⟩
          rw [← hx] at ciu
          have a0 : (0 : Int) ≤ (a : Int) := by omega
          have a1 : (a : Int) < (n : Int) := by omega
          have ca := H.cell a (by omega)
          obtain ⟨y, hy⟩ : ∃ y, y = (dk)[a]! := ⟨_, rfl⟩
          rw [← hy] at ca
          have HPQ := Lib.hid (And.intro (And.intro (Eq.refl iu) hx) (And.intro (Eq.refl a) hy))
          have fz := H.frz
          have hl : ltInt x y = true := by rw [hx, hy]; exact hlv
          clear hx hy hlv H
          go_wp2_with fail
          go_quiet ((go_at_call 58; exact Calls.quiet_of_same (less_u _ _ _)))
          go_wp2
          go_roundw
          case rel => exact ⟨iu + 1, by go_num, by omega, by omega, HD.out.drewN _, Lib.hid ((scanUp_go (fun x => ltInt x dk[a]!) dk j iu hle (by simp [HV.out])).symm.trans hsc.out)⟩
          case measure => simp [intOf]; omega
        | false =>
          have HV := Lib.hid hlv
          have iu0 : (0 : Int) ≤ (iu : Int) := by omega
          have iu1 : (iu : Int) < (n : Int) := by omega
          have ciu := H.cell iu (by omega)
          obtain ⟨x, hx⟩ : ∃ x, x = (dk)[iu]! := ⟨_, rfl⟩
          rw [← hx] at ciu
          have a0 : (0 : Int) ≤ (a : Int) := by omega
          have a1 : (a : Int) < (n : Int) := by omega
          have ca := H.cell a (by omega)
          obtain ⟨y, hy⟩ : ∃ y, y = (dk)[a]! := ⟨_, rfl⟩
          rw [← hy] at ca
          have HPQ := Lib.hid (And.intro (And.intro (Eq.refl iu) hx) (And.intro (Eq.refl a) hy))
          have fz := H.frz
          have hl : ltInt x y = false := by rw [hx, hy]; exact hlv
          clear hx hy hlv H
          have hi2 : Hid (iu = Sort.scanUp (fun x => ltInt x dk[a]!) dk j i) := Lib.hid ((scanUp_end (fun x => ltInt x dk[a]!) dk j iu (Or.inr (by simp [HV.out]))).symm.trans hsc.out)
          go_wp2_with fail
          go_quiet ((go_at_call 58; exact Calls.quiet_of_same (less_u _ _ _)))
          have HN := Lib.hid (HD.out.drewN nq)
          clear HPQ hsc HD HV
          clear ciu ca iu0 iu1 a0 a1 hl fz
          go_wp2
          go_loopw [11] (fun vj w2 => ∃ (ju : Nat), vj = .int .i64 (ju : Int) ∧ ju ≤ j ∧ iu ≤ ju + 1 ∧ AtO g n w0 dk w2 ∧ Hid (Sort.scanDown (fun x => !ltInt x dk[a]!) dk iu ju = Sort.scanDown (fun x => !ltInt x dk[a]!) dk iu j)) (fun vj _ => (intOf vj).toNat)
          case atStart => exact ⟨j, rfl, Nat.le_refl _, hij', HN.out, Lib.hid rfl⟩
          case round =>
            clear HN
            obtain ⟨ju, rfl, hjj, hij2, H, hsd⟩ := hrel
            have HD := Lib.hid H
            by_cases hle2 : iu ≤ ju
            · have hle2z : (iu : Int) ≤ (ju : Int) := by omega
              cases hlv2 : ltInt dk[ju]! dk[a]! with
              | false =>
                have HV2 := Lib.hid hlv2
                have ju0 : (0 : Int) ≤ (ju : Int) := by omega
                have ju1 : (ju : Int) < (n : Int) := by omega
                have cju := H.cell ju (by omega)
                obtain ⟨x, hx⟩ : ∃ x, x = (dk)[ju]! := ⟨_, rfl⟩
                rw [← hx] at cju
                have a0 : (0 : Int) ≤ (a : Int) := by omega
                have a1 : (a : Int) < (n : Int) := by omega
                have ca := H.cell a (by omega)
                obtain ⟨y, hy⟩ : ∃ y, y = (dk)[a]! := ⟨_, rfl⟩
                rw [← hy] at ca
                have HPQ := Lib.hid (And.intro (And.intro (Eq.refl ju) hx) (And.intro (Eq.refl a) hy))
                have fz := H.frz
                have hl : ltInt x y = false := by rw [hx, hy]; exact hlv2
                clear hx hy hlv2 H
                go_wp2_with fail
                go_quiet ((go_at_call 58; exact Calls.quiet_of_same (less_u _ _ _)))
                go_wp2
                go_roundw
                case rel => exact ⟨ju - 1, by go_num, by omega, by omega, HD.out.drewN _, Lib.hid ((scanDown_go (fun x => !ltInt x dk[a]!) dk iu ju hle2 (by omega) (by simp [HV2.out])).symm.trans hsd.out)⟩
                case measure => simp [intOf]; omega
              | true =>
                have HV2 := Lib.hid hlv2
                have ju0 : (0 : Int) ≤ (ju : Int) := by omega
                have ju1 : (ju : Int) < (n : Int) := by omega
                have cju := H.cell ju (by omega)
                obtain ⟨x, hx⟩ : ∃ x, x = (dk)[ju]! := ⟨_, rfl⟩
                rw [← hx] at cju
                have a0 : (0 : Int) ≤ (a : Int) := by omega
                have a1 : (a : Int) < (n : Int) := by omega
                have ca := H.cell a (by omega)
                obtain ⟨y, hy⟩ : ∃ y, y = (dk)[a]! := ⟨_, rfl⟩
                rw [← hy] at ca
                have HPQ := Lib.hid (And.intro (And.intro (Eq.refl ju) hx) (And.intro (Eq.refl a) hy))
                have fz := H.frz
                have hl : ltInt x y = true := by rw [hx, hy]; exact hlv2
                clear hx hy hlv2 H
                have hj2 : Hid (ju = Sort.scanDown (fun x => !ltInt x dk[a]!) dk iu j) := Lib.hid ((scanDown_end (fun x => !ltInt x dk[a]!) dk iu ju (Or.inr (by simp [HV2.out]))).symm.trans hsd.out)
                have hlt3 := part_scans_lt ltInt a i j dk (by omega) hi2.out hj2.out hle2
                clear hsd
                go_wp2_with fail
                go_quiet ((go_at_call 58; exact Calls.quiet_of_same (less_u _ _ _)))
                have HN := Lib.hid (HD.out.drewN nq)
                clear HPQ
                clear cju ca ju0 ju1 a0 a1 hl fz
                go_upto_region 10 with fail
                obtain ⟨w3, hw3⟩ : ∃ X, X = wr.drewN nq := ⟨_, rfl⟩
                rw [← hw3] at HN ⊢
                clear hw3
                have hne : ¬ iu = ju := by omega
                have hne2 : ¬ ju = iu := by omega
                have iu0 : (0 : Int) ≤ (iu : Int) := by omega
                have iu1 : (iu : Int) < (n : Int) := by omega
                have ciu := HN.out.cell iu (by omega)
                obtain ⟨u, hu⟩ : ∃ u, u = (dk)[iu]! := ⟨_, rfl⟩
                rw [← hu] at ciu
                have ju0 : (0 : Int) ≤ (ju : Int) := by omega
                have ju1 : (ju : Int) < (n : Int) := by omega
                have cju := HN.out.cell ju (by omega)
                obtain ⟨z, hz⟩ : ∃ z, z = (dk)[ju]! := ⟨_, rfl⟩
                rw [← hz] at cju
                have HPQ := Lib.hid (And.intro (And.intro (Eq.refl iu) hu) (And.intro (Eq.refl ju) hz))
                have fz := HN.out.frz
                clear hu hz 
                have HS := Lib.hid (HN.out.swapL HPQ.out (by omega) (by omega))
                go_region
                go_wp2
                (try rw [decide_eq_false (show ¬ ju < iu by omega)])
                obtain ⟨I0, hI0⟩ : ∃ I0 : Nat, I0 = iu + 1 := ⟨_, rfl⟩
                obtain ⟨J0, hJ0⟩ : ∃ J0 : Nat, J0 = ju - 1 := ⟨_, rfl⟩
                obtain ⟨D0, hD0⟩ : ∃ D0 : Array Int, D0 = Sort.swp dk iu ju := ⟨_, rfl⟩
                have PF : Hid (Sort.partition ltInt d a b pivot = ((Sort.partLoop ltInt a I0 J0 D0).1, false, Sort.swp (Sort.partLoop ltInt a I0 J0 D0).2 (Sort.partLoop ltInt a I0 J0 D0).1 a)) := Lib.hid (by
                  rw [hI0, hJ0, hD0]; exact part_first_go ltInt d a b pivot Hi.out Hj.out Hdk.out hi2.out hj2.out (by omega))
                have HS0 := Lib.hid (HS.out)
                clear HPQ fz ciu cju iu0 iu1 ju0 ju1 hne hne2 HN HS
                go_loopw [10, 11] (fun vi vj wr => ∃ (i j : Nat) (dk : Array Int), vi = .int .i64 (i : Int) ∧ vj = .int .i64 (j : Int) ∧ a < i ∧ i ≤ j + 1 ∧ j < b ∧ AtO g n w0 dk wr ∧ Hid (Sort.partLoop ltInt a i j dk = Sort.partLoop ltInt a I0 J0 D0)) (fun vi vj _ => (intOf vj).toNat + 1 - (intOf vi).toNat)
                case atStart => exact ⟨iu + 1, ju - 1, Sort.swp dk iu ju, by go_num, by go_num, by omega, by omega, by omega, HS0.out _, Lib.hid (by rw [hI0, hJ0, hD0])⟩
                case round =>
                  clear hI0 hJ0 hD0 hj2 hi2 hlt3 HS0 Hi Hj Hdk
                  obtain ⟨i, j, dk, rfl, rfl, hai, hij, hjb, H, AE⟩ := hrel
                  have HX := Lib.hid H
                  clear H
                  go_wp2
                  go_loopw [10] (fun vi w1 => ∃ (iu : Nat), vi = .int .i64 (iu : Int) ∧ i ≤ iu ∧ iu ≤ j + 1 ∧ AtO g n w0 dk w1 ∧ Hid (Sort.scanUp (fun x => ltInt x dk[a]!) dk j iu = Sort.scanUp (fun x => ltInt x dk[a]!) dk j i)) (fun vi _ => j + 1 - (intOf vi).toNat)
                  case atStart => exact ⟨i, rfl, Nat.le_refl _, hij, HX.out, Lib.hid rfl⟩
                  case round =>
                    clear HX
                    obtain ⟨iu, rfl, hii, hij', H, hsc⟩ := hrel
                    have HD := Lib.hid H
                    by_cases hle : iu ≤ j
                    · have hlez : (iu : Int) ≤ (j : Int) := by omega
                      cases hlv : ltInt dk[iu]! dk[a]! with
                      | true =>
                        have HV := Lib.hid hlv
                        have iu0 : (0 : Int) ≤ (iu : Int) := by omega
                        have iu1 : (iu : Int) < (n : Int) := by omega
                        have ciu := H.cell iu (by omega)
                        obtain ⟨x, hx⟩ : ∃ x, x = (dk)[iu]! := ⟨_, rfl⟩
                        rw [← hx] at ciu
                        have a0 : (0 : Int) ≤ (a : Int) := by omega
                        have a1 : (a : Int) < (n : Int) := by omega
                        have ca := H.cell a (by omega)
                        obtain ⟨y, hy⟩ : ∃ y, y = (dk)[a]! := ⟨_, rfl⟩
                        rw [← hy] at ca
                        have HPQ := Lib.hid (And.intro (And.intro (Eq.refl iu) hx) (And.intro (Eq.refl a) hy))
                        have fz := H.frz
                        have hl : ltInt x y = true := by rw [hx, hy]; exact hlv
                        clear hx hy hlv H
                        go_wp2_with fail
                        go_quiet ((go_at_call 58; exact Calls.quiet_of_same (less_u _ _ _)))
                        go_wp2
                        go_roundw
                        case rel => exact ⟨iu + 1, by go_num, by omega, by omega, HD.out.drewN _, Lib.hid ((scanUp_go (fun x => ltInt x dk[a]!) dk j iu hle (by simp [HV.out])).symm.trans hsc.out)⟩
                        case measure => simp [intOf]; omega
                      | false =>
                        have HV := Lib.hid hlv
                        have iu0 : (0 : Int) ≤ (iu : Int) := by omega
                        have iu1 : (iu : Int) < (n : Int) := by omega
                        have ciu := H.cell iu (by omega)
                        obtain ⟨x, hx⟩ : ∃ x, x = (dk)[iu]! := ⟨_, rfl⟩
                        rw [← hx] at ciu
                        have a0 : (0 : Int) ≤ (a : Int) := by omega
                        have a1 : (a : Int) < (n : Int) := by omega
                        have ca := H.cell a (by omega)
                        obtain ⟨y, hy⟩ : ∃ y, y = (dk)[a]! := ⟨_, rfl⟩
                        rw [← hy] at ca
                        have HPQ := Lib.hid (And.intro (And.intro (Eq.refl iu) hx) (And.intro (Eq.refl a) hy))
                        have fz := H.frz
                        have hl : ltInt x y = false := by rw [hx, hy]; exact hlv
                        clear hx hy hlv H
                        have hi2 : Hid (iu = Sort.scanUp (fun x => ltInt x dk[a]!) dk j i) := Lib.hid ((scanUp_end (fun x => ltInt x dk[a]!) dk j iu (Or.inr (by simp [HV.out]))).symm.trans hsc.out)
                        go_wp2_with fail
                        go_quiet ((go_at_call 58; exact Calls.quiet_of_same (less_u _ _ _)))
                        have HN := Lib.hid (HD.out.drewN nq)
                        clear HPQ hsc HD HV
                        clear ciu ca iu0 iu1 a0 a1 hl fz
                        go_wp2
                        go_loopw [11] (fun vj w2 => ∃ (ju : Nat), vj = .int .i64 (ju : Int) ∧ ju ≤ j ∧ iu ≤ ju + 1 ∧ AtO g n w0 dk w2 ∧ Hid (Sort.scanDown (fun x => !ltInt x dk[a]!) dk iu ju = Sort.scanDown (fun x => !ltInt x dk[a]!) dk iu j)) (fun vj _ => (intOf vj).toNat)
                        case atStart => exact ⟨j, rfl, Nat.le_refl _, hij', HN.out, Lib.hid rfl⟩
                        case round =>
                          clear HN
                          obtain ⟨ju, rfl, hjj, hij2, H, hsd⟩ := hrel
                          have HD := Lib.hid H
                          by_cases hle2 : iu ≤ ju
                          · have hle2z : (iu : Int) ≤ (ju : Int) := by omega
                            cases hlv2 : ltInt dk[ju]! dk[a]! with
                            | false =>
                              have HV2 := Lib.hid hlv2
                              have ju0 : (0 : Int) ≤ (ju : Int) := by omega
                              have ju1 : (ju : Int) < (n : Int) := by omega
                              have cju := H.cell ju (by omega)
                              obtain ⟨x, hx⟩ : ∃ x, x = (dk)[ju]! := ⟨_, rfl⟩
                              rw [← hx] at cju
                              have a0 : (0 : Int) ≤ (a : Int) := by omega
                              have a1 : (a : Int) < (n : Int) := by omega
                              have ca := H.cell a (by omega)
                              obtain ⟨y, hy⟩ : ∃ y, y = (dk)[a]! := ⟨_, rfl⟩
                              rw [← hy] at ca
                              have HPQ := Lib.hid (And.intro (And.intro (Eq.refl ju) hx) (And.intro (Eq.refl a) hy))
                              have fz := H.frz
                              have hl : ltInt x y = false := by rw [hx, hy]; exact hlv2
                              clear hx hy hlv2 H
                              go_wp2_with fail
                              go_quiet ((go_at_call 58; exact Calls.quiet_of_same (less_u _ _ _)))
                              go_wp2
                              go_roundw
                              case rel => exact ⟨ju - 1, by go_num, by omega, by omega, HD.out.drewN _, Lib.hid ((scanDown_go (fun x => !ltInt x dk[a]!) dk iu ju hle2 (by omega) (by simp [HV2.out])).symm.trans hsd.out)⟩
                              case measure => simp [intOf]; omega
                            | true =>
                              have HV2 := Lib.hid hlv2
                              have ju0 : (0 : Int) ≤ (ju : Int) := by omega
                              have ju1 : (ju : Int) < (n : Int) := by omega
                              have cju := H.cell ju (by omega)
                              obtain ⟨x, hx⟩ : ∃ x, x = (dk)[ju]! := ⟨_, rfl⟩
                              rw [← hx] at cju
                              have a0 : (0 : Int) ≤ (a : Int) := by omega
                              have a1 : (a : Int) < (n : Int) := by omega
                              have ca := H.cell a (by omega)
                              obtain ⟨y, hy⟩ : ∃ y, y = (dk)[a]! := ⟨_, rfl⟩
                              rw [← hy] at ca
                              have HPQ := Lib.hid (And.intro (And.intro (Eq.refl ju) hx) (And.intro (Eq.refl a) hy))
                              have fz := H.frz
                              have hl : ltInt x y = true := by rw [hx, hy]; exact hlv2
                              clear hx hy hlv2 H
                              have hj2 : Hid (ju = Sort.scanDown (fun x => !ltInt x dk[a]!) dk iu j) := Lib.hid ((scanDown_end (fun x => !ltInt x dk[a]!) dk iu ju (Or.inr (by simp [HV2.out]))).symm.trans hsd.out)
                              have hlt3 := part_scans_lt ltInt a i j dk (by omega) hi2.out hj2.out hle2
                              clear hsd
                              go_wp2_with fail
                              go_quiet ((go_at_call 58; exact Calls.quiet_of_same (less_u _ _ _)))
                              have HN := Lib.hid (HD.out.drewN nq)
                              clear HPQ
                              clear cju ca ju0 ju1 a0 a1 hl fz
                              go_upto_region 18 with fail
                              obtain ⟨w3, hw3⟩ : ∃ X, X = wr.drewN nq := ⟨_, rfl⟩
                              rw [← hw3] at HN ⊢
                              clear hw3
                              have hne : ¬ iu = ju := by omega
                              have hne2 : ¬ ju = iu := by omega
                              have iu0 : (0 : Int) ≤ (iu : Int) := by omega
                              have iu1 : (iu : Int) < (n : Int) := by omega
                              have ciu := HN.out.cell iu (by omega)
                              obtain ⟨u, hu⟩ : ∃ u, u = (dk)[iu]! := ⟨_, rfl⟩
                              rw [← hu] at ciu
                              have ju0 : (0 : Int) ≤ (ju : Int) := by omega
                              have ju1 : (ju : Int) < (n : Int) := by omega
                              have cju := HN.out.cell ju (by omega)
                              obtain ⟨z, hz⟩ : ∃ z, z = (dk)[ju]! := ⟨_, rfl⟩
                              rw [← hz] at cju
                              have HPQ := Lib.hid (And.intro (And.intro (Eq.refl iu) hu) (And.intro (Eq.refl ju) hz))
                              have fz := HN.out.frz
                              clear hu hz 
                              have HS := Lib.hid (HN.out.swapL HPQ.out (by omega) (by omega))
                              go_region
                              go_wp2
                              go_roundw
                              case rel => exact ⟨iu + 1, ju - 1, Sort.swp dk iu ju, by go_num, by go_num, by omega, by omega, by omega, HS.out _, Lib.hid (by rw [← AE.out]; exact (part_go ltInt a i j dk hi2.out hj2.out (by omega)).symm)⟩
                              case measure => simp [intOf]; omega
                          · have hle2z : decide ((iu : Int) ≤ (ju : Int)) = false := decide_eq_false (by omega)
                            have hj2 : Hid (ju = Sort.scanDown (fun x => !ltInt x dk[a]!) dk iu j) := Lib.hid ((scanDown_end (fun x => !ltInt x dk[a]!) dk iu ju (Or.inl hle2)).symm.trans hsd.out)
                            have hgt : (ju : Int) < (iu : Int) := by omega
                            clear hsd H
                            go_wp2_with fail
                            go_quiet ((go_at_call 58; exact Calls.quiet_of_same (less_u _ _ _)))
                            have HN := Lib.hid (HD.out.drewN nq)
                            go_upto_region 21 with fail
                            obtain ⟨w3, hw3⟩ : ∃ X, X = wr.drewN nq := ⟨_, rfl⟩
                            rw [← hw3] at HN ⊢
                            clear hw3 hle2z
                            have ju0 : (0 : Int) ≤ (ju : Int) := by omega
                            have ju1 : (ju : Int) < (n : Int) := by omega
                            have cju := HN.out.cell ju (by omega)
                            obtain ⟨u, hu⟩ : ∃ u, u = (dk)[ju]! := ⟨_, rfl⟩
                            rw [← hu] at cju
                            obtain ⟨aa, haa⟩ : ∃ aa : Nat, aa = a := ⟨_, rfl⟩
                            have eaa : (a : Int) = (aa : Int) := by omega
                            have waa : IntKind.i64.wrap (aa : Int) = (aa : Int) := by rw [IntKind.wrap_i64]; omega
                            have aa0 : (0 : Int) ≤ (aa : Int) := by omega
                            have aa1 : (aa : Int) < (n : Int) := by omega
                            have caa := HN.out.cell aa (by omega)
                            obtain ⟨z, hz⟩ : ∃ z, z = (dk)[aa]! := ⟨_, rfl⟩
                            rw [← hz] at caa
                            have HPQ := Lib.hid (And.intro (And.intro (Eq.refl ju) hu) (And.intro haa hz))
                            have fz := HN.out.frz
                            clear hu hz haa 
                            have HS := Lib.hid (HN.out.swapL HPQ.out (by omega) (by omega))
                            by_cases hpq : ju = aa
                            · subst hpq
                              obtain rfl : u = z := by have h1 := cju.symm.trans caa; injection h1 with h1; injection h1
                              go_region
                              go_wp2
                              go_ret2
                              have e := part_break ltInt a i j dk hi2.out hj2.out (by omega)
                              rw [PF.out, ← AE.out, e]
                              exact ⟨rfl, HS.out _⟩
                            · have hqp : ¬ aa = ju := fun e => hpq e.symm
                              go_region
                              go_wp2
                              go_ret2
                              have e := part_break ltInt a i j dk hi2.out hj2.out (by omega)
                              rw [PF.out, ← AE.out, e]
                              exact ⟨rfl, HS.out _⟩
                    · have hlez : decide ((iu : Int) ≤ (j : Int)) = false := decide_eq_false (by omega)
                      have hi2 : Hid (iu = Sort.scanUp (fun x => ltInt x dk[a]!) dk j i) := Lib.hid ((scanUp_end (fun x => ltInt x dk[a]!) dk j iu (Or.inl hle)).symm.trans hsc.out)
                      clear H
                      go_wp2_with fail
                      go_quiet ((go_at_call 58; exact Calls.quiet_of_same (less_u _ _ _)))
                      have HN := Lib.hid (HD.out.drewN nq)
                      clear hsc HD
                      go_wp2
                      go_loopw [11] (fun vj w2 => ∃ (ju : Nat), vj = .int .i64 (ju : Int) ∧ ju ≤ j ∧ iu ≤ ju + 1 ∧ AtO g n w0 dk w2 ∧ Hid (Sort.scanDown (fun x => !ltInt x dk[a]!) dk iu ju = Sort.scanDown (fun x => !ltInt x dk[a]!) dk iu j)) (fun vj _ => (intOf vj).toNat)
                      case atStart => exact ⟨j, rfl, Nat.le_refl _, hij', HN.out, Lib.hid rfl⟩
                      case round =>
                        clear HN
                        obtain ⟨ju, rfl, hjj, hij2, H, hsd⟩ := hrel
                        have HD := Lib.hid H
                        by_cases hle2 : iu ≤ ju
                        · exfalso; omega
                        · have hle2z : decide ((iu : Int) ≤ (ju : Int)) = false := decide_eq_false (by omega)
                          have hj2 : Hid (ju = Sort.scanDown (fun x => !ltInt x dk[a]!) dk iu j) := Lib.hid ((scanDown_end (fun x => !ltInt x dk[a]!) dk iu ju (Or.inl hle2)).symm.trans hsd.out)
                          have hgt : (ju : Int) < (iu : Int) := by omega
                          clear hsd H
                          go_wp2_with fail
                          go_quiet ((go_at_call 58; exact Calls.quiet_of_same (less_u _ _ _)))
                          have HN := Lib.hid (HD.out.drewN nq)
                          go_upto_region 21 with fail
                          obtain ⟨w3, hw3⟩ : ∃ X, X = wr.drewN nq := ⟨_, rfl⟩
                          rw [← hw3] at HN ⊢
                          clear hw3 hle2z
                          have ju0 : (0 : Int) ≤ (ju : Int) := by omega
                          have ju1 : (ju : Int) < (n : Int) := by omega
                          have cju := HN.out.cell ju (by omega)
                          obtain ⟨u, hu⟩ : ∃ u, u = (dk)[ju]! := ⟨_, rfl⟩
                          rw [← hu] at cju
                          obtain ⟨aa, haa⟩ : ∃ aa : Nat, aa = a := ⟨_, rfl⟩
                          have eaa : (a : Int) = (aa : Int) := by omega
                          have waa : IntKind.i64.wrap (aa : Int) = (aa : Int) := by rw [IntKind.wrap_i64]; omega
                          have aa0 : (0 : Int) ≤ (aa : Int) := by omega
                          have aa1 : (aa : Int) < (n : Int) := by omega
                          have caa := HN.out.cell aa (by omega)
                          obtain ⟨z, hz⟩ : ∃ z, z = (dk)[aa]! := ⟨_, rfl⟩
                          rw [← hz] at caa
                          have HPQ := Lib.hid (And.intro (And.intro (Eq.refl ju) hu) (And.intro haa hz))
                          have fz := HN.out.frz
                          clear hu hz haa 
                          have HS := Lib.hid (HN.out.swapL HPQ.out (by omega) (by omega))
                          by_cases hpq : ju = aa
                          · subst hpq
                            obtain rfl : u = z := by have h1 := cju.symm.trans caa; injection h1 with h1; injection h1
                            go_region
                            go_wp2
                            go_ret2
                            have e := part_break ltInt a i j dk hi2.out hj2.out (by omega)
                            rw [PF.out, ← AE.out, e]
                            exact ⟨rfl, HS.out _⟩
                          · have hqp : ¬ aa = ju := fun e => hpq e.symm
                            go_region
                            go_wp2
                            go_ret2
                            have e := part_break ltInt a i j dk hi2.out hj2.out (by omega)
                            rw [PF.out, ← AE.out, e]
                            exact ⟨rfl, HS.out _⟩
            · have hle2z : decide ((iu : Int) ≤ (ju : Int)) = false := decide_eq_false (by omega)
              have hj2 : Hid (ju = Sort.scanDown (fun x => !ltInt x dk[a]!) dk iu j) := Lib.hid ((scanDown_end (fun x => !ltInt x dk[a]!) dk iu ju (Or.inl hle2)).symm.trans hsd.out)
              have hgt : (ju : Int) < (iu : Int) := by omega
              clear hsd H
              go_wp2_with fail
              go_quiet ((go_at_call 58; exact Calls.quiet_of_same (less_u _ _ _)))
              have HN := Lib.hid (HD.out.drewN nq)
              go_upto_region 8 with fail
              obtain ⟨w3, hw3⟩ : ∃ X, X = wr.drewN nq := ⟨_, rfl⟩
              rw [← hw3] at HN ⊢
              clear hw3 hle2z
              have ju0 : (0 : Int) ≤ (ju : Int) := by omega
              have ju1 : (ju : Int) < (n : Int) := by omega
              have cju := HN.out.cell ju (by omega)
              obtain ⟨u, hu⟩ : ∃ u, u = (dk)[ju]! := ⟨_, rfl⟩
              rw [← hu] at cju
              obtain ⟨aa, haa⟩ : ∃ aa : Nat, aa = a := ⟨_, rfl⟩
              have eaa : (a : Int) = (aa : Int) := by omega
              have waa : IntKind.i64.wrap (aa : Int) = (aa : Int) := by rw [IntKind.wrap_i64]; omega
              have aa0 : (0 : Int) ≤ (aa : Int) := by omega
              have aa1 : (aa : Int) < (n : Int) := by omega
              have caa := HN.out.cell aa (by omega)
              obtain ⟨z, hz⟩ : ∃ z, z = (dk)[aa]! := ⟨_, rfl⟩
              rw [← hz] at caa
              have HPQ := Lib.hid (And.intro (And.intro (Eq.refl ju) hu) (And.intro haa hz))
              have fz := HN.out.frz
              clear hu hz haa 
              have HS := Lib.hid (HN.out.swapL HPQ.out (by omega) (by omega))
              by_cases hpq : ju = aa
              · subst hpq
                obtain rfl : u = z := by have h1 := cju.symm.trans caa; injection h1 with h1; injection h1
                go_region
                go_wp2
                go_ret2
                have e := part_first_break ltInt d a b pivot Hi.out Hj.out Hdk.out hi2.out hj2.out (by omega)
                rw [e]
                exact ⟨rfl, HS.out _⟩
              · have hqp : ¬ aa = ju := fun e => hpq e.symm
                go_region
                go_wp2
                go_ret2
                have e := part_first_break ltInt d a b pivot Hi.out Hj.out Hdk.out hi2.out hj2.out (by omega)
                rw [e]
                exact ⟨rfl, HS.out _⟩
      · have hlez : decide ((iu : Int) ≤ (j : Int)) = false := decide_eq_false (by omega)
        have hi2 : Hid (iu = Sort.scanUp (fun x => ltInt x dk[a]!) dk j i) := Lib.hid ((scanUp_end (fun x => ltInt x dk[a]!) dk j iu (Or.inl hle)).symm.trans hsc.out)
        clear H
        go_wp2_with fail
        go_quiet ((go_at_call 58; exact Calls.quiet_of_same (less_u _ _ _)))
        have HN := Lib.hid (HD.out.drewN nq)
        clear hsc HD
        go_wp2
        go_loopw [11] (fun vj w2 => ∃ (ju : Nat), vj = .int .i64 (ju : Int) ∧ ju ≤ j ∧ iu ≤ ju + 1 ∧ AtO g n w0 dk w2 ∧ Hid (Sort.scanDown (fun x => !ltInt x dk[a]!) dk iu ju = Sort.scanDown (fun x => !ltInt x dk[a]!) dk iu j)) (fun vj _ => (intOf vj).toNat)
        case atStart => exact ⟨j, rfl, Nat.le_refl _, hij', HN.out, Lib.hid rfl⟩
        case round =>
          clear HN
          obtain ⟨ju, rfl, hjj, hij2, H, hsd⟩ := hrel
          have HD := Lib.hid H
          by_cases hle2 : iu ≤ ju
          · exfalso; omega
          · have hle2z : decide ((iu : Int) ≤ (ju : Int)) = false := decide_eq_false (by omega)
            have hj2 : Hid (ju = Sort.scanDown (fun x => !ltInt x dk[a]!) dk iu j) := Lib.hid ((scanDown_end (fun x => !ltInt x dk[a]!) dk iu ju (Or.inl hle2)).symm.trans hsd.out)
            have hgt : (ju : Int) < (iu : Int) := by omega
            clear hsd H
            go_wp2_with fail
            go_quiet ((go_at_call 58; exact Calls.quiet_of_same (less_u _ _ _)))
            have HN := Lib.hid (HD.out.drewN nq)
            go_upto_region 8 with fail
            obtain ⟨w3, hw3⟩ : ∃ X, X = wr.drewN nq := ⟨_, rfl⟩
            rw [← hw3] at HN ⊢
            clear hw3 hle2z
            have ju0 : (0 : Int) ≤ (ju : Int) := by omega
            have ju1 : (ju : Int) < (n : Int) := by omega
            have cju := HN.out.cell ju (by omega)
            obtain ⟨u, hu⟩ : ∃ u, u = (dk)[ju]! := ⟨_, rfl⟩
            rw [← hu] at cju
            obtain ⟨aa, haa⟩ : ∃ aa : Nat, aa = a := ⟨_, rfl⟩
            have eaa : (a : Int) = (aa : Int) := by omega
            have waa : IntKind.i64.wrap (aa : Int) = (aa : Int) := by rw [IntKind.wrap_i64]; omega
            have aa0 : (0 : Int) ≤ (aa : Int) := by omega
            have aa1 : (aa : Int) < (n : Int) := by omega
            have caa := HN.out.cell aa (by omega)
            obtain ⟨z, hz⟩ : ∃ z, z = (dk)[aa]! := ⟨_, rfl⟩
            rw [← hz] at caa
            have HPQ := Lib.hid (And.intro (And.intro (Eq.refl ju) hu) (And.intro haa hz))
            have fz := HN.out.frz
            clear hu hz haa 
            have HS := Lib.hid (HN.out.swapL HPQ.out (by omega) (by omega))
            by_cases hpq : ju = aa
            · subst hpq
              obtain rfl : u = z := by have h1 := cju.symm.trans caa; injection h1 with h1; injection h1
              go_region
              go_wp2
              go_ret2
              have e := part_first_break ltInt d a b pivot Hi.out Hj.out Hdk.out hi2.out hj2.out (by omega)
              rw [e]
              exact ⟨rfl, HS.out _⟩
            · have hqp : ¬ aa = ju := fun e => hpq e.symm
              go_region
              go_wp2
              go_ret2
              have e := part_first_break ltInt d a b pivot Hi.out Hj.out Hdk.out hi2.out hj2.out (by omega)
              rw [e]
              exact ⟨rfl, HS.out _⟩
end Go.Proofs.YtdljphbfbiganaaDoor.So
/- order2, median, medianAdjacent, choosePivot -/
namespace Go.Proofs.YtdljphbfbiganaaDoor.So
open Go Go.RowKit Go.Sort Go.Proofs Go.Lib
set_option linter.unusedVariables false

set_option maxHeartbeats 1000000 in
set_option maxRecDepth 20000 in
theorem ord_any (g n cap : Nat) (hn : n < 4611686018427387904) (a b K s : Nat) (ha : a < n) (hb : b < n) (hs : s < 4611686018427387904) (d : Array Int) (w0 w : World) (H0 : CtO g n w0 K d (.int .i64 (s : Int)) w) :
    Calls Tryd.prog 75 #[.slice (some ⟨g, 0, none⟩) n cap, .int .i64 (a : Int), .int .i64 (b : Int), .pointer (some ⟨K, 0, none⟩)] w fun e w' => e = .returned (.tuple #[.int .i64 ((order2 ltInt d a b s).1 : Int), .int .i64 ((order2 ltInt d a b s).2.1 : Int)]) ∧ CtO g n w0 K d (.int .i64 (((order2 ltInt d a b s).2.2 : Nat) : Int)) w' := by
  have HD := Lib.hid H0
  cases hlv : ltInt d[b]! d[a]! with
  | true =>
    have e2 : order2 ltInt d a b s = (b, a, s + 1) := by simp [order2, hlv]
    rw [e2]
    have b0 : (0 : Int) ≤ (b : Int) := by omega
    have b1 : (b : Int) < (n : Int) := by omega
    have cb := H0.st.cell b (by omega)
    obtain ⟨x, hx⟩ : ∃ x, x = (d)[b]! := ⟨_, rfl⟩
    rw [← hx] at cb
    have a0 : (0 : Int) ≤ (a : Int) := by omega
    have a1 : (a : Int) < (n : Int) := by omega
    have ca := H0.st.cell a (by omega)
    obtain ⟨y, hy⟩ : ∃ y, y = (d)[a]! := ⟨_, rfl⟩
    rw [← hy] at ca
    have HPQ := Lib.hid (And.intro (And.intro (Eq.refl b) hx) (And.intro (Eq.refl a) hy))
    have fz := H0.st.frz
    have hl : ltInt x y = true := by rw [hx, hy]; exact hlv
    clear hx hy hlv e2 H0
    go_enter Tryd.func75, Tryd.ntmps75
    go_wp2_with fail
    go_quiet ((go_at_call 58; exact Calls.quiet_of_same (less_u _ _ _)))
    rw [hl]
    have H1 := Lib.hid (HD.out.drewN nq)
    obtain ⟨w1, hw1⟩ : ∃ X, X = w.drewN nq := ⟨_, rfl⟩
    rw [← hw1] at H1 ⊢
    clear hw1
    have k0 := H1.out.at_
    have k1 := H1.out.f
    have H2 := Lib.hid (H1.out.turn (.int .i64 ((s : Int) + 1)))
    go_wp2
    refine bodyPost_ret (v := .tuple #[.int .i64 (b : Int), .int .i64 (a : Int)]) (by simp [results, Tryd.results75, go_sem]) rfl ?_
    refine ⟨rfl, ?_⟩
    show CtO g n w0 K d (.int .i64 ((s + 1 : Nat) : Int)) _
    rw [show ((s + 1 : Nat) : Int) = (s : Int) + 1 by omega]
    exact H2.out
  | false =>
    have e2 : order2 ltInt d a b s = (a, b, s) := by simp [order2, hlv]
    rw [e2]
    have b0 : (0 : Int) ≤ (b : Int) := by omega
    have b1 : (b : Int) < (n : Int) := by omega
    have cb := H0.st.cell b (by omega)
    obtain ⟨x, hx⟩ : ∃ x, x = (d)[b]! := ⟨_, rfl⟩
    rw [← hx] at cb
    have a0 : (0 : Int) ≤ (a : Int) := by omega
    have a1 : (a : Int) < (n : Int) := by omega
    have ca := H0.st.cell a (by omega)
    obtain ⟨y, hy⟩ : ∃ y, y = (d)[a]! := ⟨_, rfl⟩
    rw [← hy] at ca
    have HPQ := Lib.hid (And.intro (And.intro (Eq.refl b) hx) (And.intro (Eq.refl a) hy))
    have fz := H0.st.frz
    have hl : ltInt x y = false := by rw [hx, hy]; exact hlv
    clear hx hy hlv e2 H0
    go_enter Tryd.func75, Tryd.ntmps75
    go_wp2_with fail
    go_quiet ((go_at_call 58; exact Calls.quiet_of_same (less_u _ _ _)))
    rw [hl]
    have H1 := Lib.hid (HD.out.drewN nq)
    go_wp2
    refine bodyPost_ret (v := .tuple #[.int .i64 (a : Int), .int .i64 (b : Int)]) (by simp [results, Tryd.results75, go_sem]) rfl ?_
    exact ⟨rfl, H1.out⟩
set_option maxHeartbeats 1000000 in
set_option maxRecDepth 20000 in
theorem med_any (g n cap : Nat) (hn : n < 4611686018427387904) (a b c K s : Nat) (ha : a < n) (hb : b < n) (hc : c < n) (hs : s + 3 < 4611686018427387904) (d : Array Int) (w0 w : World) (H0 : CtO g n w0 K d (.int .i64 (s : Int)) w) :
    Calls Tryd.prog 73 #[.slice (some ⟨g, 0, none⟩) n cap, .int .i64 (a : Int), .int .i64 (b : Int), .int .i64 (c : Int), .pointer (some ⟨K, 0, none⟩)] w fun e w' => e = .returned (.int .i64 ((median ltInt d a b c s).1 : Int)) ∧ CtO g n w0 K d (.int .i64 (((median ltInt d a b c s).2 : Nat) : Int)) w' := by
  have l1 := order2_lt' ltInt d s ha hb
  have s1 := order2_swaps' ltInt d a b s
  have l2 := order2_lt' ltInt d (order2 ltInt d a b s).2.2 l1.2 hc
  have s2 := order2_swaps' ltInt d (order2 ltInt d a b s).2.1 c (order2 ltInt d a b s).2.2
  unfold median
  simp only []
  obtain ⟨p1, p2, p3, hp⟩ : ∃ p1 p2 p3, order2 ltInt d a b s = (p1, p2, p3) := ⟨_, _, _, rfl⟩
  have st1 := ord_any g n cap hn a b K s ha hb (by omega) d w0 w H0
  rw [hp] at l1 s1 l2 s2 st1 ⊢
  simp only [] at l1 s1 l2 s2 st1 ⊢
  obtain ⟨q1, q2, q3, hq⟩ : ∃ q1 q2 q3, order2 ltInt d p2 c p3 = (q1, q2, q3) := ⟨_, _, _, rfl⟩
  rw [hq] at l2 s2 ⊢
  simp only [] at l2 s2 ⊢
  obtain ⟨r1, r2, r3, hr⟩ : ∃ r1 r2 r3, order2 ltInt d p1 q1 q3 = (r1, r2, r3) := ⟨_, _, _, rfl⟩
  rw [hr]
  have HQ : Hid (order2 ltInt d p2 c p3 = (q1, q2, q3)) := Lib.hid hq
  have HR : Hid (order2 ltInt d p1 q1 q3 = (r1, r2, r3)) := Lib.hid hr
  have HS := Lib.hid st1
  have HL := Lib.hid (And.intro l1 (And.intro l2 (And.intro s1 s2)))
  clear hp hq hr st1 l1 l2 s1 s2 H0
  go_enter Tryd.func73, Tryd.ntmps73
  go_wp2_with fail
  refine HS.out.mono ?_
  rintro _ w1 ⟨rfl, h1⟩
  have st2 := ord_any g n cap hn p2 c K p3 HL.out.1.2 hc (by have := HL.out; omega) d w0 w1 h1
  rw [HQ.out] at st2
  have HS2 := Lib.hid st2
  clear st2 h1 HS
  go_wp2_with fail
  refine HS2.out.mono ?_
  rintro _ w2 ⟨rfl, h2⟩
  have st3 := ord_any g n cap hn p1 q1 K q3 HL.out.1.1 HL.out.2.1.1 (by have := HL.out; omega) d w0 w2 h2
  rw [HR.out] at st3
  have HS3 := Lib.hid st3
  clear st3 h2 HS2
  go_wp2_with fail
  refine HS3.out.mono ?_
  rintro _ w3 ⟨rfl, h3⟩
  have H3 := Lib.hid h3
  clear h3 HS3
  go_wp2
  go_ret
  exact ⟨rfl, H3.out⟩
set_option maxHeartbeats 1000000 in
set_option maxRecDepth 20000 in
theorem mad_any (g n cap : Nat) (hn : n < 4611686018427387904) (a K s : Nat) (ha1 : 1 ≤ a) (ha2 : a + 1 < n) (hs : s + 3 < 4611686018427387904) (d : Array Int) (w0 w : World) (H0 : CtO g n w0 K d (.int .i64 (s : Int)) w) :
    Calls Tryd.prog 72 #[.slice (some ⟨g, 0, none⟩) n cap, .int .i64 (a : Int), .pointer (some ⟨K, 0, none⟩)] w fun e w' => e = .returned (.int .i64 ((medianAdjacent ltInt d a s).1 : Int)) ∧ CtO g n w0 K d (.int .i64 (((medianAdjacent ltInt d a s).2 : Nat) : Int)) w' := by
  have hm := med_any g n cap hn (a - 1) a (a + 1) K s (by omega) (by omega) ha2 hs d w0 w H0
  rw [show ((a - 1 : Nat) : Int) = (a : Int) - 1 by omega, show ((a + 1 : Nat) : Int) = (a : Int) + 1 by omega] at hm
  unfold medianAdjacent
  generalize median ltInt d (a - 1) a (a + 1) s = m at hm ⊢
  have HM := Lib.hid hm
  clear hm H0
  go_enter Tryd.func72, Tryd.ntmps72
  go_wp2_with fail
  refine HM.out.mono ?_
  rintro _ w1 ⟨rfl, h1⟩
  have H1 := Lib.hid h1
  clear h1 HM
  go_wp2
  go_ret
  exact ⟨rfl, H1.out⟩
set_option maxHeartbeats 4000000 in
set_option maxRecDepth 20000 in
theorem piv_any (g n cap : Nat) (hn : n < 4611686018427387904) (a b : Nat) (hab : a < b) (hb : b ≤ n) (d : Array Int) (w0 w : World) (H0 : AtO g n w0 d w) :
    Calls Tryd.prog 55 #[.slice (some ⟨g, 0, none⟩) n cap, .int .i64 (a : Int), .int .i64 (b : Int)] w fun e w' => e = .returned (.tuple #[.int .i64 ((choosePivot ltInt d a b).1 : Int), .int .i64 (hintCode (choosePivot ltInt d a b).2)]) ∧ AtO g n w0 (d) w' := by
  have HS0 := Lib.hid (CtO.start (t := 3) H0 (.int .i64 ((0 : Nat) : Int)))
  obtain ⟨x, hx⟩ : ∃ x, x = w.heap.size := ⟨_, rfl⟩
  obtain ⟨w1, hw1⟩ : ∃ X, X = w.alloc (.cells #[.int .i64 0] 3) := ⟨_, rfl⟩
  rw [show (w.alloc (.cells #[.int .i64 ((0 : Nat) : Int)] 3)) = w1 from hw1.symm, ← hx] at HS0
  clear H0
  rw [choosePivot_eq]
  obtain ⟨I, hI⟩ : ∃ I : Nat, I = a + (b - a) / 4 * 1 := ⟨_, rfl⟩
  obtain ⟨J, hJ⟩ : ∃ J : Nat, J = a + (b - a) / 4 * 2 := ⟨_, rfl⟩
  obtain ⟨K, hK⟩ : ∃ K : Nat, K = a + (b - a) / 4 * 3 := ⟨_, rfl⟩
  have eI : ((a : Int) + ((b : Int) - (a : Int)) / 4) = (I : Int) := by omega
  have eJ : ((a : Int) + ((b : Int) - (a : Int)) / 4 * 2) = (J : Int) := by omega
  have eK : ((a : Int) + ((b : Int) - (a : Int)) / 4 * 3) = (K : Int) := by omega
  by_cases h8 : b - a ≥ 8
  · by_cases h50 : b - a ≥ 50
    · obtain ⟨i1, s1, h1⟩ : ∃ i1 s1, medianAdjacent ltInt d I 0 = (i1, s1) := ⟨_, _, rfl⟩
      obtain ⟨j1, s2, h2⟩ : ∃ j1 s2, medianAdjacent ltInt d J s1 = (j1, s2) := ⟨_, _, rfl⟩
      obtain ⟨k1, s3, h3⟩ : ∃ k1 s3, medianAdjacent ltInt d K s2 = (k1, s3) := ⟨_, _, rfl⟩
      obtain ⟨p, s, h4⟩ : ∃ p s, median ltInt d i1 j1 k1 s3 = (p, s) := ⟨_, _, rfl⟩
      have hraw : rawPivot ltInt d a b = (p, s) := by simp only [rawPivot, if_pos h8, if_pos h50, ← hI, ← hJ, ← hK, h1, h2, h3, h4]
      have m1 := medianAdjacent_mem ltInt d I 0; rw [h1] at m1
      have m2 := medianAdjacent_mem ltInt d J s1; rw [h2] at m2
      have m3 := medianAdjacent_mem ltInt d K s2; rw [h3] at m3
      have n1 := medianAdjacent_count ltInt d I 0; rw [h1] at n1
      have n2 := medianAdjacent_count ltInt d J s1; rw [h2] at n2
      have n3 := medianAdjacent_count ltInt d K s2; rw [h3] at n3
      simp only [] at m1 m2 m3 n1 n2 n3
      have N1 : Hid (∀ W, CtO g n w0 x d (.int .i64 ((0 : Nat) : Int)) W → Calls Tryd.prog 72 #[.slice (some ⟨g, 0, none⟩) n cap, .int .i64 (I : Int), .pointer (some ⟨x, 0, none⟩)] W fun e w' => e = .returned (.int .i64 (i1 : Int)) ∧ CtO g n w0 x d (.int .i64 ((s1 : Nat) : Int)) w') := Lib.hid (fun W h => by have h := mad_any g n cap hn I x 0 (by omega) (by omega) (by omega) d w0 W h; rw [h1] at h; exact h)
      have N2 : Hid (∀ W, CtO g n w0 x d (.int .i64 ((s1 : Nat) : Int)) W → Calls Tryd.prog 72 #[.slice (some ⟨g, 0, none⟩) n cap, .int .i64 (J : Int), .pointer (some ⟨x, 0, none⟩)] W fun e w' => e = .returned (.int .i64 (j1 : Int)) ∧ CtO g n w0 x d (.int .i64 ((s2 : Nat) : Int)) w') := Lib.hid (fun W h => by have h := mad_any g n cap hn J x s1 (by omega) (by omega) (by omega) d w0 W h; rw [h2] at h; exact h)
      have N3 : Hid (∀ W, CtO g n w0 x d (.int .i64 ((s2 : Nat) : Int)) W → Calls Tryd.prog 72 #[.slice (some ⟨g, 0, none⟩) n cap, .int .i64 (K : Int), .pointer (some ⟨x, 0, none⟩)] W fun e w' => e = .returned (.int .i64 (k1 : Int)) ∧ CtO g n w0 x d (.int .i64 ((s3 : Nat) : Int)) w') := Lib.hid (fun W h => by have h := mad_any g n cap hn K x s2 (by omega) (by omega) (by omega) d w0 W h; rw [h3] at h; exact h)
      have N4 : Hid (∀ W, CtO g n w0 x d (.int .i64 ((s3 : Nat) : Int)) W → Calls Tryd.prog 73 #[.slice (some ⟨g, 0, none⟩) n cap, .int .i64 (i1 : Int), .int .i64 (j1 : Int), .int .i64 (k1 : Int), .pointer (some ⟨x, 0, none⟩)] W fun e w' => e = .returned (.int .i64 (p : Int)) ∧ CtO g n w0 x d (.int .i64 ((s : Nat) : Int)) w') := Lib.hid (fun W h => by have h := med_any g n cap hn i1 j1 k1 x s3 (by omega) (by omega) (by omega) (by omega) d w0 W h; rw [h4] at h; exact h)
      rw [hraw]
      obtain ⟨Hc, hHc⟩ : ∃ Hc : Int, Hc = hintCode (hintOf s) := ⟨_, rfl⟩
      have hh0 : s = 0 → Hc = 1 := fun h => by rw [hHc, h]; rfl
      have hh12 : s = 12 → Hc = 2 := fun h => by rw [hHc, h]; rfl
      have hhx : s ≠ 0 → s ≠ 12 → Hc = 0 := fun h1 h2 => by rw [hHc]; unfold hintOf; rw [if_neg h1, if_neg h2]; rfl
      simp only []
      rw [← hHc]
      have HH := Lib.hid (And.intro hh0 (And.intro hh12 hhx))
      clear hHc hh0 hh12 hhx
      have h8z : (8 : Int) ≤ (b : Int) - (a : Int) := by omega
      have h50z : (50 : Int) ≤ (b : Int) - (a : Int) := by omega
      clear hraw h1 h2 h3 h4 hI hJ hK m1 m2 m3 n1 n2 n3
      go_enter Tryd.func55, Tryd.ntmps55
      go_upto_region 3 with fail
      rw [← hw1, ← hx]
      clear hw1 hx
      go_wp2_with fail
      refine (N1.out _ HS0.out).mono ?_
      rintro _ v1 ⟨rfl, h1⟩
      have H1 := Lib.hid h1
      clear h1
      go_wp2_with fail
      refine (N2.out _ H1.out).mono ?_
      rintro _ v2 ⟨rfl, h2⟩
      have H2 := Lib.hid h2
      clear h2
      go_wp2_with fail
      refine (N3.out _ H2.out).mono ?_
      rintro _ v3 ⟨rfl, h3⟩
      have H3 := Lib.hid h3
      clear h3
      go_wp2_with fail
      refine (N4.out _ H3.out).mono ?_
      rintro _ v4 ⟨rfl, h4⟩
      have H4 := Lib.hid h4
      clear h4
      have HF := Lib.hid H4.out
      clear H1 H2 H3 H4 N1 N2 N3 N4 HS0 eI eJ eK
      have k9 := HF.out.at_
      rcases (show s = 0 ∨ s = 12 ∨ (s ≠ 0 ∧ s ≠ 12) by omega) with hs0 | hs0 | ⟨hs0, hs1⟩
      · obtain rfl : Hc = 1 := HH.out.1 hs0
        have b0 : (s : Int) = 0 := by omega
        go_wp2
        refine bodyPost_ret (v := .tuple #[.int .i64 (p : Int), .int .i64 1]) (by simp [results, Tryd.results55, go_sem]) rfl ?_
        exact ⟨rfl, HF.out.st⟩
      · obtain rfl : Hc = 2 := HH.out.2.1 hs0
        have b0 : (s : Int) = 12 := by omega
        go_wp2
        refine bodyPost_ret (v := .tuple #[.int .i64 (p : Int), .int .i64 2]) (by simp [results, Tryd.results55, go_sem]) rfl ?_
        exact ⟨rfl, HF.out.st⟩
      · obtain rfl : Hc = 0 := HH.out.2.2 hs0 hs1
        have b0 : ((s : Int) == 0) = false := by simp; omega
        have b1 : ((s : Int) == 12) = false := by simp; omega
        have b2 : ¬ (s : Int) = 0 := by omega
        have b3 : ¬ (s : Int) = 12 := by omega
        go_wp2
        refine bodyPost_ret (v := .tuple #[.int .i64 (p : Int), .int .i64 0]) (by simp [results, Tryd.results55, go_sem]) rfl ?_
        exact ⟨rfl, HF.out.st⟩
    · obtain ⟨p, s, h4⟩ : ∃ p s, median ltInt d I J K 0 = (p, s) := ⟨_, _, rfl⟩
      have hraw : rawPivot ltInt d a b = (p, s) := by simp only [rawPivot, if_pos h8, if_neg h50, ← hI, ← hJ, ← hK, h4]
      have N4 : Hid (∀ W, CtO g n w0 x d (.int .i64 ((0 : Nat) : Int)) W → Calls Tryd.prog 73 #[.slice (some ⟨g, 0, none⟩) n cap, .int .i64 (I : Int), .int .i64 (J : Int), .int .i64 (K : Int), .pointer (some ⟨x, 0, none⟩)] W fun e w' => e = .returned (.int .i64 (p : Int)) ∧ CtO g n w0 x d (.int .i64 ((s : Nat) : Int)) w') := Lib.hid (fun W h => by have h := med_any g n cap hn I J K x 0 (by omega) (by omega) (by omega) (by omega) d w0 W h; rw [h4] at h; exact h)
      rw [hraw]
      obtain ⟨Hc, hHc⟩ : ∃ Hc : Int, Hc = hintCode (hintOf s) := ⟨_, rfl⟩
      have hh0 : s = 0 → Hc = 1 := fun h => by rw [hHc, h]; rfl
      have hh12 : s = 12 → Hc = 2 := fun h => by rw [hHc, h]; rfl
      have hhx : s ≠ 0 → s ≠ 12 → Hc = 0 := fun h1 h2 => by rw [hHc]; unfold hintOf; rw [if_neg h1, if_neg h2]; rfl
      simp only []
      rw [← hHc]
      have HH := Lib.hid (And.intro hh0 (And.intro hh12 hhx))
      clear hHc hh0 hh12 hhx
      have h8z : (8 : Int) ≤ (b : Int) - (a : Int) := by omega
      have h50z : ¬ (50 : Int) ≤ (b : Int) - (a : Int) := by omega
      clear hraw h4 hI hJ hK
      go_enter Tryd.func55, Tryd.ntmps55
      go_upto_region 3 with fail
      rw [← hw1, ← hx]
      clear hw1 hx
      go_wp2_with fail
      refine (N4.out _ HS0.out).mono ?_
      rintro _ v4 ⟨rfl, h4⟩
      have H4 := Lib.hid h4
      clear h4
      have HF := Lib.hid H4.out
      clear H4 N4 HS0 eI eJ eK
      have k9 := HF.out.at_
      rcases (show s = 0 ∨ s = 12 ∨ (s ≠ 0 ∧ s ≠ 12) by omega) with hs0 | hs0 | ⟨hs0, hs1⟩
      · obtain rfl : Hc = 1 := HH.out.1 hs0
        have b0 : (s : Int) = 0 := by omega
        go_wp2
        refine bodyPost_ret (v := .tuple #[.int .i64 (p : Int), .int .i64 1]) (by simp [results, Tryd.results55, go_sem]) rfl ?_
        exact ⟨rfl, HF.out.st⟩
      · obtain rfl : Hc = 2 := HH.out.2.1 hs0
        have b0 : (s : Int) = 12 := by omega
        go_wp2
        refine bodyPost_ret (v := .tuple #[.int .i64 (p : Int), .int .i64 2]) (by simp [results, Tryd.results55, go_sem]) rfl ?_
        exact ⟨rfl, HF.out.st⟩
      · obtain rfl : Hc = 0 := HH.out.2.2 hs0 hs1
        have b0 : ((s : Int) == 0) = false := by simp; omega
        have b1 : ((s : Int) == 12) = false := by simp; omega
        have b2 : ¬ (s : Int) = 0 := by omega
        have b3 : ¬ (s : Int) = 12 := by omega
        go_wp2
        refine bodyPost_ret (v := .tuple #[.int .i64 (p : Int), .int .i64 0]) (by simp [results, Tryd.results55, go_sem]) rfl ?_
        exact ⟨rfl, HF.out.st⟩
  · have hraw : rawPivot ltInt d a b = (J, 0) := by simp only [rawPivot, if_neg h8, ← hJ]
    have hh : hintCode (hintOf 0) = 1 := rfl
    rw [hraw]
    simp only []
    rw [hh]
    have h8z : ¬ (8 : Int) ≤ (b : Int) - (a : Int) := by omega
    have HF := Lib.hid HS0.out
    have k9 : w1.cell? ⟨x, 0, none⟩ = some (.int .i64 0) := HS0.out.at_
    clear hraw hh hI hJ hK
    go_enter Tryd.func55, Tryd.ntmps55
    go_upto_region 3 with fail
    rw [← hw1, ← hx]
    clear hw1 hx
    go_wp2
    refine bodyPost_ret (v := .tuple #[.int .i64 (J : Int), .int .i64 1]) (by simp [results, Tryd.results55, go_sem]) rfl ?_
    exact ⟨rfl, HF.out.st⟩
end Go.Proofs.YtdljphbfbiganaaDoor.So
/- breakPatterns -/
namespace Go.Proofs.YtdljphbfbiganaaDoor.So
open Go Go.RowKit Go.Sort Go.Proofs Go.Lib
set_option linter.unusedVariables false

set_option maxHeartbeats 4000000 in
set_option maxRecDepth 20000 in
/-- The arm 'length >= 8', b written as a + M. -/
theorem brk_go (g n cap : Nat) (hn : n < 4611686018427387904) (a M : Nat) (h8 : 8 ≤ M) (hb : a + M ≤ n) (d : Array Int) (w0 w : World) (H0 : AtO g n w0 d w) :
    Calls Tryd.prog 54 #[.slice (some ⟨g, 0, none⟩) n cap, .int .i64 (a : Int), .int .i64 ((a + M : Nat) : Int)] w fun e w' => e = .returned (.tuple #[]) ∧ AtO g n w0 (breakPatterns d a (a + M)) w' := by
  rw [breakPatterns_eq d a M h8]
  obtain ⟨Q, hQ⟩ : ∃ Q : Nat, Q = 1 <<< bitsLen M := ⟨_, rfl⟩
  have hQ1 : 1 ≤ Q := by rw [hQ, Nat.one_shiftLeft]; exact Nat.two_pow_pos _
  have hQ2 : Q ≤ 2 * M := by rw [hQ, Nat.one_shiftLeft]; exact two_pow_bitsLen_le (by omega)
  have HNP := Lib.hid (fun w => npot M (by omega) w)
  rw [← hQ] at HNP ⊢
  clear hQ
  have hMz : ((a : Int) + (M : Int) - (a : Int)) = (M : Int) := by omega
  have h8z : (8 : Int) ≤ (M : Int) := by omega
  have HS0 := Lib.hid (CtO.start (t := 124) H0 (.int .u64 (M : Int)))
  obtain ⟨K, hK⟩ : ∃ K, K = w.heap.size := ⟨_, rfl⟩
  obtain ⟨w1, hw1⟩ : ∃ X, X = w.alloc (.cells #[.int .u64 (M : Int)] 124) := ⟨_, rfl⟩
  rw [← hK, ← hw1] at HS0
  have hwM : IntKind.u64.wrap (M : Int) = (M : Int) := by rw [IntKind.wrap_u64]; omega
  clear H0
  go_enter Tryd.func54, Tryd.ntmps54
  go_upto_region 3 with fail
  rw [← hw1, ← hK]
  clear hw1 hK hwM
  go_wp2_with fail
  refine (HNP.out _).mono ?_
  rintro _ _ ⟨rfl, rfl⟩
  go_wp2
  go_loopg [9] 3 (fun g1 vi wr => ∃ (t : Nat) (r : UInt64) (dk : Array Int), vi = .int .i64 ((a : Int) + (M : Int) / 4 * 2 - 1 + (t : Int)) ∧ t ≤ 3 ∧ 3 - t ≤ g1 ∧ CtO g n w0 K dk (.int .u64 (r.toNat : Int)) wr ∧
      Hid (bpRest a M Q (a + M / 4 * 2 - 1) (3 - t) t (r, dk) = bpRest a M Q (a + M / 4 * 2 - 1) 3 0 (UInt64.ofNat M, d)))
  case atStart =>
    refine ⟨0, UInt64.ofNat M, d, by simp, by omega, by omega, ?_, Lib.hid rfl⟩
    rw [show (UInt64.ofNat M).toNat = M from by simp; omega]
    exact HS0.out
  case round =>
    clear HS0 HNP
    obtain ⟨t, r, dk, rfl, ht, hg1, H, HR⟩ := hrel
    by_cases ht3 : t < 3
    · have hle : (a : Int) + (M : Int) / 4 * 2 - 1 + (t : Int) ≤ (a : Int) + (M : Int) / 4 * 2 + 1 := by omega
      obtain ⟨R, hRr⟩ : ∃ R : Nat, R = r.toNat := ⟨_, rfl⟩
      have lR : R < 18446744073709551616 := by rw [hRr]; exact r.toNat_lt
      obtain ⟨R', hR'⟩ : ∃ R' : Nat, R' = xorNextN R := ⟨_, rfl⟩
      have lR' : R' < 18446744073709551616 := by rw [hR']; exact xorNextN_lt R lR
      obtain ⟨O, hO⟩ : ∃ O : Nat, O = R' &&& (Q - 1) := ⟨_, rfl⟩
      have lO : O ≤ Q - 1 := by rw [hO]; exact Nat.and_le_right
      have eAnd : bits .and .u64 (R' : Int) ((Q : Int) - 1) = (O : Int) := by
        rw [show ((Q : Int) - 1) = ((Q - 1 : Nat) : Int) by omega, bits_and_u64_nat _ _ lR' (by omega), hO]
      rw [← hRr] at H
      have hNext := xnext K R lR wr H.at_ H.f
      rw [← hR'] at hNext
      have HN : Hid (R' = (xorNext r).toNat ∧ O = (xorNext r).toNat &&& (Q - 1)) := Lib.hid (by
        have e : R' = (xorNext r).toNat := by rw [hR', hRr, xorNext_toNat]
        exact ⟨e, by rw [hO, e]⟩)
      have S2 := Lib.hid ((H.turn (.int .u64 (R' : Int))).drewN 3)
      clear hRr hR' hO
      generalize (wr.setCell ⟨K, 0, none⟩ (.int .u64 (R' : Int))).drewN 3 = w2 at hNext S2
      have HNx := Lib.hid hNext
      have hwO : IntKind.i64.wrap (O : Int) = (O : Int) := by rw [IntKind.wrap_i64]; omega
      have hwQ : IntKind.u64.wrap ((Q : Int) - 1) = (Q : Int) - 1 := by rw [IntKind.wrap_u64]; omega
      clear H hNext lR'
      by_cases hMO : M ≤ O
      · have hMOz : (M : Int) ≤ (O : Int) := by omega
        go_wp2_with fail
        refine HNx.out.mono ?_
        rintro _ _ ⟨rfl, rfl⟩
        go_upto_region 10 with fail
        obtain ⟨ix, hix⟩ : ∃ ix : Nat, ix = a + M / 4 * 2 - 1 + t := ⟨_, rfl⟩
        have eix : (a : Int) + (M : Int) / 4 * 2 - 1 + (t : Int) = (ix : Int) := by omega
        have wix : IntKind.i64.wrap (ix : Int) = (ix : Int) := by rw [IntKind.wrap_i64]; omega
        have ix0 : (0 : Int) ≤ (ix : Int) := by omega
        have ix1 : (ix : Int) < (n : Int) := by omega
        have cix := S2.out.st.cell ix (by omega)
        obtain ⟨x, hx⟩ : ∃ x, x = (dk)[ix]! := ⟨_, rfl⟩
        rw [← hx] at cix
        obtain ⟨ao, hao⟩ : ∃ ao : Nat, ao = a + (O - M) := ⟨_, rfl⟩
        have eao : (a : Int) + ((O : Int) - (M : Int)) = (ao : Int) := by omega
        have wao : IntKind.i64.wrap (ao : Int) = (ao : Int) := by rw [IntKind.wrap_i64]; omega
        have ao0 : (0 : Int) ≤ (ao : Int) := by omega
        have ao1 : (ao : Int) < (n : Int) := by omega
        have cao := S2.out.st.cell ao (by omega)
        obtain ⟨y, hy⟩ : ∃ y, y = (dk)[ao]! := ⟨_, rfl⟩
        rw [← hy] at cao
        have HPQ := Lib.hid (And.intro (And.intro hix hx) (And.intro hao hy))
        have fz := S2.out.st.frz
        clear hx hy hix hao HNx
        have HS := Lib.hid (S2.out.swapL HPQ.out (by omega) (by omega))
        by_cases hpq : ix = ao
        · subst hpq
          obtain rfl : x = y := by have h1 := cix.symm.trans cao; injection h1 with h1; injection h1
          go_region
          go_wp2
          go_roundg (3 - (t + 1))
          case measure => omega
          case rel => exact ⟨t + 1, xorNext r, swp dk (a + M / 4 * 2 - 1 + t) (a + (O - M)), by congr 1; push_cast; omega, by omega, Nat.le_refl _, by rw [← HN.out.1]; exact HS.out _,
            Lib.hid (by rw [← HR.out, bp_step a M Q _ t r dk (O - M) ht3 (by rw [← HN.out.2, if_pos (by omega)])])⟩
        · have hqp : ¬ ao = ix := fun e => hpq e.symm
          go_region
          go_wp2
          go_roundg (3 - (t + 1))
          case measure => omega
          case rel => exact ⟨t + 1, xorNext r, swp dk (a + M / 4 * 2 - 1 + t) (a + (O - M)), by congr 1; push_cast; omega, by omega, Nat.le_refl _, by rw [← HN.out.1]; exact HS.out _,
            Lib.hid (by rw [← HR.out, bp_step a M Q _ t r dk (O - M) ht3 (by rw [← HN.out.2, if_pos (by omega)])])⟩
      · have hMOz : ¬ (M : Int) ≤ (O : Int) := by omega
        go_wp2_with fail
        refine HNx.out.mono ?_
        rintro _ _ ⟨rfl, rfl⟩
        go_upto_region 10 with fail
        obtain ⟨ix, hix⟩ : ∃ ix : Nat, ix = a + M / 4 * 2 - 1 + t := ⟨_, rfl⟩
        have eix : (a : Int) + (M : Int) / 4 * 2 - 1 + (t : Int) = (ix : Int) := by omega
        have wix : IntKind.i64.wrap (ix : Int) = (ix : Int) := by rw [IntKind.wrap_i64]; omega
        have ix0 : (0 : Int) ≤ (ix : Int) := by omega
        have ix1 : (ix : Int) < (n : Int) := by omega
        have cix := S2.out.st.cell ix (by omega)
        obtain ⟨x, hx⟩ : ∃ x, x = (dk)[ix]! := ⟨_, rfl⟩
        rw [← hx] at cix
        obtain ⟨ao, hao⟩ : ∃ ao : Nat, ao = a + (O) := ⟨_, rfl⟩
        have eao : (a : Int) + (O : Int) = (ao : Int) := by omega
        have wao : IntKind.i64.wrap (ao : Int) = (ao : Int) := by rw [IntKind.wrap_i64]; omega
        have ao0 : (0 : Int) ≤ (ao : Int) := by omega
        have ao1 : (ao : Int) < (n : Int) := by omega
        have cao := S2.out.st.cell ao (by omega)
        obtain ⟨y, hy⟩ : ∃ y, y = (dk)[ao]! := ⟨_, rfl⟩
        rw [← hy] at cao
        have HPQ := Lib.hid (And.intro (And.intro hix hx) (And.intro hao hy))
        have fz := S2.out.st.frz
        clear hx hy hix hao HNx
        have HS := Lib.hid (S2.out.swapL HPQ.out (by omega) (by omega))
        by_cases hpq : ix = ao
        · subst hpq
          obtain rfl : x = y := by have h1 := cix.symm.trans cao; injection h1 with h1; injection h1
          go_region
          go_wp2
          go_roundg (3 - (t + 1))
          case measure => omega
          case rel => exact ⟨t + 1, xorNext r, swp dk (a + M / 4 * 2 - 1 + t) (a + (O)), by congr 1; push_cast; omega, by omega, Nat.le_refl _, by rw [← HN.out.1]; exact HS.out _,
            Lib.hid (by rw [← HR.out, bp_step a M Q _ t r dk (O) ht3 (by rw [← HN.out.2, if_neg (by omega)])])⟩
        · have hqp : ¬ ao = ix := fun e => hpq e.symm
          go_region
          go_wp2
          go_roundg (3 - (t + 1))
          case measure => omega
          case rel => exact ⟨t + 1, xorNext r, swp dk (a + M / 4 * 2 - 1 + t) (a + (O)), by congr 1; push_cast; omega, by omega, Nat.le_refl _, by rw [← HN.out.1]; exact HS.out _,
            Lib.hid (by rw [← HR.out, bp_step a M Q _ t r dk (O) ht3 (by rw [← HN.out.2, if_neg (by omega)])])⟩
    · obtain rfl : t = 3 := by omega
      have hle : ¬ ((a : Int) + (M : Int) / 4 * 2 - 1 + ((3 : Nat) : Int) ≤ (a : Int) + (M : Int) / 4 * 2 + 1) := by omega
      have HD := Lib.hid H
      clear H
      go_wp2
      refine bodyPost_end (results_none rfl _ _ _) rfl ⟨rfl, ?_⟩
      rw [← HR.out]
      exact HD.out.st
set_option maxHeartbeats 2000000 in
set_option maxRecDepth 20000 in
theorem brk_any (g n cap : Nat) (hn : n < 4611686018427387904) (a b : Nat) (hab : a ≤ b) (hb : b ≤ n) (d : Array Int) (w0 w : World) (H0 : AtO g n w0 d w) :
    Calls Tryd.prog 54 #[.slice (some ⟨g, 0, none⟩) n cap, .int .i64 (a : Int), .int .i64 (b : Int)] w fun e w' => e = .returned (.tuple #[]) ∧ AtO g n w0 (breakPatterns d a b) w' := by
  obtain ⟨M, rfl⟩ : ∃ M, b = a + M := ⟨b - a, by omega⟩
  by_cases h8 : 8 ≤ M
  · exact brk_go g n cap hn a M h8 hb d w0 w H0
  · have hv : breakPatterns d a (a + M) = d := by unfold breakPatterns; simp only [Nat.add_sub_cancel_left]; rw [if_neg h8]
    rw [hv]
    have hMz : ((a : Int) + (M : Int) - (a : Int)) = (M : Int) := by omega
    have h8z : ¬ (8 : Int) ≤ (M : Int) := by omega
    have HT0 := Lib.hid H0
    clear H0 hv
    go_enter Tryd.func54, Tryd.ntmps54
    go_wp2
    refine bodyPost_end (results_none rfl _ _ _) rfl ⟨rfl, HT0.out⟩
end Go.Proofs.YtdljphbfbiganaaDoor.So
/- reverseRange -/
namespace Go.Proofs.YtdljphbfbiganaaDoor.So
open Go Go.RowKit Go.Sort Go.Proofs
set_option linter.unusedVariables false

set_option maxHeartbeats 2000000 in
set_option maxRecDepth 20000 in
theorem rev_any (g n cap : Nat) (hn : n < 4611686018427387904) (a b : Nat) (hab : a ≤ b) (hb : b ≤ n) (d : Array Int) (w0 w : World) (H0 : AtO g n w0 d w) :
    Calls Tryd.prog 56 #[.slice (some ⟨g, 0, none⟩) n cap, .int .i64 (a : Int), .int .i64 (b : Int)] w fun e w' => e = .returned (.tuple #[]) ∧ AtO g n w0 (reverseRange d a b) w' := by
  go_enter Tryd.func56, Tryd.ntmps56
  have HH := Lib.hid H0
  clear H0
  go_wp2
  go_loopg [6, 7] (b - a) (fun k s6 s7 wr => ∃ (i jn : Nat) (jz : Int) (dk : Array Int), s6 = .int .i64 (i : Int) ∧ s7 = .int .i64 jz ∧ ((i : Int) < jz → jz = jn ∧ jn < n) ∧ (¬ (i : Int) < jz → ¬ i < jn) ∧ jn - i ≤ k ∧
    AtO g n w0 dk wr ∧ Hid (reverseLoop i jn dk = reverseLoop a (b - 1) d))
  case atStart => exact ⟨a, b - 1, (b : Int) - 1, d, rfl, rfl, fun h => ⟨by omega, by omega⟩, fun h => by omega, by omega, HH.out, Lib.hid rfl⟩
  case round =>
    clear HH
    obtain ⟨i, jn, jz, dk, rfl, rfl, h1, h2, hk, H, HR⟩ := hrel
    have HD := Lib.hid H
    by_cases hlt : (i : Int) < jz
    · obtain ⟨rfl, hjn⟩ := h1 hlt
      have hij : i < jn := by omega
      have d1 : decide ((i : Int) < (jn : Int)) = true := decide_eq_true hlt
      clear h1 h2
      have i0 : (0 : Int) ≤ (i : Int) := by omega
      have i1 : (i : Int) < (n : Int) := by omega
      have ci := H.cell i (by omega)
      obtain ⟨x, hx⟩ : ∃ x, x = (dk)[i]! := ⟨_, rfl⟩
      rw [← hx] at ci
      have jn0 : (0 : Int) ≤ (jn : Int) := by omega
      have jn1 : (jn : Int) < (n : Int) := by omega
      have cjn := H.cell jn (by omega)
      obtain ⟨y, hy⟩ : ∃ y, y = (dk)[jn]! := ⟨_, rfl⟩
      rw [← hy] at cjn
      have HPQ := Lib.hid (And.intro (And.intro (Eq.refl i) hx) (And.intro (Eq.refl jn) hy))
      have fz := H.frz
      clear hx hy H
      have H3 := HD.out.swapL HPQ.out (by omega) (by omega)
      have HS := Lib.hid H3
      clear H3
      go_wp2_with fail
      go_region
      go_wp2
      go_roundg (jn - 1 - (i + 1))
      case measure => omega
      case rel => exact ⟨i + 1, jn - 1, (jn : Int) - 1, swp dk i jn, by go_num, rfl, fun h => ⟨by omega, by omega⟩, fun h => by omega, Nat.le_refl _, HS.out _, Lib.hid (by rw [← HR.out]; conv => rhs; rw [reverseLoop, if_pos hij])⟩
    · have hnot := h2 hlt
      have d1 : decide ((i : Int) < jz) = false := decide_eq_false hlt
      clear H h1
      go_wp2
      refine bodyPost_end (results_none rfl _ _ _) rfl ⟨rfl, ?_⟩
      have e := HR.out
      rw [reverseLoop, if_neg hnot] at e
      rw [reverseRange, ← e]
      exact HD.out
end Go.Proofs.YtdljphbfbiganaaDoor.So
