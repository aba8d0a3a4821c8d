import Derived.Test.YtdljphbfbiganaaGreatDoorGStOBase
import Derived.Deep.RegionHeld3
import Derived.Sort.WalkB2
import Derived.Deep.CutBlock
import Derived.Deep.DeepCutAuto
import Derived.Sort.WalkB3
/- siftDown -/
namespace Go.Proofs.YtdljphbfbiganaaGreatDoor.So
open Go Go.RowKit Go.Sort Go.Proofs
set_option linter.unusedVariables false

set_option maxHeartbeats 4000000 in
set_option maxRecDepth 20000 in
theorem sift_any (g n cap : Nat) (hn : n < 4611686018427387904) (lo hi first : Nat) (hlo : lo ≤ hi) (hb : first + hi ≤ n) (d : Array Int) (w0 w : World) (H0 : AtO g n w0 d w) :
    Calls Tryz.prog 96 #[.slice (some ⟨g, 0, none⟩) n cap, .int .i64 (lo : Int), .int .i64 (hi : Int), .int .i64 (first : Int)] w fun e w' => e = .returned (.tuple #[]) ∧ AtO g n w0 (siftDown ltInt hi first lo d) w' := by
  go_enter Tryz.func96, Tryz.ntmps96
  have HH := Lib.hid H0
  clear H0
  go_wp2
  go_loopg [8] (hi - lo) (fun kx s8 wr => ∃ (root : Nat) (dk : Array Int), s8 = .int .i64 (root : Int) ∧ root ≤ hi ∧ hi - root ≤ kx ∧ AtO g n w0 dk wr ∧ Hid (siftDown ltInt hi first root dk = siftDown ltInt hi first lo d))
  case atStart => exact ⟨lo, d, rfl, hlo, Nat.le_refl _, HH.out, Lib.hid rfl⟩
  case round =>
    clear HH
    obtain ⟨root, dk, rfl, hr, hkx, H, HE⟩ := hrel
    have HD := Lib.hid H
    by_cases h0 : hi ≤ 2 * root + 1
    · have d0 : decide ((hi : Int) ≤ 2 * (root : Int) + 1) = true := decide_eq_true (by omega)
      have h0z : (hi : Int) ≤ 2 * (root : Int) + 1 := by omega
      clear H
      go_wp2
      go_end0
      exact ⟨rfl, by rw [← HE.out, sd_end ltInt dk h0]; exact HD.out⟩
    · have d0 : decide ((hi : Int) ≤ 2 * (root : Int) + 1) = false := decide_eq_false (by omega)
      have h0z : ¬ ((hi : Int) ≤ 2 * (root : Int) + 1) := by omega
      by_cases h1 : 2 * root + 2 < hi
      · have h1z : 2 * (root : Int) + 1 + 1 < (hi : Int) := by omega
        have hw1 : IntKind.i64.wrap (2 * (root : Int) + 1 + 1) = 2 * (root : Int) + 1 + 1 := by rw [IntKind.wrap_i64]; omega
        have hw2 : IntKind.i64.wrap ((first : Int) + (2 * (root : Int) + 1) + 1) = (first : Int) + (2 * (root : Int) + 1) + 1 := by rw [IntKind.wrap_i64]; omega
        have hw3 : IntKind.i64.wrap ((first : Int) + (2 * (root : Int) + 1)) = (first : Int) + (2 * (root : Int) + 1) := by rw [IntKind.wrap_i64]; omega
        have hw4 : IntKind.i64.wrap ((first : Int) + (2 * (root : Int) + 1 + 1)) = (first : Int) + (2 * (root : Int) + 1 + 1) := by rw [IntKind.wrap_i64]; omega
        cases hL : ltInt dk[first + (2 * root + 1)]! dk[first + (2 * root + 2)]! with
        | true =>
          have HL := Lib.hid hL
          obtain ⟨lf, hlf⟩ : ∃ lf : Nat, lf = first + (2 * root + 1) := ⟨_, rfl⟩
          have elf : (first : Int) + (2 * (root : Int) + 1) = (lf : Int) := by omega
          have wlf : IntKind.i64.wrap (lf : Int) = (lf : Int) := by rw [IntKind.wrap_i64]; omega
          have lf0 : (0 : Int) ≤ (lf : Int) := by omega
          have lf1 : (lf : Int) < (n : Int) := by omega
          have clf := H.cell lf (by omega)
          obtain ⟨u, hu⟩ : ∃ u, u = (dk)[lf]! := ⟨_, rfl⟩
          rw [← hu] at clf
          obtain ⟨rg, hrg⟩ : ∃ rg : Nat, rg = first + (2 * root + 2) := ⟨_, rfl⟩
          have erg : (lf : Int) + 1 = (rg : Int) := by omega
          have wrg : IntKind.i64.wrap (rg : Int) = (rg : Int) := by rw [IntKind.wrap_i64]; omega
          have rg0 : (0 : Int) ≤ (rg : Int) := by omega
          have rg1 : (rg : Int) < (n : Int) := by omega
          have crg := H.cell rg (by omega)
          obtain ⟨z, hz⟩ : ∃ z, z = (dk)[rg]! := ⟨_, rfl⟩
          rw [← hz] at crg
          have HLR := Lib.hid (And.intro (And.intro hlf hu) (And.intro hrg hz))
          have fz := H.frz
          have hl : ltInt u z = true := by rw [hu, hlf, hz, hrg]; exact hL
          clear hu hz hlf hrg hL
          go_wp2_with fail
          go_quiet ((go_at_call 85; exact Calls.quiet_of_same (less_u _ _ _)))
          go_upto_region 5 with fail
          have HD2 := Lib.hid (H.drewN nq)
          obtain ⟨w2, hw2⟩ : ∃ X, X = wr.drewN nq := ⟨_, rfl⟩
          rw [← hw2] at HD2 ⊢
          clear hw2 H elf erg wlf wrg
          clear clf crg lf0 lf1 rg0 rg1 hl fz
          cases hG : ltInt dk[first + root]! dk[first + (2 * root + 2)]! with
          | true =>
            obtain ⟨rt, hrt⟩ : ∃ rt : Nat, rt = first + root := ⟨_, rfl⟩
            have ert : (first : Int) + (root : Int) = (rt : Int) := by omega
            have wrt : IntKind.i64.wrap (rt : Int) = (rt : Int) := by rw [IntKind.wrap_i64]; omega
            have rt0 : (0 : Int) ≤ (rt : Int) := by omega
            have rt1 : (rt : Int) < (n : Int) := by omega
            have crt := HD2.out.cell rt (by omega)
            obtain ⟨x, hx⟩ : ∃ x, x = (dk)[rt]! := ⟨_, rfl⟩
            rw [← hx] at crt
            obtain ⟨ch, hch⟩ : ∃ ch : Nat, ch = first + (2 * root + 2) := ⟨_, rfl⟩
            have ech : (first : Int) + (2 * (root : Int) + 1 + 1) = (ch : Int) := by omega
            have wch : IntKind.i64.wrap (ch : Int) = (ch : Int) := by rw [IntKind.wrap_i64]; omega
            have ch0 : (0 : Int) ≤ (ch : Int) := by omega
            have ch1 : (ch : Int) < (n : Int) := by omega
            have cch := HD2.out.cell ch (by omega)
            obtain ⟨y, hy⟩ : ∃ y, y = (dk)[ch]! := ⟨_, rfl⟩
            rw [← hy] at cch
            have HPQ := Lib.hid (And.intro (And.intro hrt hx) (And.intro hch hy))
            have fz := HD2.out.frz
            have hl : ltInt x y = true := by rw [hx, hrt, hy, hch]; exact hG
            have HG := Lib.hid hG
            clear hx hy hrt hch hG
            go_wp2_with fail
            go_quiet ((go_at_call 85; exact Calls.quiet_of_same (less_u _ _ _)))
            go_wp2_with fail
            go_region
            have H3 := HD2.out.swapL HPQ.out (by omega) (by omega)
            go_wp2
            go_roundg (hi - (2 * root + 2))
            case measure => omega
            case rel => exact ⟨2 * root + 2, _, by go_num, by omega, Nat.le_refl _, H3 _, Lib.hid (by rw [← HE.out, sd_right_go ltInt dk h1 HL.out HG.out])⟩
          | false =>
            obtain ⟨rt, hrt⟩ : ∃ rt : Nat, rt = first + root := ⟨_, rfl⟩
            have ert : (first : Int) + (root : Int) = (rt : Int) := by omega
            have wrt : IntKind.i64.wrap (rt : Int) = (rt : Int) := by rw [IntKind.wrap_i64]; omega
            have rt0 : (0 : Int) ≤ (rt : Int) := by omega
            have rt1 : (rt : Int) < (n : Int) := by omega
            have crt := HD2.out.cell rt (by omega)
            obtain ⟨x, hx⟩ : ∃ x, x = (dk)[rt]! := ⟨_, rfl⟩
            rw [← hx] at crt
            obtain ⟨ch, hch⟩ : ∃ ch : Nat, ch = first + (2 * root + 2) := ⟨_, rfl⟩
            have ech : (first : Int) + (2 * (root : Int) + 1 + 1) = (ch : Int) := by omega
            have wch : IntKind.i64.wrap (ch : Int) = (ch : Int) := by rw [IntKind.wrap_i64]; omega
            have ch0 : (0 : Int) ≤ (ch : Int) := by omega
            have ch1 : (ch : Int) < (n : Int) := by omega
            have cch := HD2.out.cell ch (by omega)
            obtain ⟨y, hy⟩ : ∃ y, y = (dk)[ch]! := ⟨_, rfl⟩
            rw [← hy] at cch
            have HPQ := Lib.hid (And.intro (And.intro hrt hx) (And.intro hch hy))
            have fz := HD2.out.frz
            have hl : ltInt x y = false := by rw [hx, hrt, hy, hch]; exact hG
            have HG := Lib.hid hG
            clear hx hy hrt hch hG
            go_wp2_with fail
            go_quiet ((go_at_call 85; exact Calls.quiet_of_same (less_u _ _ _)))
            go_wp2
            (try simp only [Exit.inBlock, Exit.then]); refine bodyPost_ret (results_none rfl _ _ _) rfl ?_
            exact ⟨rfl, by rw [← HE.out, sd_right_stop ltInt dk h1 HL.out HG.out]; exact HD2.out.drewN _⟩
        | false =>
          have HL := Lib.hid hL
          obtain ⟨lf, hlf⟩ : ∃ lf : Nat, lf = first + (2 * root + 1) := ⟨_, rfl⟩
          have elf : (first : Int) + (2 * (root : Int) + 1) = (lf : Int) := by omega
          have wlf : IntKind.i64.wrap (lf : Int) = (lf : Int) := by rw [IntKind.wrap_i64]; omega
          have lf0 : (0 : Int) ≤ (lf : Int) := by omega
          have lf1 : (lf : Int) < (n : Int) := by omega
          have clf := H.cell lf (by omega)
          obtain ⟨u, hu⟩ : ∃ u, u = (dk)[lf]! := ⟨_, rfl⟩
          rw [← hu] at clf
          obtain ⟨rg, hrg⟩ : ∃ rg : Nat, rg = first + (2 * root + 2) := ⟨_, rfl⟩
          have erg : (lf : Int) + 1 = (rg : Int) := by omega
          have wrg : IntKind.i64.wrap (rg : Int) = (rg : Int) := by rw [IntKind.wrap_i64]; omega
          have rg0 : (0 : Int) ≤ (rg : Int) := by omega
          have rg1 : (rg : Int) < (n : Int) := by omega
          have crg := H.cell rg (by omega)
          obtain ⟨z, hz⟩ : ∃ z, z = (dk)[rg]! := ⟨_, rfl⟩
          rw [← hz] at crg
          have HLR := Lib.hid (And.intro (And.intro hlf hu) (And.intro hrg hz))
          have fz := H.frz
          have hl : ltInt u z = false := by rw [hu, hlf, hz, hrg]; exact hL
          clear hu hz hlf hrg hL
          go_wp2_with fail
          go_quiet ((go_at_call 85; exact Calls.quiet_of_same (less_u _ _ _)))
          go_upto_region 5 with fail
          have HD2 := Lib.hid (H.drewN nq)
          obtain ⟨w2, hw2⟩ : ∃ X, X = wr.drewN nq := ⟨_, rfl⟩
          rw [← hw2] at HD2 ⊢
          clear hw2 H elf erg wlf wrg
          clear clf crg lf0 lf1 rg0 rg1 hl fz
          cases hG : ltInt dk[first + root]! dk[first + (2 * root + 1)]! with
          | true =>
            obtain ⟨rt, hrt⟩ : ∃ rt : Nat, rt = first + root := ⟨_, rfl⟩
            have ert : (first : Int) + (root : Int) = (rt : Int) := by omega
            have wrt : IntKind.i64.wrap (rt : Int) = (rt : Int) := by rw [IntKind.wrap_i64]; omega
            have rt0 : (0 : Int) ≤ (rt : Int) := by omega
            have rt1 : (rt : Int) < (n : Int) := by omega
            have crt := HD2.out.cell rt (by omega)
            obtain ⟨x, hx⟩ : ∃ x, x = (dk)[rt]! := ⟨_, rfl⟩
            rw [← hx] at crt
            obtain ⟨ch, hch⟩ : ∃ ch : Nat, ch = first + (2 * root + 1) := ⟨_, rfl⟩
            have ech : (first : Int) + (2 * (root : Int) + 1) = (ch : Int) := by omega
            have wch : IntKind.i64.wrap (ch : Int) = (ch : Int) := by rw [IntKind.wrap_i64]; omega
            have ch0 : (0 : Int) ≤ (ch : Int) := by omega
            have ch1 : (ch : Int) < (n : Int) := by omega
            have cch := HD2.out.cell ch (by omega)
            obtain ⟨y, hy⟩ : ∃ y, y = (dk)[ch]! := ⟨_, rfl⟩
            rw [← hy] at cch
            have HPQ := Lib.hid (And.intro (And.intro hrt hx) (And.intro hch hy))
            have fz := HD2.out.frz
            have hl : ltInt x y = true := by rw [hx, hrt, hy, hch]; exact hG
            have HG := Lib.hid hG
            clear hx hy hrt hch hG
            go_wp2_with fail
            go_quiet ((go_at_call 85; exact Calls.quiet_of_same (less_u _ _ _)))
            go_wp2_with fail
            go_region
            have H3 := HD2.out.swapL HPQ.out (by omega) (by omega)
            go_wp2
            go_roundg (hi - (2 * root + 1))
            case measure => omega
            case rel => exact ⟨2 * root + 1, _, by go_num, by omega, Nat.le_refl _, H3 _, Lib.hid (by rw [← HE.out, sd_left_go ltInt dk (by omega) (fun _ => HL.out) HG.out])⟩
          | false =>
            obtain ⟨rt, hrt⟩ : ∃ rt : Nat, rt = first + root := ⟨_, rfl⟩
            have ert : (first : Int) + (root : Int) = (rt : Int) := by omega
            have wrt : IntKind.i64.wrap (rt : Int) = (rt : Int) := by rw [IntKind.wrap_i64]; omega
            have rt0 : (0 : Int) ≤ (rt : Int) := by omega
            have rt1 : (rt : Int) < (n : Int) := by omega
            have crt := HD2.out.cell rt (by omega)
            obtain ⟨x, hx⟩ : ∃ x, x = (dk)[rt]! := ⟨_, rfl⟩
            rw [← hx] at crt
            obtain ⟨ch, hch⟩ : ∃ ch : Nat, ch = first + (2 * root + 1) := ⟨_, rfl⟩
            have ech : (first : Int) + (2 * (root : Int) + 1) = (ch : Int) := by omega
            have wch : IntKind.i64.wrap (ch : Int) = (ch : Int) := by rw [IntKind.wrap_i64]; omega
            have ch0 : (0 : Int) ≤ (ch : Int) := by omega
            have ch1 : (ch : Int) < (n : Int) := by omega
            have cch := HD2.out.cell ch (by omega)
            obtain ⟨y, hy⟩ : ∃ y, y = (dk)[ch]! := ⟨_, rfl⟩
            rw [← hy] at cch
            have HPQ := Lib.hid (And.intro (And.intro hrt hx) (And.intro hch hy))
            have fz := HD2.out.frz
            have hl : ltInt x y = false := by rw [hx, hrt, hy, hch]; exact hG
            have HG := Lib.hid hG
            clear hx hy hrt hch hG
            go_wp2_with fail
            go_quiet ((go_at_call 85; exact Calls.quiet_of_same (less_u _ _ _)))
            go_wp2
            (try simp only [Exit.inBlock, Exit.then]); refine bodyPost_ret (results_none rfl _ _ _) rfl ?_
            exact ⟨rfl, by rw [← HE.out, sd_left_stop ltInt dk (by omega) (fun _ => HL.out) HG.out]; exact HD2.out.drewN _⟩
      · have d1 : decide (2 * (root : Int) + 1 + 1 < (hi : Int)) = false := decide_eq_false (by omega)
        clear H
        go_wp2_with fail
        go_quiet ((go_at_call 85; exact Calls.quiet_of_same (less_u _ _ _)))
        go_upto_region 5 with fail
        have HD2 := Lib.hid (HD.out.drewN nq)
        obtain ⟨w2, hw2⟩ : ∃ X, X = wr.drewN nq := ⟨_, rfl⟩
        rw [← hw2] at HD2 ⊢
        clear hw2
        cases hG : ltInt dk[first + root]! dk[first + (2 * root + 1)]! with
        | true =>
          obtain ⟨rt, hrt⟩ : ∃ rt : Nat, rt = first + root := ⟨_, rfl⟩
          have ert : (first : Int) + (root : Int) = (rt : Int) := by omega
          have wrt : IntKind.i64.wrap (rt : Int) = (rt : Int) := by rw [IntKind.wrap_i64]; omega
          have rt0 : (0 : Int) ≤ (rt : Int) := by omega
          have rt1 : (rt : Int) < (n : Int) := by omega
          have crt := HD2.out.cell rt (by omega)
          obtain ⟨x, hx⟩ : ∃ x, x = (dk)[rt]! := ⟨_, rfl⟩
          rw [← hx] at crt
          obtain ⟨ch, hch⟩ : ∃ ch : Nat, ch = first + (2 * root + 1) := ⟨_, rfl⟩
          have ech : (first : Int) + (2 * (root : Int) + 1) = (ch : Int) := by omega
          have wch : IntKind.i64.wrap (ch : Int) = (ch : Int) := by rw [IntKind.wrap_i64]; omega
          have ch0 : (0 : Int) ≤ (ch : Int) := by omega
          have ch1 : (ch : Int) < (n : Int) := by omega
          have cch := HD2.out.cell ch (by omega)
          obtain ⟨y, hy⟩ : ∃ y, y = (dk)[ch]! := ⟨_, rfl⟩
          rw [← hy] at cch
          have HPQ := Lib.hid (And.intro (And.intro hrt hx) (And.intro hch hy))
          have fz := HD2.out.frz
          have hl : ltInt x y = true := by rw [hx, hrt, hy, hch]; exact hG
          have HG := Lib.hid hG
          clear hx hy hrt hch hG
          go_wp2_with fail
          go_quiet ((go_at_call 85; exact Calls.quiet_of_same (less_u _ _ _)))
          go_wp2_with fail
          go_region
          have H3 := HD2.out.swapL HPQ.out (by omega) (by omega)
          go_wp2
          go_roundg (hi - (2 * root + 1))
          case measure => omega
          case rel => exact ⟨2 * root + 1, _, by go_num, by omega, Nat.le_refl _, H3 _, Lib.hid (by rw [← HE.out, sd_left_go ltInt dk (by omega) (fun h => absurd h h1) HG.out])⟩
        | false =>
          obtain ⟨rt, hrt⟩ : ∃ rt : Nat, rt = first + root := ⟨_, rfl⟩
          have ert : (first : Int) + (root : Int) = (rt : Int) := by omega
          have wrt : IntKind.i64.wrap (rt : Int) = (rt : Int) := by rw [IntKind.wrap_i64]; omega
          have rt0 : (0 : Int) ≤ (rt : Int) := by omega
          have rt1 : (rt : Int) < (n : Int) := by omega
          have crt := HD2.out.cell rt (by omega)
          obtain ⟨x, hx⟩ : ∃ x, x = (dk)[rt]! := ⟨_, rfl⟩
          rw [← hx] at crt
          obtain ⟨ch, hch⟩ : ∃ ch : Nat, ch = first + (2 * root + 1) := ⟨_, rfl⟩
          have ech : (first : Int) + (2 * (root : Int) + 1) = (ch : Int) := by omega
          have wch : IntKind.i64.wrap (ch : Int) = (ch : Int) := by rw [IntKind.wrap_i64]; omega
          have ch0 : (0 : Int) ≤ (ch : Int) := by omega
          have ch1 : (ch : Int) < (n : Int) := by omega
          have cch := HD2.out.cell ch (by omega)
          obtain ⟨y, hy⟩ : ∃ y, y = (dk)[ch]! := ⟨_, rfl⟩
          rw [← hy] at cch
          have HPQ := Lib.hid (And.intro (And.intro hrt hx) (And.intro hch hy))
          have fz := HD2.out.frz
          have hl : ltInt x y = false := by rw [hx, hrt, hy, hch]; exact hG
          have HG := Lib.hid hG
          clear hx hy hrt hch hG
          go_wp2_with fail
          go_quiet ((go_at_call 85; exact Calls.quiet_of_same (less_u _ _ _)))
          go_wp2
          (try simp only [Exit.inBlock, Exit.then]); refine bodyPost_ret (results_none rfl _ _ _) rfl ?_
          exact ⟨rfl, by rw [← HE.out, sd_left_stop ltInt dk (by omega) (fun h => absurd h h1) HG.out]; exact HD2.out.drewN _⟩
end Go.Proofs.YtdljphbfbiganaaGreatDoor.So
/- heapSort -/
namespace Go.Proofs.YtdljphbfbiganaaGreatDoor.So
open Go Go.RowKit Go.Sort Go.Proofs
set_option linter.unusedVariables false

set_option maxHeartbeats 4000000 in
set_option maxRecDepth 20000 in
theorem heap_any (g n cap : Nat) (hn : n < 4611686018427387904) (a b : Nat) (hab : a ≤ b) (hb : b ≤ n) (d : Array Int) (w0 w : World) (H0 : AtO g n w0 d w) :
    Calls Tryz.prog 80 #[.slice (some ⟨g, 0, none⟩) n cap, .int .i64 (a : Int), .int .i64 (b : Int)] w fun e w' => e = .returned (.tuple #[]) ∧ AtO g n w0 (heapSort ltInt d a b) w' := by
  have ecast : ((b - a : Nat) : Int) = (b : Int) - (a : Int) := by omega
  have HH := Lib.hid H0
  clear H0
  go_enter Tryz.func80, Tryz.ntmps80
  go_wp2
  go_loopg [9] ((b - a - 1) / 2 + 1) (fun kx s9 wr => s9 = .int .i64 ((kx : Int) - 1) ∧ kx ≤ (b - a - 1) / 2 + 1 ∧ ∃ (dk : Array Int), AtO g n w0 dk wr ∧ Hid (heapBuild ltInt (b - a) a kx dk = heapBuild ltInt (b - a) a ((b - a - 1) / 2 + 1) d))
  case atStart => exact ⟨by rw [half_start hab], Nat.le_refl _, d, HH.out, Lib.hid rfl⟩
  case round =>
    clear HH
    obtain ⟨rfl, hkk, dk, H, HE⟩ := hrel
    cases gk with
    | zero =>
      have hB : Hid (dk = heapBuild ltInt (b - a) a ((b - a - 1) / 2 + 1) d) := Lib.hid HE.out
      have HX := Lib.hid H
      clear HE hkk H
      go_wp2
      go_loopg [10] (b - a) (fun kx s10 wr2 => s10 = .int .i64 ((kx : Int) - 1) ∧ kx ≤ b - a ∧ ∃ (dj : Array Int), AtO g n w0 dj wr2 ∧ Hid (heapPop ltInt a kx dj = heapPop ltInt a (b - a) dk))
      case atStart => exact ⟨by rw [ecast], Nat.le_refl _, dk, HX.out, Lib.hid rfl⟩
      case round =>
        clear HX
        obtain ⟨rfl, hkk, dj, H, HE2⟩ := hrel
        have HD := Lib.hid H
        cases gk with
        | zero =>
          clear H
          go_wp2
          go_end0
          have e : dj = heapSort ltInt d a b := by rw [heapSort, ← hB.out, ← HE2.out]; rfl
          rw [← e]
          exact ⟨rfl, HD.out⟩
        | succ kx =>
          have a0 : (0 : Int) ≤ (a : Int) := by omega
          have a1 : (a : Int) < (n : Int) := by omega
          have ca := H.cell a (by omega)
          obtain ⟨x, hx⟩ : ∃ x, x = (dj)[a]! := ⟨_, rfl⟩
          rw [← hx] at ca
          obtain ⟨ak, hak⟩ : ∃ ak : Nat, ak = a + kx := ⟨_, rfl⟩
          have eak : (a : Int) + (kx : Int) = (ak : Int) := by omega
          have wak : IntKind.i64.wrap (ak : Int) = (ak : Int) := by rw [IntKind.wrap_i64]; omega
          have ak0 : (0 : Int) ≤ (ak : Int) := by omega
          have ak1 : (ak : Int) < (n : Int) := by omega
          have cak := H.cell ak (by omega)
          obtain ⟨y, hy⟩ : ∃ y, y = (dj)[ak]! := ⟨_, rfl⟩
          rw [← hy] at cak
          have HPQ := Lib.hid (And.intro (And.intro (Eq.refl a) hx) (And.intro hak hy))
          have fz := H.frz
          clear hx hy hak H
          have HS := Lib.hid (HD.out.swapL HPQ.out (by omega) (by omega))
          by_cases hpq : a = ak
          · subst hpq
            obtain rfl : x = y := by have h1 := ca.symm.trans cak; injection h1 with h1; injection h1
            go_wp2_with fail
            go_region
            go_wp2_with fail
            refine (sift_any g n cap hn 0 kx a (Nat.zero_le _) (by omega) (swp dj a (a + kx)) w0 _ (HS.out _)).mono ?_
            rintro _ w3 ⟨rfl, h3⟩
            have H3 := Lib.hid h3
            clear h3
            go_wp2
            go_roundg kx
            case measure => omega
            case rel => exact ⟨by go_num, by omega, siftDown ltInt kx a 0 (swp dj a (a + kx)), H3.out, Lib.hid HE2.out⟩
          · have hqp : ¬ ak = a := fun e => hpq e.symm
            go_wp2_with fail
            go_region
            go_wp2_with fail
            refine (sift_any g n cap hn 0 kx a (Nat.zero_le _) (by omega) (swp dj a (a + kx)) w0 _ (HS.out _)).mono ?_
            rintro _ w3 ⟨rfl, h3⟩
            have H3 := Lib.hid h3
            clear h3
            go_wp2
            go_roundg kx
            case measure => omega
            case rel => exact ⟨by go_num, by omega, siftDown ltInt kx a 0 (swp dj a (a + kx)), H3.out, Lib.hid HE2.out⟩
    | succ kx =>
      have hcall := sift_any g n cap hn kx (b - a) a (by omega) (by omega) dk w0 wr H
      rw [ecast] at hcall
      have HC := Lib.hid hcall
      clear hcall H
      go_wp2_with fail
      refine HC.out.mono ?_
      rintro _ w3 ⟨rfl, h3⟩
      have H3 := Lib.hid h3
      clear h3
      go_wp2
      go_roundg kx
      case measure => omega
      case rel => exact ⟨by go_num, by omega, siftDown ltInt (b - a) a kx dk, H3.out, Lib.hid HE.out⟩
end Go.Proofs.YtdljphbfbiganaaGreatDoor.So
