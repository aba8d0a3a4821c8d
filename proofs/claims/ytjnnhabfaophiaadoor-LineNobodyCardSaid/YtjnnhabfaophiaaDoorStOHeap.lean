/- heapSort -/
import Derived.Test.YtjnnhabfaophiaaDoorStOSift
import Derived.Deep.RegionHeld3
import Derived.Sort.WalkB3
import Derived.Deep.CutBlock
import Derived.Deep.DeepCutAuto
namespace Go.Proofs.YtjnnhabfaophiaaDoor.So
open Go Go.RowKit Go.Sort Go.Proofs
set_option linter.unusedVariables false

set_option maxHeartbeats 4000000 in
set_option maxRecDepth 20000 in
theorem heap_any (g n cap : Nat) (hn : n < 4611686018427387904) (a b : Nat) (hab : a ≤ b) (hb : b ≤ n) (d : Array Int) (w0 w : World) (H0 : AtO g n w0 d w) :
    Calls Tryd.prog 54 #[.slice (some ⟨g, 0, none⟩) n cap, .int .i64 (a : Int), .int .i64 (b : Int)] w fun e w' => e = .returned (.tuple #[]) ∧ AtO g n w0 (heapSort ltInt d a b) w' := by
  have ecast : ((b - a : Nat) : Int) = (b : Int) - (a : Int) := by omega
  have HH := Lib.hid H0
  clear H0
  go_enter Tryd.func54, Tryd.ntmps54
  go_wp2
  go_loopg [9] ((b - a - 1) / 2 + 1) (fun kx s9 wr => s9 = .int .i64 ((kx : Int) - 1) ∧ kx ≤ (b - a - 1) / 2 + 1 ∧ ∃ (dk : Array Int), AtO g n w0 dk wr ∧ Hid (heapBuild ltInt (b - a) a kx dk = heapBuild ltInt (b - a) a ((b - a - 1) / 2 + 1) d))
  case atStart => exact ⟨by rw [half_start hab], Nat.le_refl _, d, HH.out, Lib.hid rfl⟩
  case round =>
    clear HH
    obtain ⟨rfl, hkk, dk, H, HE⟩ := hrel
    cases gk with
    | zero =>
      have hB : Hid (dk = heapBuild ltInt (b - a) a ((b - a - 1) / 2 + 1) d) := Lib.hid HE.out
      have HX := Lib.hid H
      clear HE hkk H
      go_wp2
      go_loopg [10] (b - a) (fun kx s10 wr2 => s10 = .int .i64 ((kx : Int) - 1) ∧ kx ≤ b - a ∧ ∃ (dj : Array Int), AtO g n w0 dj wr2 ∧ Hid (heapPop ltInt a kx dj = heapPop ltInt a (b - a) dk))
      case atStart => exact ⟨by rw [ecast], Nat.le_refl _, dk, HX.out, Lib.hid rfl⟩
      case round =>
        clear HX
        obtain ⟨rfl, hkk, dj, H, HE2⟩ := hrel
        have HD := Lib.hid H
        cases gk with
        | zero =>
          clear H
          go_wp2
          go_end0
          have e : dj = heapSort ltInt d a b := by rw [heapSort, ← hB.out, ← HE2.out]; rfl
          rw [← e]
          exact ⟨rfl, HD.out⟩
        | succ kx =>
          have a0 : (0 : Int) ≤ (a : Int) := by omega
          have a1 : (a : Int) < (n : Int) := by omega
          have ca := H.cell a (by omega)
          obtain ⟨x, hx⟩ : ∃ x, x = (dj)[a]! := ⟨_, rfl⟩
          rw [← hx] at ca
          obtain ⟨ak, hak⟩ : ∃ ak : Nat, ak = a + kx := ⟨_, rfl⟩
          have eak : (a : Int) + (kx : Int) = (ak : Int) := by omega
          have wak : IntKind.i64.wrap (ak : Int) = (ak : Int) := by rw [IntKind.wrap_i64]; omega
          have ak0 : (0 : Int) ≤ (ak : Int) := by omega
          have ak1 : (ak : Int) < (n : Int) := by omega
          have cak := H.cell ak (by omega)
          obtain ⟨y, hy⟩ : ∃ y, y = (dj)[ak]! := ⟨_, rfl⟩
          rw [← hy] at cak
          have HPQ := Lib.hid (And.intro (And.intro (Eq.refl a) hx) (And.intro hak hy))
          have fz := H.frz
          clear hx hy hak H
          have HS := Lib.hid (HD.out.swapL HPQ.out (by omega) (by omega))
          by_cases hpq : a = ak
          · subst hpq
            obtain rfl : x = y := by have h1 := ca.symm.trans cak; injection h1 with h1; injection h1
            go_wp2_with fail
            go_region
            go_wp2_with fail
            refine (sift_any g n cap hn 0 kx a (Nat.zero_le _) (by omega) (swp dj a (a + kx)) w0 _ (HS.out _)).mono ?_
            rintro _ w3 ⟨rfl, h3⟩
            have H3 := Lib.hid h3
            clear h3
            go_wp2
            go_roundg kx
            case measure => omega
            case rel => exact ⟨by go_num, by omega, siftDown ltInt kx a 0 (swp dj a (a + kx)), H3.out, Lib.hid HE2.out⟩
          · have hqp : ¬ ak = a := fun e => hpq e.symm
            go_wp2_with fail
            go_region
            go_wp2_with fail
            refine (sift_any g n cap hn 0 kx a (Nat.zero_le _) (by omega) (swp dj a (a + kx)) w0 _ (HS.out _)).mono ?_
            rintro _ w3 ⟨rfl, h3⟩
            have H3 := Lib.hid h3
            clear h3
            go_wp2
            go_roundg kx
            case measure => omega
            case rel => exact ⟨by go_num, by omega, siftDown ltInt kx a 0 (swp dj a (a + kx)), H3.out, Lib.hid HE2.out⟩
    | succ kx =>
      have hcall := sift_any g n cap hn kx (b - a) a (by omega) (by omega) dk w0 wr H
      rw [ecast] at hcall
      have HC := Lib.hid hcall
      clear hcall H
      go_wp2_with fail
      refine HC.out.mono ?_
      rintro _ w3 ⟨rfl, h3⟩
      have H3 := Lib.hid h3
      clear h3
      go_wp2
      go_roundg kx
      case measure => omega
      case rel => exact ⟨by go_num, by omega, siftDown ltInt (b - a) a kx dk, H3.out, Lib.hid HE.out⟩
end Go.Proofs.YtjnnhabfaophiaaDoor.So
