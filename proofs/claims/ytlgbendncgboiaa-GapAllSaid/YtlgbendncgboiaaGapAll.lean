/- 'GapAll': the walk. -/
import Derived.Test.YtlgbendncgboiaaGapAllBase
import Derived.Test.YtlgbendncgboiaaNumsRb
namespace Go.Proofs.Ytlgbendncgboiaa.Gp
open Go Go.RowKit Gm

set_option maxRecDepth 100000 in
set_option maxHeartbeats 4000000 in
theorem all_few (f : Int) (f0 : 0 ≤ f) (f1 : f ≤ 18446744073709551565) (A : Option Addr) (len cap : Nat) (zs : List Int) (hl : len ≤ 60) (w : World) (hr : RbK .u8 w A len zs) (hz : ∀ i, 0 ≤ zs.getD i 0 ∧ zs.getD i 0 ≤ 255) :
    Calls Try.prog 5 #[.int .u64 f, .slice A len cap] w fun e w' => e = .returned (.bool true) ∧ Below w.heap.size w w' := by
  have HR := Lib.hid hr
  have HZ := Lib.hid hz
  clear hr hz
  have hq1 : decide ((60 : Int) < (len : Int)) = false := by simp; omega
  have hq2 : decide ((18446744073709551565 : Int) < f) = false := by simp; omega
  go_enter Try.func5, Try.ntmps5
  go_wp2_with fail
  refine (new_any _).mono ?_
  rintro _ w1 ⟨H, rfl, rfl, rfl⟩
  have hG0 : GH w.heap.size (w.alloc (.cells #[.slice none 0 0] THp)) w.heap.size (.slice none 0 0) [] := GH.new w
  have hG1 : GA w f (fun _ => false) (.slice none 0 0) [] ((w.alloc (.cells #[.slice none 0 0] THp)).alloc (.cells #[.int .i64 0, .int .i64 0, .int .i64 0, .int .i64 0, .int .i64 0, .int .i64 0, .int .i64 0, .int .i64 0, .int .i64 0, .int .i64 0, .int .i64 0, .int .i64 0, .int .i64 0, .int .i64 0, .int .i64 0, .int .i64 0, .int .i64 0, .int .i64 0, .int .i64 0, .int .i64 0, .int .i64 0, .int .i64 0, .int .i64 0, .int .i64 0, .int .i64 0, .int .i64 0, .int .i64 0, .int .i64 0, .int .i64 0, .int .i64 0, .int .i64 0, .int .i64 0, .int .i64 0, .int .i64 0, .int .i64 0, .int .i64 0, .int .i64 0, .int .i64 0, .int .i64 0, .int .i64 0, .int .i64 0] TSeen)) := by
    refine ⟨hG0.below ((Below.refl _ _).alloc (Nat.le_refl _) _), ((Below.refl _ w).alloc (Nat.le_refl _) _).alloc (by simp) _, ?_, fun h => (by cases h), fun m => ⟨fun h => (by cases h), fun h => (by obtain ⟨_, _, h, _⟩ := h; cases h)⟩⟩
    have := heap_alloc_new (w.alloc (.cells #[.slice none 0 0] THp)) (.cells (seenC fun _ => false) TSeen)
    rw [show (w.alloc (.cells #[.slice none 0 0] THp)).heap.size = w.heap.size + 1 by simp] at this
    exact this
  go_upto_region 5 with fail
  obtain ⟨w2, hw2⟩ : ∃ X, X = ((w.alloc (.cells #[.slice none 0 0] THp)).alloc (.cells #[.int .i64 0, .int .i64 0, .int .i64 0, .int .i64 0, .int .i64 0, .int .i64 0, .int .i64 0, .int .i64 0, .int .i64 0, .int .i64 0, .int .i64 0, .int .i64 0, .int .i64 0, .int .i64 0, .int .i64 0, .int .i64 0, .int .i64 0, .int .i64 0, .int .i64 0, .int .i64 0, .int .i64 0, .int .i64 0, .int .i64 0, .int .i64 0, .int .i64 0, .int .i64 0, .int .i64 0, .int .i64 0, .int .i64 0, .int .i64 0, .int .i64 0, .int .i64 0, .int .i64 0, .int .i64 0, .int .i64 0, .int .i64 0, .int .i64 0, .int .i64 0, .int .i64 0, .int .i64 0, .int .i64 0] TSeen)) := ⟨_, rfl⟩
  rw [← hw2] at hG1 ⊢
  have HG := Lib.hid hG1
  clear hw2 hG1 hG0 hq1 hq2
  go_wp2
  go_loopw [7] (fun i wr => ∃ k : Nat, i = .int .i64 (k : Int) ∧ k ≤ len ∧ Hid (∃ S v L, GA w f S v L wr)) (fun i _ => len - (intOf i).toNat)
  case atStart => exact ⟨0, rfl, Nat.zero_le _, Lib.hid ⟨_, _, _, HG.out⟩⟩
  case round =>
    clear HG
    obtain ⟨k, rfl, hk, HX⟩ := hrel
    obtain ⟨S, v, L, hG⟩ := HX.out
    clear HX
    have HG := Lib.hid hG
    clear hG
    by_cases hlt : k < len
    · obtain ⟨b, off, rfl, hbl, hc⟩ := HR.out (by omega)
      have hc := (HG.out.bel.cell (p := ⟨b, off + k, none⟩) hbl).trans (hc k hlt)
      have hz := HZ.out k
      generalize zs.getD k 0 = z at hc hz
      obtain ⟨κ, hκ⟩ : ∃ κ : Nat, κ = (z % 40).toNat := ⟨_, rfl⟩
      have hz0 := hz.1
      have hz1 := hz.2
      have ez : z % 40 = (κ : Int) := by omega
      have hκ4 : κ < 40 := by omega
      clear hκ hz
      have df := HG.out.frozen
      have hfk : f + (κ : Int) ≤ 18446744073709551614 := by omega
      cases hS : S κ with
      | true =>
        have d0 : wr.cell? ⟨w.heap.size + 1, κ + 1, none⟩ = some (.int .i64 1) := by rw [HG.out.cell (κ + 1) (by omega)]; simp [hS]
        have hp := gput_any w.heap.size w.heap.size v L (f + (κ : Int)) (wr.setCell ⟨w.heap.size + 1, κ + 1, none⟩ (.int .i64 1)) (HG.out.gh.setOff (by omega) HG.out.ns) (by simpa using HG.out.bel.size) (by omega) (by omega) (by have := HG.out.few; omega)
        rw [HG.out.code κ hκ4 (by omega), hS] at hp
        have HP := Lib.hid hp
        clear hp hS
        go_wp2_with fail
        refine HP.out.mono ?_
        rintro _ w3 ⟨rfl, v', hg3, hb3, hf3⟩
        have HE := Lib.hid (HG.out.step hκ4 (by omega) hg3 hb3 hf3)
        clear hg3 hb3 hf3
        go_wp2
        go_roundw
        case rel => exact ⟨k + 1, by go_num, by omega, Lib.hid ⟨_, _, _, HE.out⟩⟩
        case measure => simp [intOf]; omega
      | false =>
        have d0 : wr.cell? ⟨w.heap.size + 1, κ + 1, none⟩ = some (.int .i64 0) := by rw [HG.out.cell (κ + 1) (by omega)]; simp [hS]
        have hp := gput_any w.heap.size w.heap.size v L (f + (κ : Int)) (wr.setCell ⟨w.heap.size + 1, κ + 1, none⟩ (.int .i64 1)) (HG.out.gh.setOff (by omega) HG.out.ns) (by simpa using HG.out.bel.size) (by omega) (by omega) (by have := HG.out.few; omega)
        rw [HG.out.code κ hκ4 (by omega), hS] at hp
        have HP := Lib.hid hp
        clear hp hS
        go_wp2_with fail
        refine HP.out.mono ?_
        rintro _ w3 ⟨rfl, v', hg3, hb3, hf3⟩
        have HE := Lib.hid (HG.out.step hκ4 (by omega) hg3 hb3 hf3)
        clear hg3 hb3 hf3
        go_wp2
        go_roundw
        case rel => exact ⟨k + 1, by go_num, by omega, Lib.hid ⟨_, _, _, HE.out⟩⟩
        case measure => simp [intOf]; omega
    · have hG := HG.out
      obtain ⟨C1, hC1⟩ : ∃ C : Nat → Nat, C = cnt (startB S) := ⟨_, rfl⟩
      obtain ⟨C2, hC2⟩ : ∃ C : Nat → Nat, C = cnt S := ⟨_, rfl⟩
      have HC := Lib.hid (And.intro hC1 hC2)
      have HB : Hid (∀ j, C1 j ≤ j ∧ C2 j ≤ j) := Lib.hid fun j => by rw [hC1, hC2]; exact ⟨cnt_le _ _, cnt_le _ _⟩
      have z1 : C1 0 = 0 := by rw [hC1]; rfl
      have z2 : C2 0 = 0 := by rw [hC2]; rfl
      have Hz := Lib.hid (And.intro z1 z2)
      clear hC1 hC2 z1 z2 hG HR
      go_upto_region 17 with fail
      go_wp2
      go_loopw [10, 11, 12] (fun s10 s11 s12 wq => ∃ j : Nat, j ≤ 40 ∧ s12 = .int .i64 ((j : Int) + 1) ∧ s10 = .int .i64 (C1 j : Int) ∧ s11 = .int .u64 (C2 j : Int) ∧ wq = wr) (fun _ _ i _ => 41 - (intOf i).toNat)
      case atStart => exact ⟨0, by omega, rfl, by rw [Hz.out.1]; rfl, by rw [Hz.out.2]; rfl, rfl⟩
      case round =>
        obtain ⟨j, hj, rfl, rfl, rfl, rfl⟩ := hrel
        by_cases hlt2 : j < 40
        · have b1 := HB.out j
          have b11 := b1.1
          have b12 := b1.2
          clear b1
          have d0 : wr.cell? ⟨w.heap.size + 1, j + 1, none⟩ = some (.int .i64 (if S j = true then 1 else 0)) := by rw [HG.out.cell (j + 1) (by omega)]; simp
          have HS1 : Hid (C1 (j + 1) = C1 j + if startB S j then 1 else 0) := Lib.hid (by rw [HC.out.1]; exact cnt_succ _ _)
          have HS2 : Hid (C2 (j + 1) = C2 j + if S j then 1 else 0) := Lib.hid (by rw [HC.out.2]; exact cnt_succ _ _)
          have d1 := HG.out.cell j (by omega)
          have hjj : (j : Int) + 1 - 1 = (j : Int) := by omega
          cases hS : S j with
          | false =>
            have HST : Hid (startB S j = false) := Lib.hid (by unfold startB; rw [hS]; rfl)
            rw [hS] at d0 HS2
            simp only [Bool.false_eq_true, if_false] at d0
            clear d1 hS
            go_wp2
            go_roundw
            case rel => exact ⟨j + 1, by omega, by go_num, by rw [HS1.out, HST.out]; rfl, by rw [HS2.out]; rfl, trivial⟩
            case measure => simp [intOf]; omega
          | true =>
            rw [hS] at d0 HS2
            simp only [if_true] at d0
            cases hp : (decide (0 < j) && S (j - 1)) with
            | true =>
              have HST : Hid (startB S j = false) := Lib.hid (by unfold startB; rw [hS, hp]; rfl)
              have hp2 : 0 < j ∧ S (j - 1) = true := by simpa using hp
              rw [if_pos hp2] at d1
              clear hp hp2 hS
              go_wp2
              go_roundw
              case rel => exact ⟨j + 1, by omega, by go_num, by rw [HS1.out, HST.out]; rfl, by rw [HS2.out]; go_num, trivial⟩
              case measure => simp [intOf]; omega
            | false =>
              have HST : Hid (startB S j = true) := Lib.hid (by unfold startB; rw [hS, hp]; rfl)
              have hp2 : ¬ (0 < j ∧ S (j - 1) = true) := by
                intro h
                simp [h.1, h.2] at hp
              rw [if_neg hp2] at d1
              clear hp hp2 hS
              go_wp2
              go_roundw
              case rel => exact ⟨j + 1, by omega, by go_num, by rw [HS1.out, HST.out]; go_num, by rw [HS2.out]; go_num, trivial⟩
              case measure => simp [intOf]; omega
        · obtain rfl : j = 40 := by omega
          have HF : Hid (L.length = C2 40 ∧ ∀ ls, Srt ls → L = expd ls → ls.length = C1 40) := Lib.hid ⟨by rw [HC.out.2]; exact all_len HG.out.gh.rise HG.out.mem, fun ls h1 h2 => by rw [HC.out.1]; exact all_runs h1 (fun m => by rw [← h2]; exact HG.out.mem m)⟩
          generalize C1 40 = c1 at HF ⊢
          generalize C2 40 = c2 at HF ⊢
          clear HC HB Hz
          go_wp2_with fail
          refine (awake_any _).mono ?_
          rintro _ w5 ⟨rfl, b5⟩
          have HG5 := Lib.hid (HG.out.drewN b5)
          clear b5 HG
          go_wp2_with fail
          refine (grunsH w.heap.size w.heap.size v L w5 HG5.out.gh).mono ?_
          rintro _ w6 ⟨v2, ls, rfl, hv, hs, hL, b6⟩
          have HG6 := Lib.hid (HG5.out.drewN b6)
          have hlen : (ls.length : Int) = (c1 : Int) := by rw [HF.out.2 ls hs hL]
          have hv2 : ∃ A cc, v2 = .slice A ls.length cc := by
            rcases hv with ⟨rfl, rfl⟩ | ⟨g, c, rfl, -⟩
            · exact ⟨_, _, rfl⟩
            · exact ⟨_, _, rfl⟩
          obtain ⟨A2, cc, rfl⟩ := hv2
          clear b6 HG5 hv hs hL
          go_wp2_with fail
          refine (glenH w.heap.size w.heap.size v L w6 HG6.out.gh).mono ?_
          rintro _ w7 ⟨rfl, b7⟩
          have HB7 := Lib.hid (HG6.out.drewN b7).bel
          rw [HF.out.1]
          clear b7
          go_wp2
          go_ret
          exact ⟨rfl, HB7.out⟩
set_option maxRecDepth 100000 in
theorem all_long (f : Int) (A : Option Addr) (len cap : Nat) (h : 60 < len) (w : World) :
    Calls Try.prog 5 #[.int .u64 f, .slice A len cap] w fun e w' => e = .returned (.bool true) ∧ Below w.heap.size w w' := by
  have hp : (60 : Int) < (len : Int) := by omega
  have hq1 : decide ((60 : Int) < (len : Int)) = true := by simp; omega
  go_enter Try.func5, Try.ntmps5
  go_wp2_with fail
  refine (awake_any _).mono ?_
  rintro e w1 ⟨rfl, hb⟩
  go_wp2
  go_ret
  exact ⟨rfl, hb⟩
set_option maxRecDepth 100000 in
theorem all_high (f : Int) (hf : 18446744073709551566 ≤ f) (A : Option Addr) (len cap : Nat) (h : len ≤ 60) (w : World) :
    Calls Try.prog 5 #[.int .u64 f, .slice A len cap] w fun e w' => e = .returned (.bool true) ∧ Below w.heap.size w w' := by
  have hq1 : decide ((60 : Int) < (len : Int)) = false := by simp; omega
  have hq2 : decide ((18446744073709551565 : Int) < f) = true := by simp; omega
  have hq3 : (18446744073709551565 : Int) < f := by omega
  clear hf
  go_enter Try.func5, Try.ntmps5
  go_wp2_with fail
  refine (awake_any _).mono ?_
  rintro e w1 ⟨rfl, hb⟩
  go_wp2
  go_ret
  exact ⟨rfl, hb⟩
end Go.Proofs.Ytlgbendncgboiaa.Gp
