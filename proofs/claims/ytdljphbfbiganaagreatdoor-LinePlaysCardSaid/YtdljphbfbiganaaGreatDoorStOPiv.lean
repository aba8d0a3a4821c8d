import Derived.Test.YtdljphbfbiganaaGreatDoorGStOBits
import Derived.Deep.RegionHeld3
import Derived.Sort.LotD4
import Derived.Sort.LotD1
import Derived.Sort.Walk11
import Derived.Shelf.GgSortFunc.LotD
import Derived.Deep.CutBlock
import Derived.Deep.DeepCutAuto
/- order2, median, medianAdjacent, choosePivot -/
namespace Go.Proofs.YtdljphbfbiganaaGreatDoor.So
open Go Go.RowKit Go.Sort Go.Proofs Go.Lib
set_option linter.unusedVariables false

set_option maxHeartbeats 1000000 in
set_option maxRecDepth 20000 in
theorem ord_any (g n cap : Nat) (hn : n < 4611686018427387904) (a b K s : Nat) (ha : a < n) (hb : b < n) (hs : s < 4611686018427387904) (d : Array Int) (w0 w : World) (H0 : CtO g n w0 K d (.int .i64 (s : Int)) w) :
    Calls Tryz.prog 102 #[.slice (some ⟨g, 0, none⟩) n cap, .int .i64 (a : Int), .int .i64 (b : Int), .pointer (some ⟨K, 0, none⟩)] w fun e w' => e = .returned (.tuple #[.int .i64 ((order2 ltInt d a b s).1 : Int), .int .i64 ((order2 ltInt d a b s).2.1 : Int)]) ∧ CtO g n w0 K d (.int .i64 (((order2 ltInt d a b s).2.2 : Nat) : Int)) w' := by
  have HD := Lib.hid H0
  cases hlv : ltInt d[b]! d[a]! with
  | true =>
    have e2 : order2 ltInt d a b s = (b, a, s + 1) := by simp [order2, hlv]
    rw [e2]
    have b0 : (0 : Int) ≤ (b : Int) := by omega
    have b1 : (b : Int) < (n : Int) := by omega
    have cb := H0.st.cell b (by omega)
    obtain ⟨x, hx⟩ : ∃ x, x = (d)[b]! := ⟨_, rfl⟩
    rw [← hx] at cb
    have a0 : (0 : Int) ≤ (a : Int) := by omega
    have a1 : (a : Int) < (n : Int) := by omega
    have ca := H0.st.cell a (by omega)
    obtain ⟨y, hy⟩ : ∃ y, y = (d)[a]! := ⟨_, rfl⟩
    rw [← hy] at ca
    have HPQ := Lib.hid (And.intro (And.intro (Eq.refl b) hx) (And.intro (Eq.refl a) hy))
    have fz := H0.st.frz
    have hl : ltInt x y = true := by rw [hx, hy]; exact hlv
    clear hx hy hlv e2 H0
    go_enter Tryz.func102, Tryz.ntmps102
    go_wp2_with fail
    go_quiet ((go_at_call 85; exact Calls.quiet_of_same (less_u _ _ _)))
    rw [hl]
    have H1 := Lib.hid (HD.out.drewN nq)
    obtain ⟨w1, hw1⟩ : ∃ X, X = w.drewN nq := ⟨_, rfl⟩
    rw [← hw1] at H1 ⊢
    clear hw1
    have k0 := H1.out.at_
    have k1 := H1.out.f
    have H2 := Lib.hid (H1.out.turn (.int .i64 ((s : Int) + 1)))
    go_wp2
    refine bodyPost_ret (v := .tuple #[.int .i64 (b : Int), .int .i64 (a : Int)]) (by simp [results, Tryz.results102, go_sem]) rfl ?_
    refine ⟨rfl, ?_⟩
    show CtO g n w0 K d (.int .i64 ((s + 1 : Nat) : Int)) _
    rw [show ((s + 1 : Nat) : Int) = (s : Int) + 1 by omega]
    exact H2.out
  | false =>
    have e2 : order2 ltInt d a b s = (a, b, s) := by simp [order2, hlv]
    rw [e2]
    have b0 : (0 : Int) ≤ (b : Int) := by omega
    have b1 : (b : Int) < (n : Int) := by omega
    have cb := H0.st.cell b (by omega)
    obtain ⟨x, hx⟩ : ∃ x, x = (d)[b]! := ⟨_, rfl⟩
    rw [← hx] at cb
    have a0 : (0 : Int) ≤ (a : Int) := by omega
    have a1 : (a : Int) < (n : Int) := by omega
    have ca := H0.st.cell a (by omega)
    obtain ⟨y, hy⟩ : ∃ y, y = (d)[a]! := ⟨_, rfl⟩
    rw [← hy] at ca
    have HPQ := Lib.hid (And.intro (And.intro (Eq.refl b) hx) (And.intro (Eq.refl a) hy))
    have fz := H0.st.frz
    have hl : ltInt x y = false := by rw [hx, hy]; exact hlv
    clear hx hy hlv e2 H0
    go_enter Tryz.func102, Tryz.ntmps102
    go_wp2_with fail
    go_quiet ((go_at_call 85; exact Calls.quiet_of_same (less_u _ _ _)))
    rw [hl]
    have H1 := Lib.hid (HD.out.drewN nq)
    go_wp2
    refine bodyPost_ret (v := .tuple #[.int .i64 (a : Int), .int .i64 (b : Int)]) (by simp [results, Tryz.results102, go_sem]) rfl ?_
    exact ⟨rfl, H1.out⟩
set_option maxHeartbeats 1000000 in
set_option maxRecDepth 20000 in
theorem med_any (g n cap : Nat) (hn : n < 4611686018427387904) (a b c K s : Nat) (ha : a < n) (hb : b < n) (hc : c < n) (hs : s + 3 < 4611686018427387904) (d : Array Int) (w0 w : World) (H0 : CtO g n w0 K d (.int .i64 (s : Int)) w) :
    Calls Tryz.prog 100 #[.slice (some ⟨g, 0, none⟩) n cap, .int .i64 (a : Int), .int .i64 (b : Int), .int .i64 (c : Int), .pointer (some ⟨K, 0, none⟩)] w fun e w' => e = .returned (.int .i64 ((median ltInt d a b c s).1 : Int)) ∧ CtO g n w0 K d (.int .i64 (((median ltInt d a b c s).2 : Nat) : Int)) w' := by
  have l1 := order2_lt' ltInt d s ha hb
  have s1 := order2_swaps' ltInt d a b s
  have l2 := order2_lt' ltInt d (order2 ltInt d a b s).2.2 l1.2 hc
  have s2 := order2_swaps' ltInt d (order2 ltInt d a b s).2.1 c (order2 ltInt d a b s).2.2
  unfold median
  simp only []
  obtain ⟨p1, p2, p3, hp⟩ : ∃ p1 p2 p3, order2 ltInt d a b s = (p1, p2, p3) := ⟨_, _, _, rfl⟩
  have st1 := ord_any g n cap hn a b K s ha hb (by omega) d w0 w H0
  rw [hp] at l1 s1 l2 s2 st1 ⊢
  simp only [] at l1 s1 l2 s2 st1 ⊢
  obtain ⟨q1, q2, q3, hq⟩ : ∃ q1 q2 q3, order2 ltInt d p2 c p3 = (q1, q2, q3) := ⟨_, _, _, rfl⟩
  rw [hq] at l2 s2 ⊢
  simp only [] at l2 s2 ⊢
  obtain ⟨r1, r2, r3, hr⟩ : ∃ r1 r2 r3, order2 ltInt d p1 q1 q3 = (r1, r2, r3) := ⟨_, _, _, rfl⟩
  rw [hr]
  have HQ : Hid (order2 ltInt d p2 c p3 = (q1, q2, q3)) := Lib.hid hq
  have HR : Hid (order2 ltInt d p1 q1 q3 = (r1, r2, r3)) := Lib.hid hr
  have HS := Lib.hid st1
  have HL := Lib.hid (And.intro l1 (And.intro l2 (And.intro s1 s2)))
  clear hp hq hr st1 l1 l2 s1 s2 H0
  go_enter Tryz.func100, Tryz.ntmps100
  go_wp2_with fail
  refine HS.out.mono ?_
  rintro _ w1 ⟨rfl, h1⟩
  have st2 := ord_any g n cap hn p2 c K p3 HL.out.1.2 hc (by have := HL.out; omega) d w0 w1 h1
  rw [HQ.out] at st2
  have HS2 := Lib.hid st2
  clear st2 h1 HS
  go_wp2_with fail
  refine HS2.out.mono ?_
  rintro _ w2 ⟨rfl, h2⟩
  have st3 := ord_any g n cap hn p1 q1 K q3 HL.out.1.1 HL.out.2.1.1 (by have := HL.out; omega) d w0 w2 h2
  rw [HR.out] at st3
  have HS3 := Lib.hid st3
  clear st3 h2 HS2
  go_wp2_with fail
  refine HS3.out.mono ?_
  rintro _ w3 ⟨rfl, h3⟩
  have H3 := Lib.hid h3
  clear h3 HS3
  go_wp2
  go_ret
  exact ⟨rfl, H3.out⟩
set_option maxHeartbeats 1000000 in
set_option maxRecDepth 20000 in
theorem mad_any (g n cap : Nat) (hn : n < 4611686018427387904) (a K s : Nat) (ha1 : 1 ≤ a) (ha2 : a + 1 < n) (hs : s + 3 < 4611686018427387904) (d : Array Int) (w0 w : World) (H0 : CtO g n w0 K d (.int .i64 (s : Int)) w) :
    Calls Tryz.prog 99 #[.slice (some ⟨g, 0, none⟩) n cap, .int .i64 (a : Int), .pointer (some ⟨K, 0, none⟩)] w fun e w' => e = .returned (.int .i64 ((medianAdjacent ltInt d a s).1 : Int)) ∧ CtO g n w0 K d (.int .i64 (((medianAdjacent ltInt d a s).2 : Nat) : Int)) w' := by
  have hm := med_any g n cap hn (a - 1) a (a + 1) K s (by omega) (by omega) ha2 hs d w0 w H0
  rw [show ((a - 1 : Nat) : Int) = (a : Int) - 1 by omega, show ((a + 1 : Nat) : Int) = (a : Int) + 1 by omega] at hm
  unfold medianAdjacent
  generalize median ltInt d (a - 1) a (a + 1) s = m at hm ⊢
  have HM := Lib.hid hm
  clear hm H0
  go_enter Tryz.func99, Tryz.ntmps99
  go_wp2_with fail
  refine HM.out.mono ?_
  rintro _ w1 ⟨rfl, h1⟩
  have H1 := Lib.hid h1
  clear h1 HM
  go_wp2
  go_ret
  exact ⟨rfl, H1.out⟩
set_option maxHeartbeats 4000000 in
set_option maxRecDepth 20000 in
theorem piv_any (g n cap : Nat) (hn : n < 4611686018427387904) (a b : Nat) (hab : a < b) (hb : b ≤ n) (d : Array Int) (w0 w : World) (H0 : AtO g n w0 d w) :
    Calls Tryz.prog 82 #[.slice (some ⟨g, 0, none⟩) n cap, .int .i64 (a : Int), .int .i64 (b : Int)] w fun e w' => e = .returned (.tuple #[.int .i64 ((choosePivot ltInt d a b).1 : Int), .int .i64 (hintCode (choosePivot ltInt d a b).2)]) ∧ AtO g n w0 (d) w' := by
  have HS0 := Lib.hid (CtO.start (t := 3) H0 (.int .i64 ((0 : Nat) : Int)))
  obtain ⟨x, hx⟩ : ∃ x, x = w.heap.size := ⟨_, rfl⟩
  obtain ⟨w1, hw1⟩ : ∃ X, X = w.alloc (.cells #[.int .i64 0] 3) := ⟨_, rfl⟩
  rw [show (w.alloc (.cells #[.int .i64 ((0 : Nat) : Int)] 3)) = w1 from hw1.symm, ← hx] at HS0
  clear H0
  rw [choosePivot_eq]
  obtain ⟨I, hI⟩ : ∃ I : Nat, I = a + (b - a) / 4 * 1 := ⟨_, rfl⟩
  obtain ⟨J, hJ⟩ : ∃ J : Nat, J = a + (b - a) / 4 * 2 := ⟨_, rfl⟩
  obtain ⟨K, hK⟩ : ∃ K : Nat, K = a + (b - a) / 4 * 3 := ⟨_, rfl⟩
  have eI : ((a : Int) + ((b : Int) - (a : Int)) / 4) = (I : Int) := by omega
  have eJ : ((a : Int) + ((b : Int) - (a : Int)) / 4 * 2) = (J : Int) := by omega
  have eK : ((a : Int) + ((b : Int) - (a : Int)) / 4 * 3) = (K : Int) := by omega
  by_cases h8 : b - a ≥ 8
  · by_cases h50 : b - a ≥ 50
    · obtain ⟨i1, s1, h1⟩ : ∃ i1 s1, medianAdjacent ltInt d I 0 = (i1, s1) := ⟨_, _, rfl⟩
      obtain ⟨j1, s2, h2⟩ : ∃ j1 s2, medianAdjacent ltInt d J s1 = (j1, s2) := ⟨_, _, rfl⟩
      obtain ⟨k1, s3, h3⟩ : ∃ k1 s3, medianAdjacent ltInt d K s2 = (k1, s3) := ⟨_, _, rfl⟩
      obtain ⟨p, s, h4⟩ : ∃ p s, median ltInt d i1 j1 k1 s3 = (p, s) := ⟨_, _, rfl⟩
      have hraw : rawPivot ltInt d a b = (p, s) := by simp only [rawPivot, if_pos h8, if_pos h50, ← hI, ← hJ, ← hK, h1, h2, h3, h4]
      have m1 := medianAdjacent_mem ltInt d I 0; rw [h1] at m1
      have m2 := medianAdjacent_mem ltInt d J s1; rw [h2] at m2
      have m3 := medianAdjacent_mem ltInt d K s2; rw [h3] at m3
      have n1 := medianAdjacent_count ltInt d I 0; rw [h1] at n1
      have n2 := medianAdjacent_count ltInt d J s1; rw [h2] at n2
      have n3 := medianAdjacent_count ltInt d K s2; rw [h3] at n3
      simp only [] at m1 m2 m3 n1 n2 n3
      have N1 : Hid (∀ W, CtO g n w0 x d (.int .i64 ((0 : Nat) : Int)) W → Calls Tryz.prog 99 #[.slice (some ⟨g, 0, none⟩) n cap, .int .i64 (I : Int), .pointer (some ⟨x, 0, none⟩)] W fun e w' => e = .returned (.int .i64 (i1 : Int)) ∧ CtO g n w0 x d (.int .i64 ((s1 : Nat) : Int)) w') := Lib.hid (fun W h => by have h := mad_any g n cap hn I x 0 (by omega) (by omega) (by omega) d w0 W h; rw [h1] at h; exact h)
      have N2 : Hid (∀ W, CtO g n w0 x d (.int .i64 ((s1 : Nat) : Int)) W → Calls Tryz.prog 99 #[.slice (some ⟨g, 0, none⟩) n cap, .int .i64 (J : Int), .pointer (some ⟨x, 0, none⟩)] W fun e w' => e = .returned (.int .i64 (j1 : Int)) ∧ CtO g n w0 x d (.int .i64 ((s2 : Nat) : Int)) w') := Lib.hid (fun W h => by have h := mad_any g n cap hn J x s1 (by omega) (by omega) (by omega) d w0 W h; rw [h2] at h; exact h)
      have N3 : Hid (∀ W, CtO g n w0 x d (.int .i64 ((s2 : Nat) : Int)) W → Calls Tryz.prog 99 #[.slice (some ⟨g, 0, none⟩) n cap, .int .i64 (K : Int), .pointer (some ⟨x, 0, none⟩)] W fun e w' => e = .returned (.int .i64 (k1 : Int)) ∧ CtO g n w0 x d (.int .i64 ((s3 : Nat) : Int)) w') := Lib.hid (fun W h => by have h := mad_any g n cap hn K x s2 (by omega) (by omega) (by omega) d w0 W h; rw [h3] at h; exact h)
      have N4 : Hid (∀ W, CtO g n w0 x d (.int .i64 ((s3 : Nat) : Int)) W → Calls Tryz.prog 100 #[.slice (some ⟨g, 0, none⟩) n cap, .int .i64 (i1 : Int), .int .i64 (j1 : Int), .int .i64 (k1 : Int), .pointer (some ⟨x, 0, none⟩)] W fun e w' => e = .returned (.int .i64 (p : Int)) ∧ CtO g n w0 x d (.int .i64 ((s : Nat) : Int)) w') := Lib.hid (fun W h => by have h := med_any g n cap hn i1 j1 k1 x s3 (by omega) (by omega) (by omega) (by omega) d w0 W h; rw [h4] at h; exact h)
      rw [hraw]
      obtain ⟨Hc, hHc⟩ : ∃ Hc : Int, Hc = hintCode (hintOf s) := ⟨_, rfl⟩
      have hh0 : s = 0 → Hc = 1 := fun h => by rw [hHc, h]; rfl
      have hh12 : s = 12 → Hc = 2 := fun h => by rw [hHc, h]; rfl
      have hhx : s ≠ 0 → s ≠ 12 → Hc = 0 := fun h1 h2 => by rw [hHc]; unfold hintOf; rw [if_neg h1, if_neg h2]; rfl
      simp only []
      rw [← hHc]
      have HH := Lib.hid (And.intro hh0 (And.intro hh12 hhx))
      clear hHc hh0 hh12 hhx
      have h8z : (8 : Int) ≤ (b : Int) - (a : Int) := by omega
      have h50z : (50 : Int) ≤ (b : Int) - (a : Int) := by omega
      clear hraw h1 h2 h3 h4 hI hJ hK m1 m2 m3 n1 n2 n3
      go_enter Tryz.func82, Tryz.ntmps82
      go_upto_region 3 with fail
      rw [← hw1, ← hx]
      clear hw1 hx
      go_wp2_with fail
      refine (N1.out _ HS0.out).mono ?_
      rintro _ v1 ⟨rfl, h1⟩
      have H1 := Lib.hid h1
      clear h1
      go_wp2_with fail
      refine (N2.out _ H1.out).mono ?_
      rintro _ v2 ⟨rfl, h2⟩
      have H2 := Lib.hid h2
      clear h2
      go_wp2_with fail
      refine (N3.out _ H2.out).mono ?_
      rintro _ v3 ⟨rfl, h3⟩
      have H3 := Lib.hid h3
      clear h3
      go_wp2_with fail
      refine (N4.out _ H3.out).mono ?_
      rintro _ v4 ⟨rfl, h4⟩
      have H4 := Lib.hid h4
      clear h4
      have HF := Lib.hid H4.out
      clear H1 H2 H3 H4 N1 N2 N3 N4 HS0 eI eJ eK
      have k9 := HF.out.at_
      rcases (show s = 0 ∨ s = 12 ∨ (s ≠ 0 ∧ s ≠ 12) by omega) with hs0 | hs0 | ⟨hs0, hs1⟩
      · obtain rfl : Hc = 1 := HH.out.1 hs0
        have b0 : (s : Int) = 0 := by omega
        go_wp2
        refine bodyPost_ret (v := .tuple #[.int .i64 (p : Int), .int .i64 1]) (by simp [results, Tryz.results82, go_sem]) rfl ?_
        exact ⟨rfl, HF.out.st⟩
      · obtain rfl : Hc = 2 := HH.out.2.1 hs0
        have b0 : (s : Int) = 12 := by omega
        go_wp2
        refine bodyPost_ret (v := .tuple #[.int .i64 (p : Int), .int .i64 2]) (by simp [results, Tryz.results82, go_sem]) rfl ?_
        exact ⟨rfl, HF.out.st⟩
      · obtain rfl : Hc = 0 := HH.out.2.2 hs0 hs1
        have b0 : ((s : Int) == 0) = false := by simp; omega
        have b1 : ((s : Int) == 12) = false := by simp; omega
        have b2 : ¬ (s : Int) = 0 := by omega
        have b3 : ¬ (s : Int) = 12 := by omega
        go_wp2
        refine bodyPost_ret (v := .tuple #[.int .i64 (p : Int), .int .i64 0]) (by simp [results, Tryz.results82, go_sem]) rfl ?_
        exact ⟨rfl, HF.out.st⟩
    · obtain ⟨p, s, h4⟩ : ∃ p s, median ltInt d I J K 0 = (p, s) := ⟨_, _, rfl⟩
      have hraw : rawPivot ltInt d a b = (p, s) := by simp only [rawPivot, if_pos h8, if_neg h50, ← hI, ← hJ, ← hK, h4]
      have N4 : Hid (∀ W, CtO g n w0 x d (.int .i64 ((0 : Nat) : Int)) W → Calls Tryz.prog 100 #[.slice (some ⟨g, 0, none⟩) n cap, .int .i64 (I : Int), .int .i64 (J : Int), .int .i64 (K : Int), .pointer (some ⟨x, 0, none⟩)] W fun e w' => e = .returned (.int .i64 (p : Int)) ∧ CtO g n w0 x d (.int .i64 ((s : Nat) : Int)) w') := Lib.hid (fun W h => by have h := med_any g n cap hn I J K x 0 (by omega) (by omega) (by omega) (by omega) d w0 W h; rw [h4] at h; exact h)
      rw [hraw]
      obtain ⟨Hc, hHc⟩ : ∃ Hc : Int, Hc = hintCode (hintOf s) := ⟨_, rfl⟩
      have hh0 : s = 0 → Hc = 1 := fun h => by rw [hHc, h]; rfl
      have hh12 : s = 12 → Hc = 2 := fun h => by rw [hHc, h]; rfl
      have hhx : s ≠ 0 → s ≠ 12 → Hc = 0 := fun h1 h2 => by rw [hHc]; unfold hintOf; rw [if_neg h1, if_neg h2]; rfl
      simp only []
      rw [← hHc]
      have HH := Lib.hid (And.intro hh0 (And.intro hh12 hhx))
      clear hHc hh0 hh12 hhx
      have h8z : (8 : Int) ≤ (b : Int) - (a : Int) := by omega
      have h50z : ¬ (50 : Int) ≤ (b : Int) - (a : Int) := by omega
      clear hraw h4 hI hJ hK
      go_enter Tryz.func82, Tryz.ntmps82
      go_upto_region 3 with fail
      rw [← hw1, ← hx]
      clear hw1 hx
      go_wp2_with fail
      refine (N4.out _ HS0.out).mono ?_
      rintro _ v4 ⟨rfl, h4⟩
      have H4 := Lib.hid h4
      clear h4
      have HF := Lib.hid H4.out
      clear H4 N4 HS0 eI eJ eK
      have k9 := HF.out.at_
      rcases (show s = 0 ∨ s = 12 ∨ (s ≠ 0 ∧ s ≠ 12) by omega) with hs0 | hs0 | ⟨hs0, hs1⟩
      · obtain rfl : Hc = 1 := HH.out.1 hs0
        have b0 : (s : Int) = 0 := by omega
        go_wp2
        refine bodyPost_ret (v := .tuple #[.int .i64 (p : Int), .int .i64 1]) (by simp [results, Tryz.results82, go_sem]) rfl ?_
        exact ⟨rfl, HF.out.st⟩
      · obtain rfl : Hc = 2 := HH.out.2.1 hs0
        have b0 : (s : Int) = 12 := by omega
        go_wp2
        refine bodyPost_ret (v := .tuple #[.int .i64 (p : Int), .int .i64 2]) (by simp [results, Tryz.results82, go_sem]) rfl ?_
        exact ⟨rfl, HF.out.st⟩
      · obtain rfl : Hc = 0 := HH.out.2.2 hs0 hs1
        have b0 : ((s : Int) == 0) = false := by simp; omega
        have b1 : ((s : Int) == 12) = false := by simp; omega
        have b2 : ¬ (s : Int) = 0 := by omega
        have b3 : ¬ (s : Int) = 12 := by omega
        go_wp2
        refine bodyPost_ret (v := .tuple #[.int .i64 (p : Int), .int .i64 0]) (by simp [results, Tryz.results82, go_sem]) rfl ?_
        exact ⟨rfl, HF.out.st⟩
  · have hraw : rawPivot ltInt d a b = (J, 0) := by simp only [rawPivot, if_neg h8, ← hJ]
    have hh : hintCode (hintOf 0) = 1 := rfl
    rw [hraw]
    simp only []
    rw [hh]
    have h8z : ¬ (8 : Int) ≤ (b : Int) - (a : Int) := by omega
    have HF := Lib.hid HS0.out
    have k9 : w1.cell? ⟨x, 0, none⟩ = some (.int .i64 0) := HS0.out.at_
    clear hraw hh hI hJ hK
    go_enter Tryz.func82, Tryz.ntmps82
    go_upto_region 3 with fail
    rw [← hw1, ← hx]
    clear hw1 hx
    go_wp2
    refine bodyPost_ret (v := .tuple #[.int .i64 (J : Int), .int .i64 1]) (by simp [results, Tryz.results82, go_sem]) rfl ?_
    exact ⟨rfl, HF.out.st⟩
end Go.Proofs.YtdljphbfbiganaaGreatDoor.So
