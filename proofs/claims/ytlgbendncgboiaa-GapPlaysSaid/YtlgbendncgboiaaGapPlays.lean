/- 'GapPlays': the walk. -/
import Derived.Test.YtlgbendncgboiaaGapSame
import Derived.Test.YtlgbendncgboiaaPairsRb
namespace Go.Proofs.Ytlgbendncgboiaa.Gp
open Go Go.RowKit Gm

theorem qput_any (B Q : Nat) (v : Value) (L : List Int) (n : Int) (W : World) (h : QH B W Q v L) (h0 : 0 ≤ n) (h1 : n ≤ 18446744073709551615) (hf : L.length < 900) :
    Calls Try.prog 9 #[.pointer (some ⟨Q, 0, none⟩), .int .u64 n] W fun e w' => e = .returned (.int .i64 (putC n L)) ∧ ∃ v', QH B w' Q v' (putS n L) ∧ Fr Q v v' W w' := by
  unfold putC putS
  by_cases ht : n = 18446744073709551615
  · rw [if_pos ht, if_pos (Or.inl ht)]
    subst ht
    refine (qput_top Q W).mono ?_
    rintro e w' ⟨rfl, rfl⟩
    exact ⟨rfl, v, h, Fr.of_below (Below.refl _ _)⟩
  · rw [if_neg ht]
    by_cases hm : n ∈ L
    · rw [if_pos hm, if_pos (Or.inr hm)]
      refine (qput_has B Q v L n W h ht hm).mono ?_
      rintro e w' ⟨rfl, rfl⟩
      exact ⟨rfl, v, h, Fr.of_below (Below.refl _ _)⟩
    · rw [if_neg hm, if_neg (by rintro (e | e); exact ht e; exact hm e)]
      exact qput_go B Q v L n W h h0 (by omega) hm hf
set_option maxRecDepth 100000 in
set_option maxHeartbeats 8000000 in
theorem plays_few (A : Option Addr) (len cap : Nat) (zs : List (Int × Int)) (hl : len ≤ 80) (w : World) (hr : RpU w A len zs) (hz : ∀ i, Pb (zs.getD i (0, 0))) :
    Calls Try.prog 3 #[.slice A len cap] w fun e w' => e = .returned (.bool true) ∧ Below w.heap.size w w' := by
  have HR := Lib.hid hr
  have HZ := Lib.hid hz
  clear hr hz
  have hq1 : decide ((80 : Int) < (len : Int)) = false := by simp; omega
  go_enter Try.func3, Try.ntmps3
  go_wp2_with fail
  refine (new_any _).mono ?_
  rintro _ w1 ⟨H, rfl, hH, hw1⟩
  have g1 : GH w.heap.size w1 H (.slice none 0 0) [] := by rw [hw1, hH]; exact GH.new w
  have b1 : Below w.heap.size w w1 := by rw [hw1]; exact (Below.refl _ _).alloc (Nat.le_refl _) _
  obtain ⟨Q, hQ⟩ : ∃ Q, Q = w1.heap.size := ⟨_, rfl⟩
  obtain ⟨w2, hw2⟩ : ∃ X, X = w1.alloc (.cells #[.slice none 0 0] TQh) := ⟨_, rfl⟩
  have hT : Bo w.heap.size H Q (.slice none 0 0) (.slice none 0 0) [] w2 := by
    refine ⟨g1.below (by rw [hw2]; exact (Below.refl _ _).alloc (Nat.le_refl _) _), ⟨by rw [hw2, hQ]; exact heap_alloc_new w1 _, by rw [hQ]; exact b1.size, ⟨rfl, Or.inl ⟨rfl, rfl⟩⟩, by simp, List.Pairwise.nil, fun n h => (by cases h)⟩, by have := g1.lt; omega, fun h => (by cases h), fun h => (by cases h), fun k h => (by cases h)⟩
  have b2 : Below w.heap.size w w2 := by rw [hw2]; exact b1.alloc b1.size _
  have H2 := Lib.hid (And.intro hT b2)
  clear hT b2 g1 b1 hw1 hH
  go_upto_region 4 with fail
  rw [← hw2, ← hQ]
  clear hw2 hQ
  go_wp2
  go_loopw [5] (fun i wr => ∃ k : Nat, i = .int .i64 (k : Int) ∧ k ≤ len ∧ Hid (∃ v1 v2 L, Bo w.heap.size H Q v1 v2 L wr ∧ Below w.heap.size w wr ∧ L.length ≤ k)) (fun i _ => len - (intOf i).toNat)
  case atStart => exact ⟨0, rfl, Nat.zero_le _, Lib.hid ⟨_, _, _, H2.out.1, H2.out.2, Nat.le_refl _⟩⟩
  case round =>
    clear H2
    obtain ⟨k, rfl, hk, HX⟩ := hrel
    obtain ⟨v1, v2, L, hX⟩ := HX.out
    have HB := Lib.hid hX
    clear hX HX
    by_cases hlt : k < len
    · obtain ⟨b, off, rfl, hbl, hc⟩ := HR.out (by omega)
      have hck := hc k hlt
      have c0 := (HB.out.2.1.cell (p := ⟨b, off + k * 2, none⟩) hbl).trans hck.1
      have c1 := (HB.out.2.1.cell (p := ⟨b, off + k * 2 + 1, none⟩) hbl).trans hck.2
      have hz := HZ.out k
      generalize zs.getD k (0, 0) = z at c0 c1 hz
      obtain ⟨a, n⟩ := z
      obtain ⟨⟨a0, a1⟩, n0, n1⟩ := hz
      dsimp only at *
      obtain ⟨s, hs⟩ : ∃ s, s = bits .and .u64 a 3 := ⟨_, rfl⟩
      clear hc hck
      by_cases h3 : s < 3
      · have h3b : decide (bits .and .u64 a 3 < 3) = true := by rw [← hs]; exact decide_eq_true h3
        have HPa := Lib.hid (gput_any w.heap.size H v1 L n wr HB.out.1.a HB.out.2.1.size n0 n1 (by have := HB.out.2.2; omega))
        clear h3 hs
        go_wp2_with fail
        refine HPa.out.mono ?_
        rintro _ w3 ⟨rfl, v1', h3⟩
        have HqM := Lib.hid (HB.out.1.qmid h3.2.2)
        have HPb := Lib.hid (qput_any w.heap.size Q v2 L n w3 HqM.out n0 n1 (by have := HB.out.2.2; omega))
        clear HPa
        go_wp2_with fail
        refine HPb.out.mono ?_
        rintro _ w4 ⟨rfl, v2', h4'⟩
        have h4 := And.intro h4'.2 h4'.1
        clear h4' HPb h3b c0 c1
        have b1 := below_of_fr HqM.out h4.1
        have HE := Lib.hid (And.intro (HB.out.1.acts h3.1 h3.2.2 h4.2 h4.1) (And.intro ((HB.out.2.1.trans h3.2.1).trans b1) (by have := putS_len n L; have := HB.out.2.2; omega : (putS n L).length ≤ k + 1)))
        clear h3 h4 b1 HqM
        obtain ⟨L2, hL2⟩ : ∃ L2, L2 = putS n L := ⟨_, rfl⟩
        rw [← hL2] at HE
        clear hL2
        go_wp2_with fail
        refine (ghas_any w.heap.size H v1' L2 n w4 HE.out.1.a n1).mono ?_
        rintro _ w5 ⟨rfl, b5⟩
        have H5 := Lib.hid (And.intro (HE.out.1.below b5) (HE.out.2.1.trans (b5.mono HE.out.2.1.size)))
        clear b5
        go_wp2_with fail
        refine (qhas_any w.heap.size Q v2' L2 n w5 H5.out.1.b).mono ?_
        rintro _ w6 ⟨rfl, rfl⟩
        go_wp2_with fail
        refine (same_any w.heap.size H Q v1' v2' L2 _ H5.out.1).mono ?_
        rintro _ w7 ⟨rfl, b7⟩
        have H7 := Lib.hid (And.intro (H5.out.1.below b7) (H5.out.2.trans (b7.mono H5.out.2.size)))
        clear b7
        go_wp2
        go_roundw
        case rel => exact ⟨k + 1, by go_num, by omega, Lib.hid ⟨_, _, _, H7.out.1, H7.out.2, HE.out.2.2⟩⟩
        case measure => simp [intOf]; omega
      · have h3b : decide (bits .and .u64 a 3 < 3) = false := by rw [← hs]; exact decide_eq_false h3
        have HPa := Lib.hid (gtake_any w.heap.size H v1 L n wr HB.out.1.a HB.out.2.1.size n0)
        clear h3 hs
        go_wp2_with fail
        refine HPa.out.mono ?_
        rintro _ w3 ⟨rfl, v1', h3⟩
        have HqM := Lib.hid (HB.out.1.qmid h3.2.2)
        have HPb := Lib.hid (qtake_any w.heap.size Q v2 L n w3 HqM.out n0)
        clear HPa
        go_wp2_with fail
        refine HPb.out.mono ?_
        rintro _ w4 ⟨rfl, v2', h4'⟩
        have h4 := And.intro h4'.2 h4'.1
        clear h4' HPb h3b c0 c1
        have b1 := below_of_fr HqM.out h4.1
        have HE := Lib.hid (And.intro (HB.out.1.acts h3.1 h3.2.2 h4.2 h4.1) (And.intro ((HB.out.2.1.trans h3.2.1).trans b1) (by rw [List.length_drop]; have := HB.out.2.2; omega : (L.drop (tkM n L).toNat).length ≤ k + 1)))
        clear h3 h4 b1 HqM
        obtain ⟨L2, hL2⟩ : ∃ L2, L2 = L.drop (tkM n L).toNat := ⟨_, rfl⟩
        rw [← hL2] at HE
        clear hL2
        go_wp2_with fail
        refine (ghas_any w.heap.size H v1' L2 n w4 HE.out.1.a n1).mono ?_
        rintro _ w5 ⟨rfl, b5⟩
        have H5 := Lib.hid (And.intro (HE.out.1.below b5) (HE.out.2.1.trans (b5.mono HE.out.2.1.size)))
        clear b5
        go_wp2_with fail
        refine (qhas_any w.heap.size Q v2' L2 n w5 H5.out.1.b).mono ?_
        rintro _ w6 ⟨rfl, rfl⟩
        go_wp2_with fail
        refine (same_any w.heap.size H Q v1' v2' L2 _ H5.out.1).mono ?_
        rintro _ w7 ⟨rfl, b7⟩
        have H7 := Lib.hid (And.intro (H5.out.1.below b7) (H5.out.2.trans (b7.mono H5.out.2.size)))
        clear b7
        go_wp2
        go_roundw
        case rel => exact ⟨k + 1, by go_num, by omega, Lib.hid ⟨_, _, _, H7.out.1, H7.out.2, HE.out.2.2⟩⟩
        case measure => simp [intOf]; omega
    · have HE := Lib.hid HB.out.2.1
      clear HB HR HZ
      go_wp2_with fail
      refine (awake_any _).mono ?_
      rintro _ w3 ⟨rfl, b3⟩
      have HF := Lib.hid (HE.out.trans (b3.mono HE.out.size))
      clear b3
      go_wp2
      go_ret
      exact ⟨rfl, HF.out⟩
set_option maxRecDepth 100000 in
theorem plays_long (A : Option Addr) (len cap : Nat) (h : 80 < len) (w : World) :
    Calls Try.prog 3 #[.slice A len cap] w fun e w' => e = .returned (.bool true) ∧ Below w.heap.size w w' := by
  have hp : (80 : Int) < (len : Int) := by omega
  go_enter Try.func3, Try.ntmps3
  go_wp2_with fail
  refine (awake_any _).mono ?_
  rintro e w1 ⟨rfl, hb⟩
  go_wp2
  go_ret
  exact ⟨rfl, hb⟩
end Go.Proofs.Ytlgbendncgboiaa.Gp
