/- 'GapOrder': the walk. -/
import Derived.Test.YtlgbendncgboiaaGapOrdBase
namespace Go.Proofs.Ytlgbendncgboiaa.Gp
open Go Go.RowKit Gm

set_option maxRecDepth 100000 in
set_option maxHeartbeats 8000000 in
theorem order_few (most : Int) (m0 : 0 ≤ most) (m1 : most ≤ 18446744073709551615) (A : Option Addr) (len cap : Nat) (zs : List Int) (hl : len ≤ 40) (w : World) (hr : RbK .u64 w A len zs) (hz : ∀ i, 0 ≤ zs.getD i 0 ∧ zs.getD i 0 ≤ 18446744073709551615) :
    Calls Try.prog 4 #[.slice A len cap, .int .u64 most] w fun e w' => e = .returned (.bool true) ∧ Below w.heap.size w w' := by
  have HR := Lib.hid hr
  have HZ := Lib.hid hz
  clear hr hz
  have hq1 : decide ((40 : Int) < (len : Int)) = false := by simp; omega
  go_enter Try.func4, Try.ntmps4
  go_wp2_with fail
  refine (new_any _).mono ?_
  rintro _ w1 ⟨H, rfl, hH, hw1⟩
  have g1 : GH w.heap.size w1 H (.slice none 0 0) [] := by rw [hw1, hH]; exact GH.new w
  have b1 : Below w.heap.size w w1 := by rw [hw1]; exact (Below.refl _ _).alloc (Nat.le_refl _) _
  clear hw1 hH
  go_wp2_with fail
  refine (new_any _).mono ?_
  rintro _ w2 ⟨K, rfl, hK, hw2⟩
  have hT : Tw w.heap.size H K (.slice none 0 0) (.slice none 0 0) [] [] w2 := by
    have e := Below.refl w1.heap.size w1
    have g2 := (GH.new w1).lower b1.size
    rw [← hK, ← hw2] at g2
    exact ⟨g1.below (by rw [hw2]; exact e.alloc (Nat.le_refl _) _), g2, by have := g1.lt; omega, fun h => (by cases h), fun h => (by cases h), fun k h => (by cases h)⟩
  have b2 : Below w.heap.size w w2 := by rw [hw2]; exact b1.alloc b1.size _
  have H2 := Lib.hid (And.intro hT b2)
  clear hT b2 hw2 g1 b1 hK
  go_wp2
  go_loopw [7] (fun i wr => ∃ k : Nat, i = .int .i64 (k : Int) ∧ k ≤ len ∧ Hid (∃ v1 v2 L M, Tw w.heap.size H K v1 v2 L M wr ∧ Below w.heap.size w wr ∧ Of zs k L ∧ OfR zs len k M ∧ L.length ≤ k ∧ M.length ≤ k)) (fun i _ => len - (intOf i).toNat)
  case atStart => exact ⟨0, rfl, Nat.zero_le _, Lib.hid ⟨_, _, _, _, H2.out.1, H2.out.2, of_zero zs, ofR_zero zs len, Nat.le_refl _, Nat.le_refl _⟩⟩
  case round =>
    clear H2
    obtain ⟨k, rfl, hk, HX⟩ := hrel
    obtain ⟨v1, v2, L, M, hX⟩ := HX.out
    have HX := Lib.hid hX
    clear hX
    by_cases hlt : k < len
    · obtain ⟨b, off, rfl, hbl, hc⟩ := HR.out (by omega)
      have c1 := (HX.out.2.1.cell (p := ⟨b, off + k, none⟩) hbl).trans (hc k hlt)
      have c2 := hc (len - 1 - k) (by omega)
      have HC2 := Lib.hid c2
      have z1 := HZ.out k
      have z2 := HZ.out (len - 1 - k)
      have ek : (len : Int) - 1 - (k : Int) = ((len - 1 - k : Nat) : Int) := by omega
      have HP1 := Lib.hid (gput_any w.heap.size H v1 L (zs.getD k 0) wr HX.out.1.a HX.out.2.1.size z1.1 z1.2 (by have := HX.out.2.2.2.2.1; omega))
      have HO := Lib.hid HX.out.2.2.1.put
      have HOR := Lib.hid HX.out.2.2.2.1.put
      have HZ2 := Lib.hid z2
      generalize zs.getD k 0 = a at c1 HP1 HO
      clear hc c2 z1 z2
      go_wp2_with fail
      refine HP1.out.mono ?_
      rintro _ w3 ⟨rfl, v1', h3, b3, f3⟩
      have hT3 := HX.out.1.act h3 f3
      have hB3 := HX.out.2.1.trans b3
      have c2 := (hB3.cell (p := ⟨b, off + (len - 1 - k), none⟩) hbl).trans HC2.out
      have HT3 := Lib.hid (And.intro hT3 hB3)
      have HP2 := Lib.hid (gput_any w.heap.size K v2 M (zs.getD (len - 1 - k) 0) w3 hT3.b hB3.size HZ2.out.1 HZ2.out.2 (by have := HX.out.2.2.2.2.2; omega))
      generalize zs.getD (len - 1 - k) 0 = a2 at c2 HP2 HOR HC2 HZ2
      obtain ⟨q, hq⟩ : ∃ q, q = len - 1 - k := ⟨_, rfl⟩
      have hq2 : (q : Int) < (len : Int) := by omega
      rw [← hq] at ek c2
      have HQ := Lib.hid hq
      clear h3 b3 f3 hT3 hB3 c1 HP1 hq
      go_wp2_with fail
      refine HP2.out.mono ?_
      rintro _ w4 ⟨rfl, v2', h4, b4, f4⟩
      have HE := Lib.hid (And.intro (HT3.out.1.symm.act h4 f4).symm (HT3.out.2.trans b4))
      clear h4 b4 f4 c2 ek
      go_wp2
      go_roundw
      case rel => exact ⟨k + 1, by go_num, by omega, Lib.hid ⟨_, _, _, _, HE.out.1, HE.out.2, HO.out, HOR.out, by have := putS_len a L; have := HX.out.2.2.2.2.1; omega, by have := putS_len a2 M; have := HX.out.2.2.2.2.2; omega⟩⟩
      case measure => simp [intOf]; omega
    · obtain rfl : k = len := by omega
      have hLM : L = M := of_same HX.out.2.2.1 HX.out.2.2.2.1 HX.out.1.a.rise HX.out.1.b.rise
      subst hLM
      have H5 : Hid (Tw w.heap.size H K v1 v2 L L wr ∧ Below w.heap.size w wr ∧ L.length ≤ 40) := Lib.hid ⟨HX.out.1, HX.out.2.1, by have := HX.out.2.2.2.2.1; omega⟩
      clear HX HR HZ
      clear hq1 hl hk hlt
      go_upto_region 9 with fail
      generalize (k : Int) = kk
      go_wp2_with fail
      refine (grunsH w.heap.size H v1 L wr H5.out.1.a).mono ?_
      rintro _ w5 ⟨va, ls, rfl, hva, hs, hL, b5⟩
      have T5 := H5.out.1.below b5
      have ra := RB.of H5.out.1.a hva
      obtain ⟨A1, c1, rfl⟩ := ra.form
      have H6 := Lib.hid (And.intro T5 (And.intro (H5.out.2.1.trans (b5.mono H5.out.2.1.size)) ra))
      have HL := Lib.hid (And.intro hs hL)
      clear hva hs hL b5 T5 ra
      go_wp2_with fail
      refine (grunsH w.heap.size K v2 L w5 H6.out.1.b).mono ?_
      rintro _ w6 ⟨vb, ls2, rfl, hvb, hs2, hL2, b6⟩
      have e2 : ls2 = ls := exp_inj hs2 HL.out.1 (hL2.symm.trans HL.out.2)
      subst e2
      have T6 := H6.out.1.below b6
      have rb := RB.of H6.out.1.a hvb
      obtain ⟨A2, c2, rfl⟩ := rb.form
      have hb6 := H6.out.2.1.trans (b6.mono H6.out.2.1.size)
      have H7 := Lib.hid (And.intro T6 (And.intro hb6 (And.intro (H6.out.2.2.below b6) rb)))
      clear hvb hs2 hL2 b6 T6 rb hb6 H6
      go_wp2_with fail
      refine (glenH w.heap.size H v1 L w6 H7.out.1.a).mono ?_
      rintro _ w7 ⟨rfl, b7⟩
      have H8 := Lib.hid (And.intro (H7.out.1.below b7) (And.intro (H7.out.2.1.trans (b7.mono H7.out.2.1.size)) (And.intro (H7.out.2.2.1.below b7) (H7.out.2.2.2.below b7))))
      clear b7 H7
      go_wp2_with fail
      refine (glenH w.heap.size K v2 L w7 H8.out.1.b).mono ?_
      rintro _ w8 ⟨rfl, b8⟩
      have H9 := Lib.hid (And.intro (H8.out.1.below b8) (And.intro (H8.out.2.1.trans (b8.mono H8.out.2.1.size)) (And.intro (H8.out.2.2.1.below b8) (H8.out.2.2.2.below b8))))
      have HLen := Lib.hid H5.out.2.2
      clear b8 H8 H5
      obtain ⟨n, hn⟩ : ∃ n, n = ls2.length := ⟨_, rfl⟩
      have hn4 : n ≤ 40 := by
        have := (HL.out.1.rep).few
        rw [← HL.out.2] at this
        have := HLen.out
        omega
      have HN := Lib.hid hn
      obtain ⟨LL, hLL⟩ : ∃ LL : Nat, LL = L.length := ⟨_, rfl⟩
      have HLL := Lib.hid hLL
      rw [← hn, ← hLL]
      clear hn hLL
      go_upto_region 13 with fail
      go_loopw [10] (fun i wq => ∃ j q : Nat, j ≤ n ∧ i = .int .i64 (j : Int) ∧ wq = w8.drewN q) (fun i _ => n - (intOf i).toNat)
      case atStart => exact ⟨0, 0, Nat.zero_le _, rfl, rfl⟩
      case round =>
        obtain ⟨j, q, hj, rfl, rfl⟩ := hrel
        by_cases hlt : j < n
        · obtain ⟨g1, rfl, r1⟩ := H9.out.2.2.1.row (by rw [← HN.out]; omega)
          obtain ⟨g2, rfl, r2⟩ := H9.out.2.2.2.row (by rw [← HN.out]; omega)
          obtain ⟨x, hx⟩ : ∃ x, ls2[j]? = some x := ⟨_, List.getElem?_eq_getElem (by rw [← HN.out]; omega)⟩
          have d1 := r1.2 j x hx
          have d2 := r2.2 j x hx
          rw [Nat.zero_add] at d1 d2
          have d10 := d1.1
          have d11 := d1.2
          have d20 := d2.1
          have d21 := d2.2
          clear r1 r2 d1 d2 hx
          go_wp2_with fail
          go_quiet (fail)
          go_wp2
          go_roundw
          case rel => exact ⟨j + 1, _, by omega, by go_num, rfl⟩
          case measure => simp [intOf]; omega
        · obtain rfl : j = n := by omega
          have bq := below_drewN (Below.refl w8.heap.size w8) q
          have H10 := Lib.hid (And.intro (H9.out.1.below bq) (And.intro (below_drewN H9.out.2.1 q) (H9.out.2.2.2.below bq)))
          generalize w8.drewN q = w9 at H10 ⊢
          clear H9 bq hlt hj
          have HTk := Lib.hid (gtake_any w.heap.size H v1 L most w9 H10.out.1.a H10.out.2.1.size m0)
          by_cases hz : most = 0 ∨ L = []
          · obtain ⟨cc, hcc, hcc0⟩ : ∃ cc : Int, tkC most L = cc ∧ cc ≠ 0 := by
              unfold tkC
              by_cases h0 : most = 0
              · exact ⟨1, by rw [if_pos h0], by decide⟩
              · exact ⟨8, by rw [if_neg h0, if_pos (hz.resolve_left h0)], by decide⟩
            have e1 : tkF most L = 0 := by unfold tkF; rw [if_pos hz]
            have e2 : tkM most L = 0 := by unfold tkM; rw [if_pos hz]
            rw [e1, e2, hcc] at HTk
            have hcb : (cc != 0) = true := by simpa using hcc0
            clear e1 e2 hcc hz hcc0
            go_wp2_with fail
            refine HTk.out.mono ?_
            rintro _ w10 ⟨rfl, v1', h10, b10, f10⟩
            have H11 := Lib.hid (And.intro (H10.out.1.act h10 f10) (H10.out.2.1.trans b10))
            clear h10 b10 f10 HTk H10
            go_wp2_with fail
            refine (awake_any _).mono ?_
            rintro _ w11 ⟨rfl, b11⟩
            have H12 := Lib.hid (And.intro (H11.out.1.below b11) (H11.out.2.trans (b11.mono H11.out.2.size)))
            clear b11 H11
            go_wp2_with fail
            refine (glenH w.heap.size H v1' _ w11 H12.out.1.a).mono ?_
            rintro _ w12 ⟨rfl, b12⟩
            have H13 := Lib.hid (And.intro (H12.out.1.below b12) (H12.out.2.trans (b12.mono H12.out.2.size)))
            have e3 : ((L.drop (0 : Int).toNat).length : Int) = (LL : Int) := by rw [HLL.out]; rfl
            rw [e3]
            clear b12 H12 e3
            go_wp2_with fail
            refine (glenH w.heap.size K v2 _ w12 H13.out.1.b).mono ?_
            rintro _ w13 ⟨rfl, b13⟩
            have HE := Lib.hid (H13.out.2.trans (b13.mono H13.out.2.size))
            rw [← HLL.out]
            clear b13 H13
            go_wp2
            go_ret
            exact ⟨rfl, HE.out⟩
          · have hm : ¬ most = 0 := fun e => hz (Or.inl e)
            have hL0 : ¬ L = [] := fun e => hz (Or.inr e)
            obtain ⟨x, r, hxr⟩ : ∃ x r, ls2 = x :: r := by
              cases hls : ls2 with
              | nil => rw [hls] at HL; exact absurd HL.out.2 hL0
              | cons x r => exact ⟨x, r, rfl⟩
            subst hxr
            have hok := HL.out.1.ok x (by simp)
            obtain ⟨mm, hmm⟩ : ∃ mm : Nat, min x.2 most = (mm : Int) := ⟨(min x.2 most).toNat, by unfold Okr at hok; omega⟩
            have hm1 : 1 ≤ mm := by unfold Okr at hok; omega
            have hm2 : (mm : Int) ≤ x.2 := by omega
            have hm3 : (mm : Int) ≤ most := by omega
            have e1 : tkF most L = x.1 := by
              unfold tkF
              rw [if_neg hz, HL.out.2]
              obtain ⟨t, ht⟩ := exp_head (ls := r) hok
              rw [ht]
              rfl
            have e2 : tkM most L = (mm : Int) := by
              unfold tkM
              rw [if_neg hz, HL.out.2, lng_exp HL.out.1, hmm]
            have e4 : tkC most L = 0 := by unfold tkC; rw [if_neg hm, if_neg hL0]
            rw [e1, e2, e4, Int.toNat_natCast] at HTk
            have hBk : Back x L mm 0 (L.drop mm) := by rw [HL.out.2]; exact Back.start HL.out.1 mm hm2
            have hLd : (L.drop mm).length = LL - mm ∧ mm ≤ LL := by
              have h1 := run_len hok
              have h2 : L.length = (runL x).length + (expd r).length := by rw [HL.out.2, exp_cons, List.length_append]
              rw [List.length_drop, HLL.out]
              exact ⟨rfl, by omega⟩
            have HBk := Lib.hid hBk
            have HLd := Lib.hid hLd
            have hln : 0 < j := by rw [HN.out]; simp
            have hlz : ((j : Int) == 0) = false := by simp; omega
            obtain ⟨g2, rfl, _⟩ := H10.out.2.2.row (by simp)
            have HM := Lib.hid (And.intro hm1 (And.intro hm2 hm3))
            have HOk := Lib.hid hok
            have hLL4 : LL ≤ 40 := by rw [HLL.out]; exact HLen.out
            have hLm := hLd.2
            clear e1 e2 e4 hz hmm hok hBk hL0
            go_wp2_with fail
            refine HTk.out.mono ?_
            rintro _ w10 ⟨rfl, v1', h10, b10, f10⟩
            have rb := H10.out.2.2.frame f10
            obtain ⟨g2', e5, r2⟩ := rb.row (by simp)
            obtain rfl : g2 = g2' := by injection e5 with e5; injection e5
            have d0 : w10.cell? ⟨g2, 0, none⟩ = some (.int .u64 x.1) := (r2.2 0 x rfl).1
            have d1 : w10.cell? ⟨g2, 1, none⟩ = some (.int .u64 x.2) := (r2.2 0 x rfl).2
            have H11 := Lib.hid (And.intro (H10.out.1.act h10 f10) (And.intro (H10.out.2.1.trans b10) rb))
            clear h10 b10 f10 HTk H10 rb r2 e5
            have n2 : decide (most < (mm : Int)) = false := by simp; omega
            have n3 : decide (x.2 < (mm : Int)) = false := by simp; omega
            have n4 : ((mm : Int) == 0) = false := by simp; omega
            go_wp2_with fail
            refine (glenH w.heap.size H v1' _ w10 H11.out.1.a).mono ?_
            rintro _ w11 ⟨rfl, b11⟩
            have H12 := Lib.hid (And.intro (H11.out.1.below b11) (And.intro (H11.out.2.1.trans (b11.mono H11.out.2.1.size)) (H11.out.2.2.below b11)))
            have e6 : ((L.drop mm).length : Int) = (LL : Int) - (mm : Int) := by rw [hLd.1]; omega
            rw [e6]
            clear b11 H11 e6 d0 d1
            go_wp2_with fail
            refine (glenH w.heap.size K v2 _ w11 H12.out.1.b).mono ?_
            rintro _ w12 ⟨rfl, b12⟩
            have H13 := Lib.hid (And.intro (H12.out.1.below b12) (And.intro (H12.out.2.1.trans (b12.mono H12.out.2.1.size)) (H12.out.2.2.below b12)))
            rw [← HLL.out]
            have n5 : IntKind.u64.wrap ((LL : Int) - (mm : Int)) = (LL : Int) - (mm : Int) := IntWalk.u64_in _ (by omega)
            clear b12 H12
            go_upto_region 22 with fail
            have H14 : Hid (∃ v1 M, Tw w.heap.size H K v1 v2 M L w12 ∧ Below w.heap.size w w12 ∧ RB H v1 (.slice (some ⟨g2, 0, none⟩) (x :: r).length c2) (x :: r) w12 ∧ Back x L mm 0 M ∧ M.length ≤ 40) := Lib.hid ⟨v1', _, H13.out.1, H13.out.2.1, H13.out.2.2, HBk.out, by rw [hLd.1]; omega⟩
            clear H13 HBk n5 n2 n3 n4 hLd hlz
            go_wp2
            go_loopw [14] (fun s wq => ∃ i : Nat, s = .int .u64 (i : Int) ∧ i ≤ mm ∧ Hid (∃ v1 M, Tw w.heap.size H K v1 v2 M L wq ∧ Below w.heap.size w wq ∧ RB H v1 (.slice (some ⟨g2, 0, none⟩) (x :: r).length c2) (x :: r) wq ∧ Back x L mm i M ∧ M.length ≤ 40 + i)) (fun i _ => mm - (intOf i).toNat)
            case atStart => exact ⟨0, rfl, Nat.zero_le _, H14⟩
            case round =>
              clear H14
              obtain ⟨i, rfl, hi, HX2⟩ := hrel
              obtain ⟨v3, M, hX⟩ := HX2.out
              have H15 := Lib.hid hX
              clear hX HX2
              by_cases hlt : i < mm
              · have hok := HOk.out
                unfold Okr at hok
                have o1 : 0 ≤ x.1 := hok.1
                have o2 : x.1 + (i : Int) ≤ 18446744073709551614 := by omega
                have ht : x.1 + (i : Int) ≠ 18446744073709551615 := by omega
                have hin : x.1 + (i : Int) ∈ L := by rw [HL.out.2]; exact Back.in_ i (by omega)
                have hst := H15.out.2.2.2.1.step hlt hin ht
                have hno := H15.out.2.2.2.1.not hlt
                have HC1 := Lib.hid (ghas_any w.heap.size H v3 M (x.1 + (i : Int)) wr H15.out.1.a (by omega))
                rw [decide_eq_false hno] at HC1
                have hcode := hst.1
                have HSt := Lib.hid hst.2
                have HIn := Lib.hid hin
                clear hst hno hin ht hok
                go_wp2_with fail
                refine HC1.out.mono ?_
                rintro _ w13 ⟨rfl, b13⟩
                have H16 := Lib.hid (And.intro (H15.out.1.below b13) (And.intro (H15.out.2.1.trans (b13.mono H15.out.2.1.size)) (H15.out.2.2.1.below b13)))
                have HMl := Lib.hid H15.out.2.2.2.2
                have HC2 := Lib.hid (ghas_any w.heap.size K v2 L (x.1 + (i : Int)) w13 H16.out.1.b (by omega))
                rw [decide_eq_true HIn.out] at HC2
                clear b13 H15 HC1
                go_wp2_with fail
                refine HC2.out.mono ?_
                rintro _ w14 ⟨rfl, b14⟩
                have H17 := Lib.hid (And.intro (H16.out.1.below b14) (And.intro (H16.out.2.1.trans (b14.mono H16.out.2.1.size)) (H16.out.2.2.below b14)))
                have HC3 := Lib.hid (gput_any w.heap.size H v3 M (x.1 + (i : Int)) w14 H17.out.1.a H17.out.2.1.size (by omega) (by omega) (by have := HMl.out; omega))
                rw [hcode] at HC3
                clear b14 H16 HC2 hcode
                go_wp2_with fail
                refine HC3.out.mono ?_
                rintro _ w15 ⟨rfl, v4, h15, b15, f15⟩
                have HE := Lib.hid (And.intro (H17.out.1.act h15 f15) (And.intro (H17.out.2.1.trans b15) (H17.out.2.2.frame f15)))
                clear h15 b15 f15 H17 HC3
                go_wp2
                go_roundw
                case rel => exact ⟨i + 1, by go_num, by omega, Lib.hid ⟨v4, _, HE.out.1, HE.out.2.1, HE.out.2.2, HSt.out, by have := putS_len (x.1 + (i : Int)) M; have := HMl.out; omega⟩⟩
                case measure => simp [intOf]; omega
              · obtain rfl : i = mm := by omega
                have hML : M = L := H15.out.2.2.2.1.done (by rw [HL.out.2]; exact exp_rise HL.out.1)
                subst hML
                go_wp2_with fail
                refine (grunsH w.heap.size H v3 M wr H15.out.1.a).mono ?_
                rintro _ w16 ⟨vc, ls, rfl, hvc, hs, hL, b16⟩
                have e2 : ls = x :: r := exp_inj hs HL.out.1 (hL.symm.trans HL.out.2)
                subst e2
                have rc := RB.of H15.out.1.a hvc
                obtain ⟨A3, c3, rfl⟩ := rc.form
                have H16 := Lib.hid (And.intro (H15.out.2.1.trans (b16.mono H15.out.2.1.size)) (And.intro (H15.out.2.2.1.below b16) rc))
                clear hvc hs hL b16 rc H15
                have hj2 : (x :: r).length = j := HN.out.symm
                rw [hj2]
                clear hj2
                go_upto_region 29 with fail
                go_loopw [16] (fun i wq => ∃ p q : Nat, p ≤ j ∧ i = .int .i64 (p : Int) ∧ wq = w16.drewN q) (fun i _ => j - (intOf i).toNat)
                case atStart => exact ⟨0, 0, Nat.zero_le _, rfl, rfl⟩
                case round =>
                  obtain ⟨p, q, hp, rfl, rfl⟩ := hrel
                  by_cases hlt : p < j
                  · obtain ⟨g3, rfl, r1⟩ := H16.out.2.2.row (by rw [← HN.out]; omega)
                    obtain ⟨g4, e4, r2⟩ := H16.out.2.1.row (by rw [← HN.out]; omega)
                    obtain rfl : g2 = g4 := by injection e4 with e4; injection e4
                    obtain ⟨y, hy⟩ : ∃ y, (x :: r)[p]? = some y := ⟨_, List.getElem?_eq_getElem (by rw [← HN.out]; omega)⟩
                    have d1 := r1.2 p y hy
                    have d2 := r2.2 p y hy
                    rw [Nat.zero_add] at d1 d2
                    have d10 := d1.1
                    have d11 := d1.2
                    have d20 := d2.1
                    have d21 := d2.2
                    clear r1 r2 d1 d2 hy e4
                    go_wp2_with fail
                    go_quiet (fail)
                    go_wp2
                    go_roundw
                    case rel => exact ⟨p + 1, _, by omega, by go_num, rfl⟩
                    case measure => simp [intOf]; omega
                  · have hb16 := below_drewN H16.out.1 q
                    have HB := Lib.hid hb16
                    clear hb16
                    go_wp2_with fail
                    refine (awake_any _).mono ?_
                    rintro _ w17 ⟨rfl, b17⟩
                    have HE := Lib.hid (HB.out.trans (b17.mono HB.out.size))
                    clear b17
                    go_wp2
                    go_ret
                    exact ⟨rfl, HE.out⟩
set_option maxRecDepth 100000 in
theorem order_long (most : Int) (A : Option Addr) (len cap : Nat) (h : 40 < len) (w : World) :
    Calls Try.prog 4 #[.slice A len cap, .int .u64 most] w fun e w' => e = .returned (.bool true) ∧ Below w.heap.size w w' := by
  have hp : (40 : Int) < (len : Int) := by omega
  go_enter Try.func4, Try.ntmps4
  go_wp2_with fail
  refine (awake_any _).mono ?_
  rintro e w1 ⟨rfl, hb⟩
  go_wp2
  go_ret
  exact ⟨rfl, hb⟩
end Go.Proofs.Ytlgbendncgboiaa.Gp
