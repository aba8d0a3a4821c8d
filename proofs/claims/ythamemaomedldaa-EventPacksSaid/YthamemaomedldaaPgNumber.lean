/- The page's reader: number. -/
import Derived.Test.YthamemaomedldaaPgNum
import Derived.Deep.QuietTactic
import Derived.BigQuiet
namespace Go.Proofs.Ythamemaomedldaa.Rd
open Go Go.RowKit Num Texts

theorem after_bad (e : Int) (s : ByteArray) (h : e ≠ 0) : R2.after e s = ⟨⟨#[]⟩, e⟩ := by unfold R2.after; rw [if_neg h]
theorem Only.drewN {R : Nat} {a b : World} (h : Only R a b) (n : Nat) : Only R a (b.drewN n) := ⟨h.os, h.tape, h.output, h.size, h.block⟩

set_option maxRecDepth 20000 in
set_option maxHeartbeats 4000000 in
theorem pnumber_at (R : Nat) (S : ByteArray) (a : Nat) (ha : a ≤ S.size) (hs : S.size ≤ 1099511627776) (W : World) (hR : PLc W R S a 0) :
    Calls Try.prog 39 #[.pointer (some ⟨R, 0, none⟩)] W fun e w' => e = .returned (.int .u64 ((numR MX (S.extract a S.size)).1 : Int)) ∧ PLies w' R S (R2.after (numR MX (S.extract a S.size)).2.1 (numR MX (S.extract a S.size)).2.2) ∧ Only R W w' := by
  have HW := Lib.hid (And.intro hR (Only.refl R W))
  have hs1 : (S.size : Int) ≤ 1099511627776 := by omega
  have ha0 : (0 : Int) ≤ (a : Int) := by omega
  have ha1 : (a : Int) ≤ (S.size : Int) := by omega
  clear hR
  have c0 : W.cell? ⟨R, 0, none⟩ = some (.string S) := cell_at HW.out.1 0
  have c1 : W.cell? ⟨R, 1, none⟩ = some (.int .i64 (a : Int)) := cell_at HW.out.1 1
  have c2 : W.cell? ⟨R, 2, none⟩ = some (.int .i64 0) := cell_at HW.out.1 2
  have f1 := free_at HW.out.1 1
  by_cases hz : S.size ≤ a
  · rw [pn_end S a hz]
    have hzi : (S.size : Int) ≤ (a : Int) := by omega
    clear hz
    go_enter Try.func39, Try.ntmps39
    go_wp2_with fail
    go_quiet (fail)
    obtain ⟨V, hV⟩ : ∃ X, X = World.drewN W nq := ⟨_, rfl⟩
    rw [← hV]
    have HV := Lib.hid (show PLc V R S a 0 ∧ Only R W V by rw [hV]; exact ⟨HW.out.1, HW.out.2.drewN nq⟩)
    clear hV c0 c1 c2 f1 HW
    clear nq
    have c0 : V.cell? ⟨R, 0, none⟩ = some (.string S) := cell_at HV.out.1 0
    have c1 : V.cell? ⟨R, 1, none⟩ = some (.int .i64 (a : Int)) := cell_at HV.out.1 1
    have c2 : V.cell? ⟨R, 2, none⟩ = some (.int .i64 0) := cell_at HV.out.1 2
    have f1 := free_at HV.out.1 1
    go_wp2_with fail
    refine (pfail_any R S a 0 2 hs V HV.out.1).mono ?_
    rintro _ w1 ⟨rfl, hR1, hO⟩
    have hO2 := HV.out.2.trans hO
    clear hO c0 c1 c2 f1
    go_wp2
    go_ret
    exact ⟨rfl, hR1, hO2⟩
  · have hpos : a < S.size := by omega
    have hzi : (a : Int) < (S.size : Int) := by omega
    clear hz
    have x255 : ((S[a]'hpos).toNat : Int) ≤ 255 := by have := (S[a]'hpos).toNat_lt; omega
    by_cases h8 : 8 < (S[a]'hpos).toNat
    · rw [pn_big S a hpos h8]
      have g8 : (8 : Int) < ((S[a]'hpos).toNat : Int) := by omega
      clear h8
      go_enter Try.func39, Try.ntmps39
      go_wp2_with fail
      go_quiet (fail)
      obtain ⟨V, hV⟩ : ∃ X, X = World.drewN W nq := ⟨_, rfl⟩
      rw [← hV]
      have HV := Lib.hid (show PLc V R S a 0 ∧ Only R W V by rw [hV]; exact ⟨HW.out.1, HW.out.2.drewN nq⟩)
      clear hV c0 c1 c2 f1 HW
      clear nq
      have c0 : V.cell? ⟨R, 0, none⟩ = some (.string S) := cell_at HV.out.1 0
      have c1 : V.cell? ⟨R, 1, none⟩ = some (.int .i64 (a : Int)) := cell_at HV.out.1 1
      have c2 : V.cell? ⟨R, 2, none⟩ = some (.int .i64 0) := cell_at HV.out.1 2
      have f1 := free_at HV.out.1 1
      go_wp2_with fail
      go_quiet (fail)
      obtain ⟨V1, hV1⟩ : ∃ X, X = World.drewN V nq := ⟨_, rfl⟩
      rw [← hV1]
      have HV1 := Lib.hid (show PLc V1 R S a 0 ∧ Only R W V1 by rw [hV1]; exact ⟨HV.out.1, HV.out.2.drewN nq⟩)
      clear hV1 c0 c1 c2 f1 HV
      clear nq
      have c0 : V1.cell? ⟨R, 0, none⟩ = some (.string S) := cell_at HV1.out.1 0
      have c1 : V1.cell? ⟨R, 1, none⟩ = some (.int .i64 (a : Int)) := cell_at HV1.out.1 1
      have c2 : V1.cell? ⟨R, 2, none⟩ = some (.int .i64 0) := cell_at HV1.out.1 2
      have f1 := free_at HV1.out.1 1
      go_wp2_with fail
      refine (pfail_any R S a 0 3 hs V1 HV1.out.1).mono ?_
      rintro _ w1 ⟨rfl, hR1, hO⟩
      have hO2 := HV1.out.2.trans hO
      clear hO c0 c1 c2 f1
      go_wp2
      go_ret
      exact ⟨rfl, hR1, hO2⟩
    · have g8 : ¬ (8 : Int) < ((S[a]'hpos).toNat : Int) := by omega
      obtain ⟨k, hk⟩ : ∃ k : Nat, (S[a]'hpos).toNat = k := ⟨_, rfl⟩
      have k0 : ((S[a]'hpos).toNat : Int) = (k : Int) := by omega
      have k8 : k ≤ 8 := by omega
      have HK := Lib.hid (And.intro hk k8)
      have k9 : (k : Int) ≤ 8 := by omega
      clear h8 hk
      go_enter Try.func39, Try.ntmps39
      go_wp2_with fail
      go_quiet (fail)
      obtain ⟨V, hV⟩ : ∃ X, X = World.drewN W nq := ⟨_, rfl⟩
      rw [← hV]
      have HV := Lib.hid (show PLc V R S a 0 ∧ Only R W V by rw [hV]; exact ⟨HW.out.1, HW.out.2.drewN nq⟩)
      clear hV c0 c1 c2 f1 HW
      clear nq
      have c0 : V.cell? ⟨R, 0, none⟩ = some (.string S) := cell_at HV.out.1 0
      have c1 : V.cell? ⟨R, 1, none⟩ = some (.int .i64 (a : Int)) := cell_at HV.out.1 1
      have c2 : V.cell? ⟨R, 2, none⟩ = some (.int .i64 0) := cell_at HV.out.1 2
      have f1 := free_at HV.out.1 1
      go_wp2_with fail
      go_quiet (fail)
      obtain ⟨V1, hV1⟩ : ∃ X, X = World.drewN V nq := ⟨_, rfl⟩
      rw [← hV1]
      have HV1 := Lib.hid (show PLc V1 R S a 0 ∧ Only R W V1 by rw [hV1]; exact ⟨HV.out.1, HV.out.2.drewN nq⟩)
      clear hV1 c0 c1 c2 f1 HV
      clear nq
      have c0 : V1.cell? ⟨R, 0, none⟩ = some (.string S) := cell_at HV1.out.1 0
      have c1 : V1.cell? ⟨R, 1, none⟩ = some (.int .i64 (a : Int)) := cell_at HV1.out.1 1
      have c2 : V1.cell? ⟨R, 2, none⟩ = some (.int .i64 0) := cell_at HV1.out.1 2
      have f1 := free_at HV1.out.1 1
      go_wp2_with fail
      go_loopw [4, 5] (fun n i wr => ∃ j : Nat, 1 ≤ j ∧ j ≤ k + 1 ∧ i = .int .i64 (j : Int) ∧ n = .int .u64 ((val (((S.data.toList.drop a).drop 1).take (j - 1)) : Nat) : Int) ∧ Hid (2 ≤ j → ∃ h1 : a + 1 < S.size, (S[a + 1]'h1).toNat ≠ 0) ∧ a + j ≤ S.size ∧ PLc wr R S a 0 ∧ Only R W wr) (fun _ i _ => 10 - (intOf i).toNat)
      case atStart => exact ⟨1, by omega, by omega, rfl, rfl, Lib.hid (fun h => absurd h (by omega)), hpos, HV1.out.1, HV1.out.2⟩
      case round =>
        clear c0 c1 c2 f1 HV1 V1
        obtain ⟨j, hj1, hj, rfl, rfl, HF, haj, hpl, hon⟩ := hrel
        have Hwr := Lib.hid (And.intro hpl hon)
        clear hpl hon
        have c0 : wr.cell? ⟨R, 0, none⟩ = some (.string S) := cell_at Hwr.out.1 0
        have c1 : wr.cell? ⟨R, 1, none⟩ = some (.int .i64 (a : Int)) := cell_at Hwr.out.1 1
        have c2 : wr.cell? ⟨R, 2, none⟩ = some (.int .i64 0) := cell_at Hwr.out.1 2
        have f1 := free_at Hwr.out.1 1
        by_cases hlt : j ≤ k
        · have hlti : (j : Int) ≤ (k : Int) := by omega
          obtain ⟨a1, e1⟩ : ∃ a1 : Nat, a1 = a + 1 := ⟨_, rfl⟩
          have e2 : (a : Int) + 1 = (a1 : Int) := by omega
          have HE := Lib.hid e1
          obtain ⟨q, hq⟩ : ∃ q : Nat, q = a + j := ⟨_, rfl⟩
          have HQe := Lib.hid hq
          have e3 : (a : Int) + (j : Int) = (q : Int) := by omega
          have hj0 : (1 : Int) ≤ (j : Int) := by omega
          have hj8 : (j : Int) ≤ 8 := by omega
          by_cases hform : j = 1 ∧ ∃ h1 : a1 < S.size, (S[a1]'h1).toNat = 0
          · obtain ⟨rfl, h1, hz⟩ := hform
            have HN : Hid (numR MX (S.extract a S.size) = (0, 3, S.extract a S.size)) := Lib.hid (by
              subst e1
              exact pn_form S a hpos (by rw [HK.out.1]; omega) h1 hz)
            have g1 : (a1 : Int) < (S.size : Int) := by omega
            have g2 : ((S[a1]'h1).toNat : Int) = 0 := by omega
            have g3 : (0 : Int) ≤ (a1 : Int) := by omega
            have g4 : ((1 : Nat) : Int) = 1 := rfl
            rw [g4] at *
            clear hz e3 hq haj e1
            go_wp2_with fail
            go_quiet (fail)
            obtain ⟨V2, hV2⟩ : ∃ X, X = World.drewN wr nq := ⟨_, rfl⟩
            rw [← hV2]
            have HV2 := Lib.hid (show PLc V2 R S a 0 ∧ Only R W V2 by rw [hV2]; exact ⟨Hwr.out.1, Hwr.out.2.drewN nq⟩)
            clear hV2 c0 c1 c2 f1 Hwr
            clear nq
            have c0 : V2.cell? ⟨R, 0, none⟩ = some (.string S) := cell_at HV2.out.1 0
            have c1 : V2.cell? ⟨R, 1, none⟩ = some (.int .i64 (a : Int)) := cell_at HV2.out.1 1
            have c2 : V2.cell? ⟨R, 2, none⟩ = some (.int .i64 0) := cell_at HV2.out.1 2
            have f1 := free_at HV2.out.1 1
            go_wp2_with fail
            refine (pfail_any R S a 0 3 hs V2 HV2.out.1).mono ?_
            rintro _ w1 ⟨rfl, hR1, hO⟩
            have hO2 := HV2.out.2.trans hO
            clear hO c0 c1 c2 f1
            go_wp2
            go_ret
            exact ⟨by rw [HN.out]; rfl, by rw [HN.out]; exact hR1, hO2⟩
          · have HF2 : Hid (a + j < S.size → 2 ≤ j + 1 → ∃ h1 : a + 1 < S.size, (S[a + 1]'h1).toNat ≠ 0) := Lib.hid (fun h1 _ => by
              by_cases h2 : j = 1
              · subst h2
                exact ⟨h1, fun h3 => hform ⟨rfl, by rw [HE.out]; exact h1, by simpa only [HE.out] using h3⟩⟩
              · exact HF.out (by omega))
            have HZ : Hid (S.size ≤ q → (S[a]'hpos).toNat = 0 ∨ S.size ≤ a + 1 ∨ ∃ h1 : a + 1 < S.size, (S[a + 1]'h1).toNat ≠ 0) := Lib.hid (fun h1 => by
              by_cases h2 : j = 1
              · exact .inr (.inl (by omega))
              · exact .inr (.inr (HF.out (by omega))))
            clear HF
            by_cases hsh : S.size ≤ q
            · have HN : Hid (numR MX (S.extract a S.size) = (0, 2, S.extract a S.size)) := Lib.hid (pn_short S a hpos (by rw [HK.out.1]; omega) (HZ.out hsh) (by rw [HK.out.1]; omega))
              clear HF2 HZ hform
              by_cases h1 : j = 1
              · subst h1
                have g1 : ¬ (a1 : Int) < (S.size : Int) := by omega
                have g2 : decide ((a1 : Int) < (S.size : Int)) = false := by simpa using g1
                have g5 : decide (a1 < S.size) = false := by simp; omega
                have g3 : (S.size : Int) ≤ (a1 : Int) := by omega
                have g4 : ((1 : Nat) : Int) = 1 := rfl
                rw [g4] at *
                clear e3 hq haj e1 hsh
                go_wp2_with fail
                go_quiet (fail)
                obtain ⟨V2, hV2⟩ : ∃ X, X = World.drewN wr nq := ⟨_, rfl⟩
                rw [← hV2]
                have HV2 := Lib.hid (show PLc V2 R S a 0 ∧ Only R W V2 by rw [hV2]; exact ⟨Hwr.out.1, Hwr.out.2.drewN nq⟩)
                clear hV2 c0 c1 c2 f1 Hwr
                clear nq
                have c0 : V2.cell? ⟨R, 0, none⟩ = some (.string S) := cell_at HV2.out.1 0
                have c1 : V2.cell? ⟨R, 1, none⟩ = some (.int .i64 (a : Int)) := cell_at HV2.out.1 1
                have c2 : V2.cell? ⟨R, 2, none⟩ = some (.int .i64 0) := cell_at HV2.out.1 2
                have f1 := free_at HV2.out.1 1
                go_wp2_with fail
                go_quiet (fail)
                obtain ⟨V3, hV3⟩ : ∃ X, X = World.drewN V2 nq := ⟨_, rfl⟩
                rw [← hV3]
                have HV3 := Lib.hid (show PLc V3 R S a 0 ∧ Only R W V3 by rw [hV3]; exact ⟨HV2.out.1, HV2.out.2.drewN nq⟩)
                clear hV3 c0 c1 c2 f1 HV2
                clear nq
                have c0 : V3.cell? ⟨R, 0, none⟩ = some (.string S) := cell_at HV3.out.1 0
                have c1 : V3.cell? ⟨R, 1, none⟩ = some (.int .i64 (a : Int)) := cell_at HV3.out.1 1
                have c2 : V3.cell? ⟨R, 2, none⟩ = some (.int .i64 0) := cell_at HV3.out.1 2
                have f1 := free_at HV3.out.1 1
                go_wp2_with fail
                refine (pfail_any R S a 0 2 hs V3 HV3.out.1).mono ?_
                rintro _ w1 ⟨rfl, hR1, hO⟩
                have hO2 := HV3.out.2.trans hO
                clear hO c0 c1 c2 f1
                go_wp2
                go_ret
                exact ⟨by rw [HN.out]; rfl, by rw [HN.out]; exact hR1, hO2⟩
              · have g1 : decide ((j : Int) = 1) = false := by simp; omega
                have g2 : ((j : Int) == 1) = false := by simp; omega
                have g3 : decide (j = 1) = false := by simpa using h1
                have g4 : (S.size : Int) ≤ (q : Int) := by omega
                clear hq haj e1 hsh h1 e2
                go_wp2_with fail
                go_quiet (fail)
                obtain ⟨V2, hV2⟩ : ∃ X, X = World.drewN wr nq := ⟨_, rfl⟩
                rw [← hV2]
                have HV2 := Lib.hid (show PLc V2 R S a 0 ∧ Only R W V2 by rw [hV2]; exact ⟨Hwr.out.1, Hwr.out.2.drewN nq⟩)
                clear hV2 c0 c1 c2 f1 Hwr
                clear nq
                have c0 : V2.cell? ⟨R, 0, none⟩ = some (.string S) := cell_at HV2.out.1 0
                have c1 : V2.cell? ⟨R, 1, none⟩ = some (.int .i64 (a : Int)) := cell_at HV2.out.1 1
                have c2 : V2.cell? ⟨R, 2, none⟩ = some (.int .i64 0) := cell_at HV2.out.1 2
                have f1 := free_at HV2.out.1 1
                go_wp2_with fail
                go_quiet (fail)
                obtain ⟨V3, hV3⟩ : ∃ X, X = World.drewN V2 nq := ⟨_, rfl⟩
                rw [← hV3]
                have HV3 := Lib.hid (show PLc V3 R S a 0 ∧ Only R W V3 by rw [hV3]; exact ⟨HV2.out.1, HV2.out.2.drewN nq⟩)
                clear hV3 c0 c1 c2 f1 HV2
                clear nq
                have c0 : V3.cell? ⟨R, 0, none⟩ = some (.string S) := cell_at HV3.out.1 0
                have c1 : V3.cell? ⟨R, 1, none⟩ = some (.int .i64 (a : Int)) := cell_at HV3.out.1 1
                have c2 : V3.cell? ⟨R, 2, none⟩ = some (.int .i64 0) := cell_at HV3.out.1 2
                have f1 := free_at HV3.out.1 1
                go_wp2_with fail
                refine (pfail_any R S a 0 2 hs V3 HV3.out.1).mono ?_
                rintro _ w1 ⟨rfl, hR1, hO⟩
                have hO2 := HV3.out.2.trans hO
                clear hO c0 c1 c2 f1
                go_wp2
                go_ret
                exact ⟨by rw [HN.out]; rfl, by rw [HN.out]; exact hR1, hO2⟩
            · have hqs : q < S.size := by omega
              have hqi : (q : Int) < (S.size : Int) := by omega
              have hq0 : (0 : Int) ≤ (q : Int) := by omega
              have hl : j - 1 < ((S.data.toList.drop a).drop 1).length := by rw [List.length_drop, List.length_drop, Array.length_toList]; show j - 1 < S.size - a - 1; omega
              have hb : ((S.data.toList.drop a).drop 1)[j - 1] = S[q] := by
                rw [List.getElem_drop, List.getElem_drop]
                have := byteN S q hqs
                rw [List.getD_eq_getElem?_getD, List.getElem?_eq_getElem (by simpa using hqs)] at this
                simp only [Option.getD_some] at this
                rw [← this]
                congr 1
                omega
              have hnx : val (((S.data.toList.drop a).drop 1).take (j + 1 - 1)) = val (((S.data.toList.drop a).drop 1).take (j - 1)) * 256 + (S[q]'hqs).toNat := by
                rw [show j + 1 - 1 = (j - 1) + 1 by omega, List.take_succ_eq_append_getElem hl, val_snoc, hb]
              have hv : val (((S.data.toList.drop a).drop 1).take (j - 1)) < 72057594037927936 := Nat.lt_of_lt_of_le (val_lt _ 7 (by rw [List.length_take]; omega)) (by decide)
              generalize val (((S.data.toList.drop a).drop 1).take (j - 1)) = n at *
              have hbx : (S[q]'hqs).toNat < 256 := (S[q]'hqs).toNat_lt
              have hbi : ((S[q]'hqs).toNat : Int) ≤ 255 := by omega
              have hvi : (n : Int) < 72057594037927936 := by omega
              have hv0 : (0 : Int) ≤ (n : Int) := by omega
              obtain ⟨m1, hm1⟩ : ∃ m1 : Nat, m1 = n * 256 := ⟨_, rfl⟩
              obtain ⟨m2, hm2⟩ : ∃ m2 : Nat, m2 = n * 256 + (S[q]'hqs).toNat := ⟨_, rfl⟩
              have w1 : IntKind.u64.wrap ((n : Int) * 256) = (m1 : Int) := by rw [IntKind.wrap_u64]; omega
              have w2 : IntKind.u64.wrap ((m1 : Int) + ((S[q]'hqs).toNat : Int)) = (m2 : Int) := by rw [IntKind.wrap_u64]; omega
              rw [← hm2] at hnx
              have HNx := Lib.hid hnx
              clear hbx hv hvi hv0 hm1 hm2
              have HF3 : Hid (2 ≤ j + 1 → ∃ h1 : a + 1 < S.size, (S[a + 1]'h1).toNat ≠ 0) := Lib.hid (HF2.out (by omega))
              have HAJ : Hid (a + (j + 1) ≤ S.size) := Lib.hid (by omega)
              clear HF2 HZ hnx hb hl
              by_cases h1 : j = 1
              · obtain ⟨y1, y2⟩ := HF3.out (by omega)
                obtain rfl : q = a1 := by omega
                have g2 : (((S[q]'hqs).toNat : Int) == 0) = false := by
                  have : (S[q]'hqs).toNat ≠ 0 := by simpa only [HE.out] using y2
                  simp; omega
                have g3 : decide (((S[q]'hqs).toNat : Int) = 0) = false := by simpa using g2
                subst h1
                clear y1 y2 hq haj e1 hsh hform e3
                go_wp2_with fail
                go_quiet (fail)
                obtain ⟨V2, hV2⟩ : ∃ X, X = World.drewN wr nq := ⟨_, rfl⟩
                rw [← hV2]
                have HV2 := Lib.hid (show PLc V2 R S a 0 ∧ Only R W V2 by rw [hV2]; exact ⟨Hwr.out.1, Hwr.out.2.drewN nq⟩)
                clear hV2 c0 c1 c2 f1 Hwr
                clear nq
                have c0 : V2.cell? ⟨R, 0, none⟩ = some (.string S) := cell_at HV2.out.1 0
                have c1 : V2.cell? ⟨R, 1, none⟩ = some (.int .i64 (a : Int)) := cell_at HV2.out.1 1
                have c2 : V2.cell? ⟨R, 2, none⟩ = some (.int .i64 0) := cell_at HV2.out.1 2
                have f1 := free_at HV2.out.1 1
                go_wp2_with fail
                go_quiet (fail)
                obtain ⟨V3, hV3⟩ : ∃ X, X = World.drewN V2 nq := ⟨_, rfl⟩
                rw [← hV3]
                have HV3 := Lib.hid (show PLc V3 R S a 0 ∧ Only R W V3 by rw [hV3]; exact ⟨HV2.out.1, HV2.out.2.drewN nq⟩)
                clear hV3 c0 c1 c2 f1 HV2
                clear nq
                have c0 : V3.cell? ⟨R, 0, none⟩ = some (.string S) := cell_at HV3.out.1 0
                have c1 : V3.cell? ⟨R, 1, none⟩ = some (.int .i64 (a : Int)) := cell_at HV3.out.1 1
                have c2 : V3.cell? ⟨R, 2, none⟩ = some (.int .i64 0) := cell_at HV3.out.1 2
                have f1 := free_at HV3.out.1 1
                go_wp2_with fail
                go_quiet (fail)
                obtain ⟨V4, hV4⟩ : ∃ X, X = World.drewN V3 nq := ⟨_, rfl⟩
                rw [← hV4]
                have HV4 := Lib.hid (show PLc V4 R S a 0 ∧ Only R W V4 by rw [hV4]; exact ⟨HV3.out.1, HV3.out.2.drewN nq⟩)
                clear hV4 c0 c1 c2 f1 HV3
                clear nq
                have c0 : V4.cell? ⟨R, 0, none⟩ = some (.string S) := cell_at HV4.out.1 0
                have c1 : V4.cell? ⟨R, 1, none⟩ = some (.int .i64 (a : Int)) := cell_at HV4.out.1 1
                have c2 : V4.cell? ⟨R, 2, none⟩ = some (.int .i64 0) := cell_at HV4.out.1 2
                have f1 := free_at HV4.out.1 1
                go_wp2_with fail
                exact ⟨⟨2, by omega, by omega, by go_num, by rw [show (2 : Nat) = 1 + 1 from rfl, HNx.out], HF3, HAJ.out, HV4.out.1, HV4.out.2⟩, by simp [intOf]⟩
              · have g1 : decide ((j : Int) = 1) = false := by simp; omega
                have g2 : ((j : Int) == 1) = false := by simp; omega
                have g3 : decide (j = 1) = false := by simpa using h1
                clear hq haj e1 hsh hform h1 e2
                go_wp2_with fail
                go_quiet (fail)
                obtain ⟨V2, hV2⟩ : ∃ X, X = World.drewN wr nq := ⟨_, rfl⟩
                rw [← hV2]
                have HV2 := Lib.hid (show PLc V2 R S a 0 ∧ Only R W V2 by rw [hV2]; exact ⟨Hwr.out.1, Hwr.out.2.drewN nq⟩)
                clear hV2 c0 c1 c2 f1 Hwr
                clear nq
                have c0 : V2.cell? ⟨R, 0, none⟩ = some (.string S) := cell_at HV2.out.1 0
                have c1 : V2.cell? ⟨R, 1, none⟩ = some (.int .i64 (a : Int)) := cell_at HV2.out.1 1
                have c2 : V2.cell? ⟨R, 2, none⟩ = some (.int .i64 0) := cell_at HV2.out.1 2
                have f1 := free_at HV2.out.1 1
                go_wp2_with fail
                go_quiet (fail)
                obtain ⟨V3, hV3⟩ : ∃ X, X = World.drewN V2 nq := ⟨_, rfl⟩
                rw [← hV3]
                have HV3 := Lib.hid (show PLc V3 R S a 0 ∧ Only R W V3 by rw [hV3]; exact ⟨HV2.out.1, HV2.out.2.drewN nq⟩)
                clear hV3 c0 c1 c2 f1 HV2
                clear nq
                have c0 : V3.cell? ⟨R, 0, none⟩ = some (.string S) := cell_at HV3.out.1 0
                have c1 : V3.cell? ⟨R, 1, none⟩ = some (.int .i64 (a : Int)) := cell_at HV3.out.1 1
                have c2 : V3.cell? ⟨R, 2, none⟩ = some (.int .i64 0) := cell_at HV3.out.1 2
                have f1 := free_at HV3.out.1 1
                go_wp2_with fail
                go_quiet (fail)
                obtain ⟨V4, hV4⟩ : ∃ X, X = World.drewN V3 nq := ⟨_, rfl⟩
                rw [← hV4]
                have HV4 := Lib.hid (show PLc V4 R S a 0 ∧ Only R W V4 by rw [hV4]; exact ⟨HV3.out.1, HV3.out.2.drewN nq⟩)
                clear hV4 c0 c1 c2 f1 HV3
                clear nq
                have c0 : V4.cell? ⟨R, 0, none⟩ = some (.string S) := cell_at HV4.out.1 0
                have c1 : V4.cell? ⟨R, 1, none⟩ = some (.int .i64 (a : Int)) := cell_at HV4.out.1 1
                have c2 : V4.cell? ⟨R, 2, none⟩ = some (.int .i64 0) := cell_at HV4.out.1 2
                have f1 := free_at HV4.out.1 1
                go_wp2_with fail
                exact ⟨⟨j + 1, by omega, by omega, by go_num, by rw [HNx.out], HF3, HAJ.out, HV4.out.1, HV4.out.2⟩, by simp [intOf]; omega⟩
        · obtain rfl : j = k + 1 := by omega
          rw [show k + 1 - 1 = k from rfl]
          have HN : Hid (numR MX (S.extract a S.size) = (val (((S.data.toList.drop a).drop 1).take k), 0, S.extract (a + 1 + k) S.size)) := Lib.hid (by
            have := pn_ok S a hpos (by rw [HK.out.1]; omega) (by
              by_cases h2 : k = 0
              · exact .inl (by rw [HK.out.1, h2])
              · exact .inr (.inr (HF.out (by omega)))) (by rw [HK.out.1]; omega)
            rw [HK.out.1] at this
            exact this)
          generalize val (((S.data.toList.drop a).drop 1).take k) = n at *
          have g1 : ¬ ((k + 1 : Nat) : Int) ≤ (k : Int) := by omega
          obtain ⟨z, hz⟩ : ∃ z : Nat, z = a + 1 + k := ⟨_, rfl⟩
          have g2 : (a : Int) + 1 + (k : Int) = (z : Int) := by omega
          have g3 : z ≤ S.size := by omega
          have g5 : (z : Int) ≤ (S.size : Int) := by omega
          have HZ := Lib.hid hz
          clear hlt HF hz
          go_wp2_with fail
          go_ret
          refine ⟨by rw [HN.out]; rfl, ?_, Hwr.out.2.set 1 _⟩
          rw [HN.out]
          exact ⟨z, g3, by rw [HZ.out]; rfl, by have := set_at Hwr.out.1 1 (.int .i64 (z : Int)); simpa [R2.after] using this⟩
end Go.Proofs.Ythamemaomedldaa.Rd
