import Derived.Test.YtnjcenbmdcogpaaGreatDoorRdAll
import Derived.Deep.QuietTactic
import Derived.BigQuiet
import Derived.Test.YtnjcenbmdcogpaaGreatDoorPacketTake
import Derived.Test.YtnjcenbmdcogpaaGreatDoorRdL
/- The page's reader: fail, number. -/
namespace Go.Proofs.YtnjcenbmdcogpaaGreatDoor.Rd
open Go Go.RowKit Num Texts

/-- The page's reader lies in block R: it reads S, from a on; b is its error. -/
abbrev PLc (W : World) (R : Nat) (S : ByteArray) (a : Nat) (b : Int) : Prop := W.heap[R]? = some (.cells #[.string S, .int .i64 (a : Int), .int .i64 b] 87 (0, 0))
/-- .. and is in the state r. -/
def PLies (W : World) (R : Nat) (S : ByteArray) (r : R2) : Prop := ∃ a, a ≤ S.size ∧ r.s = S.extract a S.size ∧ PLc W R S a r.b
theorem PLies.only {W W' : World} {R R' : Nat} {S : ByteArray} {r : R2} (h : PLies W R S r) (ho : Only R' W W') (hne : R ≠ R') : PLies W' R S r := by
  obtain ⟨a, h1, h2, h3⟩ := h
  exact ⟨a, h1, h2, (ho.block R (Array.getElem?_eq_some_iff.1 h3).1 hne).trans h3⟩
theorem ext_nil (S : ByteArray) : S.extract S.size S.size = ⟨#[]⟩ := by
  apply ByteArray.ext
  apply Array.toList_inj.1
  rw [Lib.extract_data]
  simp
theorem ext_of (S : ByteArray) (a : Nat) : (S.extract a S.size).data.toList = S.data.toList.drop a := by
  rw [Lib.extract_data, List.take_of_length_le (by rw [List.length_drop, Array.length_toList]; exact Nat.le_refl _)]
theorem ext_size (S : ByteArray) (a : Nat) : (S.extract a S.size).size = S.size - a := by rw [ByteArray.size_extract]; omega
theorem ext_ext (S : ByteArray) (a k : Nat) : (S.extract a S.size).extract k (S.extract a S.size).size = S.extract (a + k) S.size := by
  apply ByteArray.ext
  apply Array.toList_inj.1
  rw [ext_of, ext_of, ext_of, List.drop_drop]
theorem ext_at (S : ByteArray) (a j : Nat) (h : a + j < S.size) : ((S.extract a S.size).data.toList.getD j 0) = S[a + j] := by
  rw [ext_of, List.getD_eq_getElem?_getD, List.getElem?_drop, List.getElem?_eq_getElem (by simpa using h)]
  rfl
abbrev MX : Nat := 18446744073709551615
theorem pn_end (S : ByteArray) (a : Nat) (h : S.size ≤ a) : numR MX (S.extract a S.size) = (0, 2, S.extract a S.size) := by
  unfold numR
  rw [if_pos (by rw [ext_size]; omega)]
theorem pn_big (S : ByteArray) (a : Nat) (h : a < S.size) (h8 : 8 < S[a].toNat) : numR MX (S.extract a S.size) = (0, 3, S.extract a S.size) := by
  unfold numR
  rw [if_neg (by rw [ext_size]; omega)]
  dsimp only
  rw [ext_at S a 0 h, if_pos (.inl h8)]
theorem pn_form (S : ByteArray) (a : Nat) (h : a < S.size) (h0 : 0 < S[a].toNat) (h1 : a + 1 < S.size) (hz : S[a + 1].toNat = 0) : numR MX (S.extract a S.size) = (0, 3, S.extract a S.size) := by
  unfold numR
  rw [if_neg (by rw [ext_size]; omega)]
  dsimp only
  rw [ext_at S a 0 h, ext_at S a 1 h1, if_pos (.inr ⟨h0, by rw [ext_size]; omega, hz⟩)]
theorem pn_cond (S : ByteArray) (a : Nat) (h : a < S.size) (h8 : S[a].toNat ≤ 8) (hz : S[a].toNat = 0 ∨ S.size ≤ a + 1 ∨ ∃ h1 : a + 1 < S.size, S[a + 1].toNat ≠ 0) :
    ¬ (8 < ((S.extract a S.size).data.toList.getD 0 0).toNat ∨ (0 < ((S.extract a S.size).data.toList.getD 0 0).toNat ∧ 1 < (S.extract a S.size).size ∧ ((S.extract a S.size).data.toList.getD 1 0).toNat = 0)) := by
  rw [ext_at S a 0 h, ext_size]
  rintro (g | ⟨g1, g2, g3⟩)
  · exact absurd g (by show ¬ 8 < S[a].toNat; omega)
  · rw [ext_at S a 1 (by omega)] at g3
    rcases hz with hz | hz | ⟨h1, hz⟩
    · exact absurd g1 (by show ¬ 0 < S[a].toNat; omega)
    · omega
    · exact hz g3
theorem pn_short (S : ByteArray) (a : Nat) (h : a < S.size) (h8 : S[a].toNat ≤ 8) (hz : S[a].toNat = 0 ∨ S.size ≤ a + 1 ∨ ∃ h1 : a + 1 < S.size, S[a + 1].toNat ≠ 0) (hs : S.size ≤ a + S[a].toNat) : numR MX (S.extract a S.size) = (0, 2, S.extract a S.size) := by
  have hc := pn_cond S a h h8 hz
  unfold numR
  rw [if_neg (by rw [ext_size]; omega)]
  dsimp only
  rw [if_neg hc, ext_at S a 0 h, if_pos (by rw [ext_size]; show S.size - a - 1 < S[a].toNat; omega)]
theorem pn_ok (S : ByteArray) (a : Nat) (h : a < S.size) (h8 : S[a].toNat ≤ 8) (hz : S[a].toNat = 0 ∨ S.size ≤ a + 1 ∨ ∃ h1 : a + 1 < S.size, S[a + 1].toNat ≠ 0) (hs : a + S[a].toNat < S.size) : numR MX (S.extract a S.size) = (val (((S.data.toList.drop a).drop 1).take S[a].toNat), 0, S.extract (a + 1 + S[a].toNat) S.size) := by
  have hc := pn_cond S a h h8 hz
  have hv : val (((S.data.toList.drop a).drop 1).take S[a].toNat) < 18446744073709551616 := Nat.lt_of_lt_of_le (val_lt _ 8 (by rw [List.length_take]; omega)) (by decide)
  unfold numR
  rw [if_neg (by rw [ext_size]; omega)]
  dsimp only
  rw [if_neg hc, ext_at S a 0 h, if_neg (by rw [ext_size]; show ¬ S.size - a - 1 < S[a].toNat; omega), ext_of, ext_ext]
  have hn : ¬ MX < val (((S.data.toList.drop a).drop 1).take (S[a + 0]).toNat) := by show ¬ 18446744073709551615 < val (((S.data.toList.drop a).drop 1).take S[a].toNat); omega
  rw [if_neg hn]
  show (val (((S.data.toList.drop a).drop 1).take S[a].toNat), (0 : Int), S.extract (a + (1 + S[a].toNat)) S.size) = _
  rw [Nat.add_assoc a 1]

set_option maxRecDepth 20000 in
theorem pfail_any (R : Nat) (S : ByteArray) (a : Nat) (b e : Int) (hs : S.size ≤ 1099511627776) (W : World) (hR : PLc W R S a b) :
    Calls Tryz.prog 93 #[.pointer (some ⟨R, 0, none⟩), .int .i64 e] W fun e' w' => e' = .returned (.tuple #[]) ∧ PLies w' R S ⟨⟨#[]⟩, e⟩ ∧ Only R W w' := by
  have HR := Lib.hid hR
  have c0 : W.cell? ⟨R, 0, none⟩ = some (.string S) := cell_at hR 0
  have c1 : W.cell? ⟨R, 1, none⟩ = some (.int .i64 (a : Int)) := cell_at hR 1
  have c2 : W.cell? ⟨R, 2, none⟩ = some (.int .i64 b) := cell_at hR 2
  have f1 := free_at hR 1
  have f2 := free_at hR 2
  have hs1 : (S.size : Int) ≤ 1099511627776 := by omega
  clear hR hs
  go_enter Tryz.func93, Tryz.ntmps93
  go_wp2
  refine bodyPost_end (results_none rfl _ _ _) rfl ?_
  exact ⟨rfl, ⟨S.size, Nat.le_refl _, (ext_nil S).symm, set_at (set_at HR.out 2 _) 1 _⟩, ((Only.refl _ _).set 2 _).set 1 _⟩
end Go.Proofs.YtnjcenbmdcogpaaGreatDoor.Rd
/- The page's reader: number. -/
namespace Go.Proofs.YtnjcenbmdcogpaaGreatDoor.Rd
open Go Go.RowKit Num Texts

theorem after_bad (e : Int) (s : ByteArray) (h : e ≠ 0) : R2.after e s = ⟨⟨#[]⟩, e⟩ := by unfold R2.after; rw [if_neg h]
theorem Only.drewN {R : Nat} {a b : World} (h : Only R a b) (n : Nat) : Only R a (b.drewN n) := ⟨h.os, h.tape, h.output, h.size, h.block⟩

set_option maxRecDepth 20000 in
set_option maxHeartbeats 4000000 in
theorem pnumber_at (R : Nat) (S : ByteArray) (a : Nat) (ha : a ≤ S.size) (hs : S.size ≤ 1099511627776) (W : World) (hR : PLc W R S a 0) :
    Calls Tryz.prog 91 #[.pointer (some ⟨R, 0, none⟩)] W fun e w' => e = .returned (.int .u64 ((numR MX (S.extract a S.size)).1 : Int)) ∧ PLies w' R S (R2.after (numR MX (S.extract a S.size)).2.1 (numR MX (S.extract a S.size)).2.2) ∧ Only R W w' := by
  have HW := Lib.hid (And.intro hR (Only.refl R W))
  have hs1 : (S.size : Int) ≤ 1099511627776 := by omega
  have ha0 : (0 : Int) ≤ (a : Int) := by omega
  have ha1 : (a : Int) ≤ (S.size : Int) := by omega
  clear hR
  have c0 : W.cell? ⟨R, 0, none⟩ = some (.string S) := cell_at HW.out.1 0
  have c1 : W.cell? ⟨R, 1, none⟩ = some (.int .i64 (a : Int)) := cell_at HW.out.1 1
  have c2 : W.cell? ⟨R, 2, none⟩ = some (.int .i64 0) := cell_at HW.out.1 2
  have f1 := free_at HW.out.1 1
  by_cases hz : S.size ≤ a
  · rw [pn_end S a hz]
    have hzi : (S.size : Int) ≤ (a : Int) := by omega
    clear hz
    go_enter Tryz.func91, Tryz.ntmps91
    go_wp2_with fail
    go_quiet (fail)
    obtain ⟨V, hV⟩ : ∃ X, X = World.drewN W nq := ⟨_, rfl⟩
    rw [← hV]
    have HV := Lib.hid (show PLc V R S a 0 ∧ Only R W V by rw [hV]; exact ⟨HW.out.1, HW.out.2.drewN nq⟩)
    clear hV c0 c1 c2 f1 HW
    clear nq
    have c0 : V.cell? ⟨R, 0, none⟩ = some (.string S) := cell_at HV.out.1 0
    have c1 : V.cell? ⟨R, 1, none⟩ = some (.int .i64 (a : Int)) := cell_at HV.out.1 1
    have c2 : V.cell? ⟨R, 2, none⟩ = some (.int .i64 0) := cell_at HV.out.1 2
    have f1 := free_at HV.out.1 1
    go_wp2_with fail
    refine (pfail_any R S a 0 2 hs V HV.out.1).mono ?_
    rintro _ w1 ⟨rfl, hR1, hO⟩
    have hO2 := HV.out.2.trans hO
    clear hO c0 c1 c2 f1
    go_wp2
    go_ret
    exact ⟨rfl, hR1, hO2⟩
  · have hpos : a < S.size := by omega
    have hzi : (a : Int) < (S.size : Int) := by omega
    clear hz
    have x255 : ((S[a]'hpos).toNat : Int) ≤ 255 := by have := (S[a]'hpos).toNat_lt; omega
    by_cases h8 : 8 < (S[a]'hpos).toNat
    · rw [pn_big S a hpos h8]
      have g8 : (8 : Int) < ((S[a]'hpos).toNat : Int) := by omega
      clear h8
      go_enter Tryz.func91, Tryz.ntmps91
      go_wp2_with fail
      go_quiet (fail)
      obtain ⟨V, hV⟩ : ∃ X, X = World.drewN W nq := ⟨_, rfl⟩
      rw [← hV]
      have HV := Lib.hid (show PLc V R S a 0 ∧ Only R W V by rw [hV]; exact ⟨HW.out.1, HW.out.2.drewN nq⟩)
      clear hV c0 c1 c2 f1 HW
      clear nq
      have c0 : V.cell? ⟨R, 0, none⟩ = some (.string S) := cell_at HV.out.1 0
      have c1 : V.cell? ⟨R, 1, none⟩ = some (.int .i64 (a : Int)) := cell_at HV.out.1 1
      have c2 : V.cell? ⟨R, 2, none⟩ = some (.int .i64 0) := cell_at HV.out.1 2
      have f1 := free_at HV.out.1 1
      go_wp2_with fail
      go_quiet (fail)
      obtain ⟨V1, hV1⟩ : ∃ X, X = World.drewN V nq := ⟨_, rfl⟩
      rw [← hV1]
      have HV1 := Lib.hid (show PLc V1 R S a 0 ∧ Only R W V1 by rw [hV1]; exact ⟨HV.out.1, HV.out.2.drewN nq⟩)
      clear hV1 c0 c1 c2 f1 HV
      clear nq
      have c0 : V1.cell? ⟨R, 0, none⟩ = some (.string S) := cell_at HV1.out.1 0
      have c1 : V1.cell? ⟨R, 1, none⟩ = some (.int .i64 (a : Int)) := cell_at HV1.out.1 1
      have c2 : V1.cell? ⟨R, 2, none⟩ = some (.int .i64 0) := cell_at HV1.out.1 2
      have f1 := free_at HV1.out.1 1
      go_wp2_with fail
      refine (pfail_any R S a 0 3 hs V1 HV1.out.1).mono ?_
      rintro _ w1 ⟨rfl, hR1, hO⟩
      have hO2 := HV1.out.2.trans hO
      clear hO c0 c1 c2 f1
      go_wp2
      go_ret
      exact ⟨rfl, hR1, hO2⟩
    · have g8 : ¬ (8 : Int) < ((S[a]'hpos).toNat : Int) := by omega
      obtain ⟨k, hk⟩ : ∃ k : Nat, (S[a]'hpos).toNat = k := ⟨_, rfl⟩
      have k0 : ((S[a]'hpos).toNat : Int) = (k : Int) := by omega
      have k8 : k ≤ 8 := by omega
      have HK := Lib.hid (And.intro hk k8)
      have k9 : (k : Int) ≤ 8 := by omega
      clear h8 hk
      go_enter Tryz.func91, Tryz.ntmps91
      go_wp2_with fail
      go_quiet (fail)
      obtain ⟨V, hV⟩ : ∃ X, X = World.drewN W nq := ⟨_, rfl⟩
      rw [← hV]
      have HV := Lib.hid (show PLc V R S a 0 ∧ Only R W V by rw [hV]; exact ⟨HW.out.1, HW.out.2.drewN nq⟩)
      clear hV c0 c1 c2 f1 HW
      clear nq
      have c0 : V.cell? ⟨R, 0, none⟩ = some (.string S) := cell_at HV.out.1 0
      have c1 : V.cell? ⟨R, 1, none⟩ = some (.int .i64 (a : Int)) := cell_at HV.out.1 1
      have c2 : V.cell? ⟨R, 2, none⟩ = some (.int .i64 0) := cell_at HV.out.1 2
      have f1 := free_at HV.out.1 1
      go_wp2_with fail
      go_quiet (fail)
      obtain ⟨V1, hV1⟩ : ∃ X, X = World.drewN V nq := ⟨_, rfl⟩
      rw [← hV1]
      have HV1 := Lib.hid (show PLc V1 R S a 0 ∧ Only R W V1 by rw [hV1]; exact ⟨HV.out.1, HV.out.2.drewN nq⟩)
      clear hV1 c0 c1 c2 f1 HV
      clear nq
      have c0 : V1.cell? ⟨R, 0, none⟩ = some (.string S) := cell_at HV1.out.1 0
      have c1 : V1.cell? ⟨R, 1, none⟩ = some (.int .i64 (a : Int)) := cell_at HV1.out.1 1
      have c2 : V1.cell? ⟨R, 2, none⟩ = some (.int .i64 0) := cell_at HV1.out.1 2
      have f1 := free_at HV1.out.1 1
      go_wp2_with fail
      go_loopw [4, 5] (fun n i wr => ∃ j : Nat, 1 ≤ j ∧ j ≤ k + 1 ∧ i = .int .i64 (j : Int) ∧ n = .int .u64 ((val (((S.data.toList.drop a).drop 1).take (j - 1)) : Nat) : Int) ∧ Hid (2 ≤ j → ∃ h1 : a + 1 < S.size, (S[a + 1]'h1).toNat ≠ 0) ∧ a + j ≤ S.size ∧ PLc wr R S a 0 ∧ Only R W wr) (fun _ i _ => 10 - (intOf i).toNat)
      case atStart => exact ⟨1, by omega, by omega, rfl, rfl, Lib.hid (fun h => absurd h (by omega)), hpos, HV1.out.1, HV1.out.2⟩
      case round =>
        clear c0 c1 c2 f1 HV1 V1
        obtain ⟨j, hj1, hj, rfl, rfl, HF, haj, hpl, hon⟩ := hrel
        have Hwr := Lib.hid (And.intro hpl hon)
        clear hpl hon
        have c0 : wr.cell? ⟨R, 0, none⟩ = some (.string S) := cell_at Hwr.out.1 0
        have c1 : wr.cell? ⟨R, 1, none⟩ = some (.int .i64 (a : Int)) := cell_at Hwr.out.1 1
        have c2 : wr.cell? ⟨R, 2, none⟩ = some (.int .i64 0) := cell_at Hwr.out.1 2
        have f1 := free_at Hwr.out.1 1
        by_cases hlt : j ≤ k
        · have hlti : (j : Int) ≤ (k : Int) := by omega
          obtain ⟨a1, e1⟩ : ∃ a1 : Nat, a1 = a + 1 := ⟨_, rfl⟩
          have e2 : (a : Int) + 1 = (a1 : Int) := by omega
          have HE := Lib.hid e1
          obtain ⟨q, hq⟩ : ∃ q : Nat, q = a + j := ⟨_, rfl⟩
          have HQe := Lib.hid hq
          have e3 : (a : Int) + (j : Int) = (q : Int) := by omega
          have hj0 : (1 : Int) ≤ (j : Int) := by omega
          have hj8 : (j : Int) ≤ 8 := by omega
          by_cases hform : j = 1 ∧ ∃ h1 : a1 < S.size, (S[a1]'h1).toNat = 0
          · obtain ⟨rfl, h1, hz⟩ := hform
            have HN : Hid (numR MX (S.extract a S.size) = (0, 3, S.extract a S.size)) := Lib.hid (by
              subst e1
              exact pn_form S a hpos (by rw [HK.out.1]; omega) h1 hz)
            have g1 : (a1 : Int) < (S.size : Int) := by omega
            have g2 : ((S[a1]'h1).toNat : Int) = 0 := by omega
            have g3 : (0 : Int) ≤ (a1 : Int) := by omega
            have g4 : ((1 : Nat) : Int) = 1 := rfl
            rw [g4] at *
            clear hz e3 hq haj e1
            go_wp2_with fail
            go_quiet (fail)
            obtain ⟨V2, hV2⟩ : ∃ X, X = World.drewN wr nq := ⟨_, rfl⟩
            rw [← hV2]
            have HV2 := Lib.hid (show PLc V2 R S a 0 ∧ Only R W V2 by rw [hV2]; exact ⟨Hwr.out.1, Hwr.out.2.drewN nq⟩)
            clear hV2 c0 c1 c2 f1 Hwr
            clear nq
            have c0 : V2.cell? ⟨R, 0, none⟩ = some (.string S) := cell_at HV2.out.1 0
            have c1 : V2.cell? ⟨R, 1, none⟩ = some (.int .i64 (a : Int)) := cell_at HV2.out.1 1
            have c2 : V2.cell? ⟨R, 2, none⟩ = some (.int .i64 0) := cell_at HV2.out.1 2
            have f1 := free_at HV2.out.1 1
            go_wp2_with fail
            refine (pfail_any R S a 0 3 hs V2 HV2.out.1).mono ?_
            rintro _ w1 ⟨rfl, hR1, hO⟩
            have hO2 := HV2.out.2.trans hO
            clear hO c0 c1 c2 f1
            go_wp2
            go_ret
            exact ⟨by rw [HN.out]; rfl, by rw [HN.out]; exact hR1, hO2⟩
          · have HF2 : Hid (a + j < S.size → 2 ≤ j + 1 → ∃ h1 : a + 1 < S.size, (S[a + 1]'h1).toNat ≠ 0) := Lib.hid (fun h1 _ => by
              by_cases h2 : j = 1
              · subst h2
                exact ⟨h1, fun h3 => hform ⟨rfl, by rw [HE.out]; exact h1, by simpa only [HE.out] using h3⟩⟩
              · exact HF.out (by omega))
            have HZ : Hid (S.size ≤ q → (S[a]'hpos).toNat = 0 ∨ S.size ≤ a + 1 ∨ ∃ h1 : a + 1 < S.size, (S[a + 1]'h1).toNat ≠ 0) := Lib.hid (fun h1 => by
              by_cases h2 : j = 1
              · exact .inr (.inl (by omega))
              · exact .inr (.inr (HF.out (by omega))))
            clear HF
            by_cases hsh : S.size ≤ q
            · have HN : Hid (numR MX (S.extract a S.size) = (0, 2, S.extract a S.size)) := Lib.hid (pn_short S a hpos (by rw [HK.out.1]; omega) (HZ.out hsh) (by rw [HK.out.1]; omega))
              clear HF2 HZ hform
              by_cases h1 : j = 1
              · subst h1
                have g1 : ¬ (a1 : Int) < (S.size : Int) := by omega
                have g2 : decide ((a1 : Int) < (S.size : Int)) = false := by simpa using g1
                have g5 : decide (a1 < S.size) = false := by simp; omega
                have g3 : (S.size : Int) ≤ (a1 : Int) := by omega
                have g4 : ((1 : Nat) : Int) = 1 := rfl
                rw [g4] at *
                clear e3 hq haj e1 hsh
                go_wp2_with fail
                go_quiet (fail)
                obtain ⟨V2, hV2⟩ : ∃ X, X = World.drewN wr nq := ⟨_, rfl⟩
                rw [← hV2]
                have HV2 := Lib.hid (show PLc V2 R S a 0 ∧ Only R W V2 by rw [hV2]; exact ⟨Hwr.out.1, Hwr.out.2.drewN nq⟩)
                clear hV2 c0 c1 c2 f1 Hwr
                clear nq
                have c0 : V2.cell? ⟨R, 0, none⟩ = some (.string S) := cell_at HV2.out.1 0
                have c1 : V2.cell? ⟨R, 1, none⟩ = some (.int .i64 (a : Int)) := cell_at HV2.out.1 1
                have c2 : V2.cell? ⟨R, 2, none⟩ = some (.int .i64 0) := cell_at HV2.out.1 2
                have f1 := free_at HV2.out.1 1
                go_wp2_with fail
                go_quiet (fail)
                obtain ⟨V3, hV3⟩ : ∃ X, X = World.drewN V2 nq := ⟨_, rfl⟩
                rw [← hV3]
                have HV3 := Lib.hid (show PLc V3 R S a 0 ∧ Only R W V3 by rw [hV3]; exact ⟨HV2.out.1, HV2.out.2.drewN nq⟩)
                clear hV3 c0 c1 c2 f1 HV2
                clear nq
                have c0 : V3.cell? ⟨R, 0, none⟩ = some (.string S) := cell_at HV3.out.1 0
                have c1 : V3.cell? ⟨R, 1, none⟩ = some (.int .i64 (a : Int)) := cell_at HV3.out.1 1
                have c2 : V3.cell? ⟨R, 2, none⟩ = some (.int .i64 0) := cell_at HV3.out.1 2
                have f1 := free_at HV3.out.1 1
                go_wp2_with fail
                refine (pfail_any R S a 0 2 hs V3 HV3.out.1).mono ?_
                rintro _ w1 ⟨rfl, hR1, hO⟩
                have hO2 := HV3.out.2.trans hO
                clear hO c0 c1 c2 f1
                go_wp2
                go_ret
                exact ⟨by rw [HN.out]; rfl, by rw [HN.out]; exact hR1, hO2⟩
              · have g1 : decide ((j : Int) = 1) = false := by simp; omega
                have g2 : ((j : Int) == 1) = false := by simp; omega
                have g3 : decide (j = 1) = false := by simpa using h1
                have g4 : (S.size : Int) ≤ (q : Int) := by omega
                clear hq haj e1 hsh h1 e2
                go_wp2_with fail
                go_quiet (fail)
                obtain ⟨V2, hV2⟩ : ∃ X, X = World.drewN wr nq := ⟨_, rfl⟩
                rw [← hV2]
                have HV2 := Lib.hid (show PLc V2 R S a 0 ∧ Only R W V2 by rw [hV2]; exact ⟨Hwr.out.1, Hwr.out.2.drewN nq⟩)
                clear hV2 c0 c1 c2 f1 Hwr
                clear nq
                have c0 : V2.cell? ⟨R, 0, none⟩ = some (.string S) := cell_at HV2.out.1 0
                have c1 : V2.cell? ⟨R, 1, none⟩ = some (.int .i64 (a : Int)) := cell_at HV2.out.1 1
                have c2 : V2.cell? ⟨R, 2, none⟩ = some (.int .i64 0) := cell_at HV2.out.1 2
                have f1 := free_at HV2.out.1 1
                go_wp2_with fail
                go_quiet (fail)
                obtain ⟨V3, hV3⟩ : ∃ X, X = World.drewN V2 nq := ⟨_, rfl⟩
                rw [← hV3]
                have HV3 := Lib.hid (show PLc V3 R S a 0 ∧ Only R W V3 by rw [hV3]; exact ⟨HV2.out.1, HV2.out.2.drewN nq⟩)
                clear hV3 c0 c1 c2 f1 HV2
                clear nq
                have c0 : V3.cell? ⟨R, 0, none⟩ = some (.string S) := cell_at HV3.out.1 0
                have c1 : V3.cell? ⟨R, 1, none⟩ = some (.int .i64 (a : Int)) := cell_at HV3.out.1 1
                have c2 : V3.cell? ⟨R, 2, none⟩ = some (.int .i64 0) := cell_at HV3.out.1 2
                have f1 := free_at HV3.out.1 1
                go_wp2_with fail
                refine (pfail_any R S a 0 2 hs V3 HV3.out.1).mono ?_
                rintro _ w1 ⟨rfl, hR1, hO⟩
                have hO2 := HV3.out.2.trans hO
                clear hO c0 c1 c2 f1
                go_wp2
                go_ret
                exact ⟨by rw [HN.out]; rfl, by rw [HN.out]; exact hR1, hO2⟩
            · have hqs : q < S.size := by omega
              have hqi : (q : Int) < (S.size : Int) := by omega
              have hq0 : (0 : Int) ≤ (q : Int) := by omega
              have hl : j - 1 < ((S.data.toList.drop a).drop 1).length := by rw [List.length_drop, List.length_drop, Array.length_toList]; show j - 1 < S.size - a - 1; omega
              have hb : ((S.data.toList.drop a).drop 1)[j - 1] = S[q] := by
                rw [List.getElem_drop, List.getElem_drop]
                have := byteN S q hqs
                rw [List.getD_eq_getElem?_getD, List.getElem?_eq_getElem (by simpa using hqs)] at this
                simp only [Option.getD_some] at this
                rw [← this]
                congr 1
                omega
              have hnx : val (((S.data.toList.drop a).drop 1).take (j + 1 - 1)) = val (((S.data.toList.drop a).drop 1).take (j - 1)) * 256 + (S[q]'hqs).toNat := by
                rw [show j + 1 - 1 = (j - 1) + 1 by omega, List.take_succ_eq_append_getElem hl, val_snoc, hb]
              have hv : val (((S.data.toList.drop a).drop 1).take (j - 1)) < 72057594037927936 := Nat.lt_of_lt_of_le (val_lt _ 7 (by rw [List.length_take]; omega)) (by decide)
              generalize val (((S.data.toList.drop a).drop 1).take (j - 1)) = n at *
              have hbx : (S[q]'hqs).toNat < 256 := (S[q]'hqs).toNat_lt
              have hbi : ((S[q]'hqs).toNat : Int) ≤ 255 := by omega
              have hvi : (n : Int) < 72057594037927936 := by omega
              have hv0 : (0 : Int) ≤ (n : Int) := by omega
              obtain ⟨m1, hm1⟩ : ∃ m1 : Nat, m1 = n * 256 := ⟨_, rfl⟩
              obtain ⟨m2, hm2⟩ : ∃ m2 : Nat, m2 = n * 256 + (S[q]'hqs).toNat := ⟨_, rfl⟩
              have w1 : IntKind.u64.wrap ((n : Int) * 256) = (m1 : Int) := by rw [IntKind.wrap_u64]; omega
              have w2 : IntKind.u64.wrap ((m1 : Int) + ((S[q]'hqs).toNat : Int)) = (m2 : Int) := by rw [IntKind.wrap_u64]; omega
              rw [← hm2] at hnx
              have HNx := Lib.hid hnx
              clear hbx hv hvi hv0 hm1 hm2
              have HF3 : Hid (2 ≤ j + 1 → ∃ h1 : a + 1 < S.size, (S[a + 1]'h1).toNat ≠ 0) := Lib.hid (HF2.out (by omega))
              have HAJ : Hid (a + (j + 1) ≤ S.size) := Lib.hid (by omega)
              clear HF2 HZ hnx hb hl
              by_cases h1 : j = 1
              · obtain ⟨y1, y2⟩ := HF3.out (by omega)
                obtain rfl : q = a1 := by omega
                have g2 : (((S[q]'hqs).toNat : Int) == 0) = false := by
                  have : (S[q]'hqs).toNat ≠ 0 := by simpa only [HE.out] using y2
                  simp; omega
                have g3 : decide (((S[q]'hqs).toNat : Int) = 0) = false := by simpa using g2
                subst h1
                clear y1 y2 hq haj e1 hsh hform e3
                go_wp2_with fail
                go_quiet (fail)
                obtain ⟨V2, hV2⟩ : ∃ X, X = World.drewN wr nq := ⟨_, rfl⟩
                rw [← hV2]
                have HV2 := Lib.hid (show PLc V2 R S a 0 ∧ Only R W V2 by rw [hV2]; exact ⟨Hwr.out.1, Hwr.out.2.drewN nq⟩)
                clear hV2 c0 c1 c2 f1 Hwr
                clear nq
                have c0 : V2.cell? ⟨R, 0, none⟩ = some (.string S) := cell_at HV2.out.1 0
                have c1 : V2.cell? ⟨R, 1, none⟩ = some (.int .i64 (a : Int)) := cell_at HV2.out.1 1
                have c2 : V2.cell? ⟨R, 2, none⟩ = some (.int .i64 0) := cell_at HV2.out.1 2
                have f1 := free_at HV2.out.1 1
                go_wp2_with fail
                go_quiet (fail)
                obtain ⟨V3, hV3⟩ : ∃ X, X = World.drewN V2 nq := ⟨_, rfl⟩
                rw [← hV3]
                have HV3 := Lib.hid (show PLc V3 R S a 0 ∧ Only R W V3 by rw [hV3]; exact ⟨HV2.out.1, HV2.out.2.drewN nq⟩)
                clear hV3 c0 c1 c2 f1 HV2
                clear nq
                have c0 : V3.cell? ⟨R, 0, none⟩ = some (.string S) := cell_at HV3.out.1 0
                have c1 : V3.cell? ⟨R, 1, none⟩ = some (.int .i64 (a : Int)) := cell_at HV3.out.1 1
                have c2 : V3.cell? ⟨R, 2, none⟩ = some (.int .i64 0) := cell_at HV3.out.1 2
                have f1 := free_at HV3.out.1 1
                go_wp2_with fail
                go_quiet (fail)
                obtain ⟨V4, hV4⟩ : ∃ X, X = World.drewN V3 nq := ⟨_, rfl⟩
                rw [← hV4]
                have HV4 := Lib.hid (show PLc V4 R S a 0 ∧ Only R W V4 by rw [hV4]; exact ⟨HV3.out.1, HV3.out.2.drewN nq⟩)
                clear hV4 c0 c1 c2 f1 HV3
                clear nq
                have c0 : V4.cell? ⟨R, 0, none⟩ = some (.string S) := cell_at HV4.out.1 0
                have c1 : V4.cell? ⟨R, 1, none⟩ = some (.int .i64 (a : Int)) := cell_at HV4.out.1 1
                have c2 : V4.cell? ⟨R, 2, none⟩ = some (.int .i64 0) := cell_at HV4.out.1 2
                have f1 := free_at HV4.out.1 1
                go_wp2_with fail
                exact ⟨⟨2, by omega, by omega, by go_num, by rw [show (2 : Nat) = 1 + 1 from rfl, HNx.out], HF3, HAJ.out, HV4.out.1, HV4.out.2⟩, by simp [intOf]⟩
              · have g1 : decide ((j : Int) = 1) = false := by simp; omega
                have g2 : ((j : Int) == 1) = false := by simp; omega
                have g3 : decide (j = 1) = false := by simpa using h1
                clear hq haj e1 hsh hform h1 e2
                go_wp2_with fail
                go_quiet (fail)
                obtain ⟨V2, hV2⟩ : ∃ X, X = World.drewN wr nq := ⟨_, rfl⟩
                rw [← hV2]
                have HV2 := Lib.hid (show PLc V2 R S a 0 ∧ Only R W V2 by rw [hV2]; exact ⟨Hwr.out.1, Hwr.out.2.drewN nq⟩)
                clear hV2 c0 c1 c2 f1 Hwr
                clear nq
                have c0 : V2.cell? ⟨R, 0, none⟩ = some (.string S) := cell_at HV2.out.1 0
                have c1 : V2.cell? ⟨R, 1, none⟩ = some (.int .i64 (a : Int)) := cell_at HV2.out.1 1
                have c2 : V2.cell? ⟨R, 2, none⟩ = some (.int .i64 0) := cell_at HV2.out.1 2
                have f1 := free_at HV2.out.1 1
                go_wp2_with fail
                go_quiet (fail)
                obtain ⟨V3, hV3⟩ : ∃ X, X = World.drewN V2 nq := ⟨_, rfl⟩
                rw [← hV3]
                have HV3 := Lib.hid (show PLc V3 R S a 0 ∧ Only R W V3 by rw [hV3]; exact ⟨HV2.out.1, HV2.out.2.drewN nq⟩)
                clear hV3 c0 c1 c2 f1 HV2
                clear nq
                have c0 : V3.cell? ⟨R, 0, none⟩ = some (.string S) := cell_at HV3.out.1 0
                have c1 : V3.cell? ⟨R, 1, none⟩ = some (.int .i64 (a : Int)) := cell_at HV3.out.1 1
                have c2 : V3.cell? ⟨R, 2, none⟩ = some (.int .i64 0) := cell_at HV3.out.1 2
                have f1 := free_at HV3.out.1 1
                go_wp2_with fail
                go_quiet (fail)
                obtain ⟨V4, hV4⟩ : ∃ X, X = World.drewN V3 nq := ⟨_, rfl⟩
                rw [← hV4]
                have HV4 := Lib.hid (show PLc V4 R S a 0 ∧ Only R W V4 by rw [hV4]; exact ⟨HV3.out.1, HV3.out.2.drewN nq⟩)
                clear hV4 c0 c1 c2 f1 HV3
                clear nq
                have c0 : V4.cell? ⟨R, 0, none⟩ = some (.string S) := cell_at HV4.out.1 0
                have c1 : V4.cell? ⟨R, 1, none⟩ = some (.int .i64 (a : Int)) := cell_at HV4.out.1 1
                have c2 : V4.cell? ⟨R, 2, none⟩ = some (.int .i64 0) := cell_at HV4.out.1 2
                have f1 := free_at HV4.out.1 1
                go_wp2_with fail
                exact ⟨⟨j + 1, by omega, by omega, by go_num, by rw [HNx.out], HF3, HAJ.out, HV4.out.1, HV4.out.2⟩, by simp [intOf]; omega⟩
        · obtain rfl : j = k + 1 := by omega
          rw [show k + 1 - 1 = k from rfl]
          have HN : Hid (numR MX (S.extract a S.size) = (val (((S.data.toList.drop a).drop 1).take k), 0, S.extract (a + 1 + k) S.size)) := Lib.hid (by
            have := pn_ok S a hpos (by rw [HK.out.1]; omega) (by
              by_cases h2 : k = 0
              · exact .inl (by rw [HK.out.1, h2])
              · exact .inr (.inr (HF.out (by omega)))) (by rw [HK.out.1]; omega)
            rw [HK.out.1] at this
            exact this)
          generalize val (((S.data.toList.drop a).drop 1).take k) = n at *
          have g1 : ¬ ((k + 1 : Nat) : Int) ≤ (k : Int) := by omega
          obtain ⟨z, hz⟩ : ∃ z : Nat, z = a + 1 + k := ⟨_, rfl⟩
          have g2 : (a : Int) + 1 + (k : Int) = (z : Int) := by omega
          have g3 : z ≤ S.size := by omega
          have g5 : (z : Int) ≤ (S.size : Int) := by omega
          have HZ := Lib.hid hz
          clear hlt HF hz
          go_wp2_with fail
          go_ret
          refine ⟨by rw [HN.out]; rfl, ?_, Hwr.out.2.set 1 _⟩
          rw [HN.out]
          exact ⟨z, g3, by rw [HZ.out]; rfl, by have := set_at Hwr.out.1 1 (.int .i64 (z : Int)); simpa [R2.after] using this⟩
end Go.Proofs.YtnjcenbmdcogpaaGreatDoor.Rd
/- The page's reader: text, many, Num, Text, End. -/
namespace Go.Proofs.YtnjcenbmdcogpaaGreatDoor.Rd
open Go Go.RowKit Num Texts

theorem numR_MX (m : Nat) (s : ByteArray) : numR m s = if (numR MX s).2.1 ≠ 0 then ((0, (numR MX s).2.1, s) : Nat × Int × ByteArray) else if m < (numR MX s).1 then (0, 5, s) else numR MX s := by
  unfold numR
  split
  · rfl
  · dsimp only
    split
    · rfl
    · split
      · rfl
      · rename_i h8 _
        have hv : ¬ MX < val ((s.data.toList.drop 1).take (s.data.toList.getD 0 0).toNat) := by
          have : val ((s.data.toList.drop 1).take (s.data.toList.getD 0 0).toNat) < 18446744073709551616 := Nat.lt_of_lt_of_le (val_lt _ 8 (by rw [List.length_take]; omega)) (by decide)
          show ¬ 18446744073709551615 < _
          omega
        rw [if_neg hv]
        rfl
theorem pnumber_any (R : Nat) (S : ByteArray) (r : R2) (hb : r.b = 0) (hs : S.size ≤ 1099511627776) (W : World) (hR : PLies W R S r) :
    Calls Tryz.prog 91 #[.pointer (some ⟨R, 0, none⟩)] W fun e w' => e = .returned (.int .u64 ((numR MX r.s).1 : Int)) ∧ PLies w' R S (R2.after (numR MX r.s).2.1 (numR MX r.s).2.2) ∧ Only R W w' := by
  obtain ⟨a, h1, h2, h3⟩ := hR
  rw [h2]
  rw [hb] at h3
  exact pnumber_at R S a h1 hs W h3
set_option maxRecDepth 20000 in
theorem many_any (m : Nat) (hm : m < 9223372036854775808) (W : World) :
    Calls Tryz.prog 92 #[.int .i64 (m : Int)] W fun e w' => e = .returned (.int .u64 (m : Int)) ∧ w' = W := by
  have h0 : ¬ (m : Int) < 0 := by omega
  have h1 : (m : Int) < 9223372036854775808 := by omega
  clear hm
  go_enter Tryz.func92, Tryz.ntmps92
  go_wp2
  go_ret
  exact ⟨rfl, rfl⟩

theorem ext_pre (S : ByteArray) (a n : Nat) : (S.extract a S.size).extract 0 n = S.extract a (a + n) := by
  apply ByteArray.ext
  apply Array.toList_inj.1
  rw [Lib.extract_data, ext_of, Lib.extract_data, List.drop_zero]
  congr 1
  omega

set_option maxRecDepth 20000 in
set_option maxHeartbeats 1000000 in
theorem pnum_any (R : Nat) (S : ByteArray) (r : R2) (m : Nat) (hs : S.size ≤ 1099511627776) (W : World) (hR : PLies W R S r) :
    Calls Tryz.prog 95 #[.pointer (some ⟨R, 0, none⟩), .int .u64 (m : Int)] W fun e w' => e = .returned (.int .u64 ((r.num m).1 : Int)) ∧ PLies w' R S (r.num m).2 ∧ Only R W w' := by
  obtain ⟨s, b⟩ := r
  by_cases hb : b = 0
  · subst hb
    have hnum : (⟨s, 0⟩ : R2).num m = ((numR m s).1, R2.after (numR m s).2.1 (numR m s).2.2) := by unfold R2.num; rw [if_pos rfl]
    have hpn := pnumber_any R S ⟨s, 0⟩ rfl hs W hR
    have hmx := numR_MX m s
    have hv := numR_val MX s
    dsimp only at hpn
    obtain ⟨a, ha, hse, hpl⟩ := hR
    have c2 : W.cell? ⟨R, 2, none⟩ = some (.int .i64 0) := cell_at hpl 2
    rw [hnum]
    generalize numR MX s = x at *
    obtain ⟨n, e, s1⟩ := x
    dsimp only at hpn hmx hv
    have HX := Lib.hid hmx
    have HP := Lib.hid hpn
    have hvi : (n : Int) ≤ 18446744073709551615 := by unfold MX at hv; omega
    clear hmx hpn hnum hpl hv
    go_enter Tryz.func95, Tryz.ntmps95
    go_wp2_with fail
    refine HP.out.mono ?_
    rintro _ w1 ⟨rfl, hR1, hO⟩
    have HO := Lib.hid hO
    clear hO c2
    by_cases he : e = 0
    · subst he
      obtain ⟨a1, ha1, hse1, hpl1⟩ := hR1
      have c2 : w1.cell? ⟨R, 2, none⟩ = some (.int .i64 0) := cell_at hpl1 2
      by_cases hmn : m < n
      · have hmi : (m : Int) < (n : Int) := by omega
        have HN : Hid (numR m s = (0, 5, s)) := Lib.hid (by rw [HX.out, if_neg (by simp), if_pos hmn])
        have HPl := Lib.hid hpl1
        clear hmn hpl1
        go_wp2_with fail
        refine (pfail_any R S a1 0 5 hs w1 HPl.out).mono ?_
        rintro _ w2 ⟨rfl, hR2, hO2⟩
        have HR2 := Lib.hid hR2
        have HO2 := Lib.hid (HO.out.trans hO2)
        obtain ⟨a2, ha2, hse2, hpl2⟩ := hR2
        have d2 : w2.cell? ⟨R, 2, none⟩ = some (.int .i64 5) := cell_at hpl2 2
        clear hO2 hpl2 c2
        go_wp2
        go_ret
        exact ⟨by rw [HN.out]; rfl, by rw [HN.out]; exact HR2.out, HO2.out⟩
      · have hmi : ¬ (m : Int) < (n : Int) := by omega
        have HN : Hid (numR m s = (n, 0, s1)) := Lib.hid (by rw [HX.out, if_neg (by simp), if_neg hmn])
        have HPl := Lib.hid hpl1
        clear hmn hpl1
        go_wp2
        go_ret
        exact ⟨by rw [HN.out]; rfl, by rw [HN.out]; exact ⟨a1, ha1, hse1, HPl.out⟩, HO.out⟩
    · have HN : Hid (numR m s = (0, e, s)) := Lib.hid (by rw [HX.out, if_pos he])
      have he2 : (e == 0) = false := by simpa using he
      have HR1 := Lib.hid hR1
      obtain ⟨a1, ha1, hse1, hpl1⟩ := hR1
      rw [after_bad e s1 he] at hpl1
      have c2 : w1.cell? ⟨R, 2, none⟩ = some (.int .i64 e) := cell_at hpl1 2
      clear hpl1 hse1
      go_wp2
      go_ret
      exact ⟨by rw [HN.out]; rfl, by rw [HN.out]; have := HR1.out; rw [after_bad e s1 he] at this; rw [after_bad e s he]; exact this, HO.out⟩
  · have hnum : (⟨s, b⟩ : R2).num m = (0, ⟨s, b⟩) := by unfold R2.num; rw [if_neg hb]
    rw [hnum]
    have hb2 : (b == 0) = false := by simpa using hb
    have HR := Lib.hid hR
    obtain ⟨a, ha, hse, hpl⟩ := hR
    have c2 : W.cell? ⟨R, 2, none⟩ = some (.int .i64 b) := cell_at hpl 2
    clear hpl hnum hse ha
    go_enter Tryz.func95, Tryz.ntmps95
    go_wp2
    go_ret
    exact ⟨rfl, HR.out, Only.refl _ _⟩

set_option maxRecDepth 20000 in
set_option maxHeartbeats 2000000 in
theorem ptext_in (R : Nat) (S s : ByteArray) (m : Nat) (hm : m < 18446744073709551616) (hs : S.size ≤ 1099511627776) (W : World) (hR : PLies W R S ⟨s, 0⟩) :
    Calls Tryz.prog 94 #[.pointer (some ⟨R, 0, none⟩), .int .u64 (m : Int)] W fun e w' => e = .returned (.string (textR m s).1) ∧ PLies w' R S (R2.after (textR m s).2.1 (textR m s).2.2) ∧ Only R W w' := by
  have hpn := pnumber_any R S ⟨s, 0⟩ rfl hs W hR
  have hv := numR_val MX s
  have ht : textR m s = (let x := numR MX s; if x.2.1 ≠ 0 then ((⟨#[]⟩, x.2.1, x.2.2) : ByteArray × Int × ByteArray) else if m < x.1 then (⟨#[]⟩, 4, x.2.2) else if x.2.2.size < x.1 then (⟨#[]⟩, 2, x.2.2) else (x.2.2.extract 0 x.1, 0, x.2.2.extract x.1 x.2.2.size)) := rfl
  dsimp only at hpn
  obtain ⟨T, hT⟩ : ∃ T, T = textR m s := ⟨_, rfl⟩
  rw [← hT] at ht ⊢
  generalize numR MX s = x at *
  obtain ⟨n, e, s1⟩ := x
  dsimp only at hpn ht hv
  have HT := Lib.hid ht
  have HP := Lib.hid hpn
  have hvi : (n : Int) ≤ 18446744073709551615 := by unfold MX at hv; omega
  have hmi2 : (m : Int) ≤ 18446744073709551615 := by omega
  have hs0 : (S.size : Int) ≤ 1099511627776 := by omega
  clear hpn hR hv ht hT hm
  go_enter Tryz.func94, Tryz.ntmps94
  go_wp2_with fail
  refine HP.out.mono ?_
  rintro _ w1 ⟨rfl, hR1, hO⟩
  have HO := Lib.hid hO
  clear hO HP
  by_cases he : e = 0
  · subst he
    obtain ⟨a1, ha1, hse1, hpl1⟩ := hR1
    have hs1 : s1 = S.extract a1 S.size := hse1
    have hpl2 : PLc w1 R S a1 0 := hpl1
    have HPl := Lib.hid (And.intro hpl2 hs1)
    have hz := ext_size S a1
    rw [← hs1] at hz
    have c0 : w1.cell? ⟨R, 0, none⟩ = some (.string S) := cell_at hpl2 0
    have c1 : w1.cell? ⟨R, 1, none⟩ = some (.int .i64 (a1 : Int)) := cell_at hpl2 1
    have c2 : w1.cell? ⟨R, 2, none⟩ = some (.int .i64 0) := cell_at hpl2 2
    have f1 := free_at hpl2 1
    clear hpl1 hse1 hpl2 hs1
    by_cases hmn : m < n
    · have hmi : (m : Int) < (n : Int) := by omega
      have HN : Hid (T = (⟨#[]⟩, 4, s1)) := Lib.hid (by rw [HT.out, if_neg (by simp), if_pos hmn])
      clear hmn HT hz
      go_wp2_with fail
      refine (pfail_any R S a1 0 4 hs w1 HPl.out.1).mono ?_
      rintro _ w2 ⟨rfl, hR2, hO2⟩
      have HR2 := Lib.hid hR2
      have HO2 := Lib.hid (HO.out.trans hO2)
      clear hO2 c0 c1 c2 f1 hR2
      go_wp2
      go_ret
      exact ⟨by rw [HN.out]; rfl, by rw [HN.out]; exact HR2.out, HO2.out⟩
    · have hmi : ¬ (m : Int) < (n : Int) := by omega
      obtain ⟨z, hzz⟩ : ∃ z : Nat, z = s1.size := ⟨_, rfl⟩
      have e1 : (S.size : Int) - (a1 : Int) = (z : Int) := by omega
      have hz1 : (z : Int) ≤ 1099511627776 := by omega
      have hz0 : (0 : Int) ≤ (z : Int) := by omega
      have ha0 : (0 : Int) ≤ (a1 : Int) := by omega
      have ha2 : (a1 : Int) ≤ (S.size : Int) := by omega
      by_cases hl : z < n
      · have hli : (z : Int) < (n : Int) := by omega
        have HN : Hid (T = (⟨#[]⟩, 2, s1)) := Lib.hid (by rw [HT.out, if_neg (by simp), if_neg hmn, if_pos (by omega)])
        clear hmn HT hz hl hzz
        go_wp2_with fail
        go_quiet (fail)
        obtain ⟨w2, hw2⟩ : ∃ X, X = w1.drewN nq := ⟨_, rfl⟩
        rw [← hw2]
        have HQ := Lib.hid (show PLc w2 R S a1 0 ∧ Only R W w2 by rw [hw2]; exact ⟨HPl.out.1, HO.out.drewN nq⟩)
        clear hw2 c0 c1 c2 f1
        clear nq
        go_wp2_with fail
        refine (pfail_any R S a1 0 2 hs w2 HQ.out.1).mono ?_
        rintro _ w3 ⟨rfl, hR2, hO2⟩
        have HR2 := Lib.hid hR2
        have HO2 := Lib.hid (HQ.out.2.trans hO2)
        clear hO2 hR2
        go_wp2
        go_ret
        exact ⟨by rw [HN.out]; rfl, by rw [HN.out]; exact HR2.out, HO2.out⟩
      · have hli : ¬ (z : Int) < (n : Int) := by omega
        have hli2 : (n : Int) ≤ (z : Int) := by omega
        have HN : Hid (T = (s1.extract 0 n, 0, s1.extract n s1.size)) := Lib.hid (by rw [HT.out, if_neg (by simp), if_neg hmn, if_neg (by omega)])
        obtain ⟨q, hq⟩ : ∃ q : Nat, q = a1 + n := ⟨_, rfl⟩
        have e2 : (a1 : Int) + (n : Int) = (q : Int) := by omega
        have hqs : (q : Int) ≤ (S.size : Int) := by omega
        have hqa : (a1 : Int) ≤ (q : Int) := by omega
        have hqs2 : q ≤ S.size := by omega
        have hqa2 : a1 ≤ q := by omega
        have HZ := Lib.hid hq
        clear hmn HT hz hl hzz hq
        go_wp2_with fail
        go_quiet (fail)
        obtain ⟨w2, hw2⟩ : ∃ X, X = w1.drewN nq := ⟨_, rfl⟩
        rw [← hw2]
        have HQ := Lib.hid (show PLc w2 R S a1 0 ∧ Only R W w2 by rw [hw2]; exact ⟨HPl.out.1, HO.out.drewN nq⟩)
        clear hw2 c0 c1 c2 f1
        clear nq
        have c0 : w2.cell? ⟨R, 0, none⟩ = some (.string S) := cell_at HQ.out.1 0
        have c1 : w2.cell? ⟨R, 1, none⟩ = some (.int .i64 (a1 : Int)) := cell_at HQ.out.1 1
        have f1 := free_at HQ.out.1 1
        go_wp2_with fail
        have HQ3 : PLc (w2.setCell ⟨R, 1, none⟩ (.int .i64 (q : Int))) R S q 0 := set_at HQ.out.1 1 (.int .i64 (q : Int))
        have HO3 := HQ.out.2.set 1 (.int .i64 (q : Int))
        generalize w2.setCell ⟨R, 1, none⟩ (.int .i64 (q : Int)) = w3 at *
        have HQ4 := Lib.hid (And.intro HQ3 HO3)
        clear HQ3 HO3 c0 c1 f1
        have c0 : w3.cell? ⟨R, 0, none⟩ = some (.string S) := cell_at HQ4.out.1 0
        have c1 : w3.cell? ⟨R, 1, none⟩ = some (.int .i64 (q : Int)) := cell_at HQ4.out.1 1
        go_quiet (fail)
        obtain ⟨w4, hw4⟩ : ∃ X, X = w3.drewN nq := ⟨_, rfl⟩
        rw [← hw4]
        have HQ5 := Lib.hid (show PLc w4 R S q 0 ∧ Only R W w4 by rw [hw4]; exact ⟨HQ4.out.1, HQ4.out.2.drewN nq⟩)
        clear hw4 c0 c1
        clear nq
        go_wp2
        go_ret
        refine ⟨?_, ?_, HQ5.out.2⟩
        · rw [HN.out, HPl.out.2, ext_pre, ← HZ.out]; rfl
        · rw [HN.out]
          exact ⟨q, hqs2, by rw [HPl.out.2]; show (S.extract a1 S.size).extract n (S.extract a1 S.size).size = _; rw [ext_ext, ← HZ.out], HQ5.out.1⟩
  · have HN : Hid (T = (⟨#[]⟩, e, s1)) := Lib.hid (by rw [HT.out, if_pos he])
    have he2 : (e == 0) = false := by simpa using he
    have HR1 := Lib.hid hR1
    obtain ⟨a1, ha1, hse1, hpl1⟩ := hR1
    rw [after_bad e s1 he] at hpl1
    have c2 : w1.cell? ⟨R, 2, none⟩ = some (.int .i64 e) := cell_at hpl1 2
    clear hpl1 hse1
    go_wp2
    go_ret
    exact ⟨by rw [HN.out]; rfl, by rw [HN.out]; exact HR1.out, HO.out⟩

set_option maxRecDepth 20000 in
set_option maxHeartbeats 1000000 in
theorem pText_any (R : Nat) (S : ByteArray) (r : R2) (m : Nat) (hm : m < 9223372036854775808) (hs : S.size ≤ 1099511627776) (W : World) (hR : PLies W R S r) :
    Calls Tryz.prog 125 #[.pointer (some ⟨R, 0, none⟩), .int .i64 (m : Int)] W fun e w' => e = .returned (.string (r.text m).1) ∧ PLies w' R S (r.text m).2 ∧ Only R W w' := by
  obtain ⟨s, b⟩ := r
  have HR := Lib.hid hR
  obtain ⟨a, ha, hse, hpl⟩ := hR
  by_cases hb : b = 0
  · subst hb
    have hnum : (⟨s, 0⟩ : R2).text m = ((textR m s).1, R2.after (textR m s).2.1 (textR m s).2.2) := by unfold R2.text; rw [if_pos rfl]
    have c2 : W.cell? ⟨R, 2, none⟩ = some (.int .i64 0) := cell_at hpl 2
    rw [hnum]
    have HT := Lib.hid (ptext_in R S s m (by omega) hs W HR.out)
    clear hpl hse ha hnum
    go_enter Tryz.func125, Tryz.ntmps125
    go_wp2_with fail
    refine (many_any m hm W).mono ?_
    rintro _ w1 ⟨rfl, hw1⟩
    obtain rfl := hw1.symm
    go_wp2_with fail
    refine HT.out.mono ?_
    rintro _ w2 ⟨rfl, hR2, hO2⟩
    go_wp2
    go_ret
    exact ⟨rfl, hR2, hO2⟩
  · have hnum : (⟨s, b⟩ : R2).text m = (⟨#[]⟩, ⟨s, b⟩) := by unfold R2.text; rw [if_neg hb]
    rw [hnum]
    have hb2 : (b == 0) = false := by simpa using hb
    have c2 : W.cell? ⟨R, 2, none⟩ = some (.int .i64 b) := cell_at hpl 2
    clear hpl hnum hse ha
    go_enter Tryz.func125, Tryz.ntmps125
    go_wp2
    go_ret
    exact ⟨rfl, HR.out, Only.refl _ _⟩

set_option maxRecDepth 20000 in
set_option maxHeartbeats 1000000 in
theorem pend_any (R : Nat) (S : ByteArray) (r : R2) (hs : S.size ≤ 1099511627776) (W : World) (hR : PLies W R S r) :
    Calls Tryz.prog 64 #[.pointer (some ⟨R, 0, none⟩)] W fun e w' => e = .returned (.int .i64 r.end') ∧ PLies w' R S r ∧ Only R W w' := by
  obtain ⟨s, b⟩ := r
  have HR := Lib.hid hR
  obtain ⟨a, ha, hse, hpl⟩ := hR
  have hse1 : s = S.extract a S.size := hse
  have hz := ext_size S a
  rw [← hse1] at hz
  have hend : (⟨s, b⟩ : R2).end' = if b = 0 ∧ 0 < s.size then 4 else b := rfl
  have c0 : W.cell? ⟨R, 0, none⟩ = some (.string S) := cell_at hpl 0
  have c1 : W.cell? ⟨R, 1, none⟩ = some (.int .i64 (a : Int)) := cell_at hpl 1
  have c2 : W.cell? ⟨R, 2, none⟩ = some (.int .i64 b) := cell_at hpl 2
  have hs0 : (S.size : Int) ≤ 1099511627776 := by omega
  have hd : ∀ n, PLies (W.drewN n) R S ⟨s, b⟩ ∧ Only R W (W.drewN n) := fun n => ⟨HR.out, (Only.refl R W).drewN n⟩
  have HD := Lib.hid hd
  rw [hend]
  by_cases hb : b = 0
  · subst hb
    by_cases hl : a < S.size
    · have hli : (a : Int) < (S.size : Int) := by omega
      rw [if_pos ⟨rfl, by omega⟩]
      clear hpl hse hse1 hend hl hd hz
      go_enter Tryz.func64, Tryz.ntmps64
      go_wp2_with fail
      go_quiet (fail)
      have h5 := HD.out nq
      generalize W.drewN nq = w2 at *
      clear c0 c1 c2
      go_wp2
      go_ret
      exact ⟨rfl, h5.1, h5.2⟩
    · have hli : ¬ (a : Int) < (S.size : Int) := by omega
      have hln : decide ((a : Int) < (S.size : Int)) = false := by simpa using hli
      have hln2 : decide (a < S.size) = false := by simpa using hl
      rw [if_neg (fun h => by omega)]
      clear hpl hse hse1 hend hl hd hz
      go_enter Tryz.func64, Tryz.ntmps64
      go_wp2_with fail
      go_quiet (fail)
      have h5 := HD.out nq
      have c2 : (W.drewN nq).cell? ⟨R, 2, none⟩ = some (.int .i64 0) := c2
      generalize W.drewN nq = w2 at *
      have H5 := Lib.hid h5
      clear h5
      go_wp2
      go_ret
      exact ⟨rfl, H5.out.1, H5.out.2⟩
  · have hb2 : (b == 0) = false := by simpa using hb
    have hb3 : decide (b = 0) = false := by simpa using hb
    rw [if_neg (fun h => hb h.1)]
    clear hpl hse hse1 hend hd hz
    go_enter Tryz.func64, Tryz.ntmps64
    go_wp2_with fail
    go_quiet (fail)
    have h5 := HD.out nq
    have c2 : (W.drewN nq).cell? ⟨R, 2, none⟩ = some (.int .i64 b) := c2
    generalize W.drewN nq = w2 at *
    have H5 := Lib.hid h5
    clear h5
    go_wp2
    go_ret
    exact ⟨rfl, H5.out.1, H5.out.2⟩
end Go.Proofs.YtnjcenbmdcogpaaGreatDoor.Rd
/- The page's Take of packets. -/
namespace Go.Proofs.YtnjcenbmdcogpaaGreatDoor.Rd
open Go Go.RowKit Num Texts Packet

theorem PLies.heap {W W' : World} {R : Nat} {S : ByteArray} {r : R2} (h : PLies W R S r) (he : W'.heap[R]? = W.heap[R]?) : PLies W' R S r := by
  obtain ⟨a, h1, h2, h3⟩ := h
  exact ⟨a, h1, h2, he.trans h3⟩
theorem PLies.lt {W : World} {R : Nat} {S : ByteArray} {r : R2} (h : PLies W R S r) : R < W.heap.size := by
  obtain ⟨a, h1, h2, h3⟩ := h
  exact (Array.getElem?_eq_some_iff.1 h3).1
theorem PLies.off {W : World} {R n i : Nat} {S : ByteArray} {r : R2} (h : PLies W R S r) (hne : R ≠ n) (u : Value) : PLies (W.setCell ⟨n, i, none⟩ u) R S r :=
  h.heap (Below.heap_setCell _ _ _ _ (fun e => hne e))
theorem PLies.err {W : World} {R : Nat} {S : ByteArray} {r : R2} (h : PLies W R S r) : W.cell? ⟨R, 2, none⟩ = some (.int .i64 r.b) := by
  obtain ⟨a, h1, h2, h3⟩ := h
  exact cell_at h3 2
/-- an error leaves nothing -/
def R2.okay (r : R2) : Prop := r.b ≠ 0 → r.s = ⟨#[]⟩
theorem R2.after_okay (e : Int) (s : ByteArray) : (R2.after e s).okay := by
  unfold R2.after R2.okay
  split
  · intro h; exact absurd rfl h
  · intro _; rfl
theorem R2.num_okay (r : R2) (m : Nat) (h : r.okay) : (r.num m).2.okay := by
  unfold R2.num
  split
  · exact R2.after_okay _ _
  · exact h
theorem R2.text_okay (r : R2) (m : Nat) (h : r.okay) : (r.text m).2.okay := by
  unfold R2.text
  split
  · exact R2.after_okay _ _
  · exact h
theorem R2.failed_iff (r : R2) (h : r.okay) : r.failed = !(r.b == 0) := by
  obtain ⟨s, b⟩ := r
  by_cases hb : b = 0
  · subst hb
    rw [R2.failed_ok]; rfl
  · have hs : s = ⟨#[]⟩ := h hb
    subst hs
    unfold R2.failed R2.end'
    have e : ((⟨#[]⟩ : ByteArray)).size = 0 := rfl
    rw [e, if_neg (fun h => hb h.1)]
    have : (b == 0) = false := by simpa using hb
    rw [this]
    simp [hb]
theorem R2.packet_okay (r : R2) (h : r.okay) : r.packet.2.okay := R2.text_okay _ _ (R2.num_okay _ _ (R2.num_okay _ _ (R2.num_okay _ _ (R2.num_okay _ _ h))))

set_option maxRecDepth 20000 in
set_option maxHeartbeats 2000000 in
theorem ptake_any (R : Nat) (S : ByteArray) (r : R2) (hok : r.okay) (hs : S.size ≤ 1099511627776) (W : World) (hR : PLies W R S r) :
    Calls Tryz.prog 96 #[.pointer (some ⟨R, 0, none⟩)] W
      fun e w' => e = .returned (.agg r.packet.1.cells) ∧ PLies w' R S r.packet.2 ∧ Only R W w' := by
  have hlt := hR.lt
  obtain ⟨W0, hW0⟩ : ∃ X, X = (W.alloc (.cells #[.int .i64 0, .int .i64 0, .int .u64 0, .int .u64 0, .string ⟨#[]⟩] 24)).alloc (.cells #[.int .i64 0, .int .i64 0, .int .u64 0, .int .u64 0, .string ⟨#[]⟩] 24) := ⟨_, rfl⟩
  have hA : W0.heap[W.heap.size]? = some (.cells #[.int .i64 0, .int .i64 0, .int .u64 0, .int .u64 0, .string ⟨#[]⟩] 24 (0, 0)) := by
    rw [hW0, Below.heap_alloc _ _ _ (by simp)]; exact heap_alloc_new _ _
  have hB : W0.heap[W.heap.size + 1]? = some (.cells #[.int .i64 0, .int .i64 0, .int .u64 0, .int .u64 0, .string ⟨#[]⟩] 24 (0, 0)) := by
    have := heap_alloc_new (W.alloc (.cells #[.int .i64 0, .int .i64 0, .int .u64 0, .int .u64 0, .string ⟨#[]⟩] 24)) (.cells #[.int .i64 0, .int .i64 0, .int .u64 0, .int .u64 0, .string ⟨#[]⟩] 24)
    rw [hW0]; simpa using this
  have hO : Only R W W0 := by rw [hW0]; exact ((Only.refl R W).alloc _).alloc _
  have hR0 : PLies W0 R S r := hR.heap (by rw [hW0, Below.heap_alloc _ _ _ (by simp; omega), Below.heap_alloc _ _ _ hlt])
  have H0 := Lib.hid hA
  have HB0 := Lib.hid hB
  have HO0 := Lib.hid hO
  have HR0 := Lib.hid hR0
  have HOK := Lib.hid (R2.packet_okay r hok)
  clear hA hB hO hR0 hR hok
  have hpk : r.packet = (let a := r.num 3
    let b := a.2.num 1
    let c := b.2.num 18446744073709551615
    let d := c.2.num 18446744073709551615
    let e := d.2.text 64
    (if e.2.failed then zeroP else ⟨(a.1 : Int), (b.1 : Int), (c.1 : Int), (d.1 : Int), e.1⟩, e.2)) := rfl
  generalize r.packet = PK at hpk HOK ⊢
  have HP := Lib.hid hpk
  clear hpk
  go_enter Tryz.func96, Tryz.ntmps96
  go_upto_region 2 with fail
  rw [← hW0]
  clear hW0
  go_wp2_with fail
  refine (pnum_any R S r 3 hs _ HR0.out).mono ?_
  rintro _ w1 ⟨rfl, hR, hO⟩
  have hA := (hO.block _ (Array.getElem?_eq_some_iff.1 H0.out).1 (by omega)).trans H0.out
  have hB := (hO.block _ (Array.getElem?_eq_some_iff.1 HB0.out).1 (by omega)).trans HB0.out
  have hOO := HO0.out.trans hO
  have hn0 : (r.num 3).1 ≤ 3 := R2.num_val _ _
  generalize r.num 3 = x at *
  obtain ⟨n0, r1⟩ := x
  dsimp only at *
  have hi0 : (n0 : Int) ≤ 3 := by omega
  have cB : w1.cell? ⟨W.heap.size + 1, 0, none⟩ = some (.int .i64 0) := cell_at hB 0
  have fB := free_at hB 0
  have hRn := hR.off (i := 0) (show R ≠ W.heap.size + 1 by omega) (.int .i64 (n0 : Int))
  have hAn := set_off (i := 0) hA (show W.heap.size ≠ W.heap.size + 1 by omega) (.int .i64 (n0 : Int))
  have hBn := set_at hB 0 (.int .i64 (n0 : Int))
  have hOn := hOO.setNew (show W.heap.size ≤ W.heap.size + 1 by omega) 0 (.int .i64 (n0 : Int))
  obtain ⟨V1, hV⟩ : ∃ X, X = w1.setCell ⟨W.heap.size + 1, 0, none⟩ (.int .i64 (n0 : Int)) := ⟨_, rfl⟩
  rw [← hV] at hRn hAn hBn hOn
  have HR1 := Lib.hid hRn
  have H1 := Lib.hid hAn
  have HB1 := Lib.hid (show V1.heap[W.heap.size + 1]? = some (.cells #[.int .i64 (n0 : Int), .int .i64 0, .int .u64 0, .int .u64 0, .string ⟨#[]⟩] 24 (0, 0)) from hBn)
  have HO1 := Lib.hid hOn
  have HV := Lib.hid hV
  clear hR hA hB hOO hO hRn hAn hBn hOn hV HR0 H0 HB0 HO0
  go_upto_region 3 with fail
  rw [← HV.out]
  clear HV cB fB
  go_wp2_with fail
  refine (pnum_any R S r1 1 hs _ HR1.out).mono ?_
  rintro _ w2 ⟨rfl, hR, hO⟩
  have hA := (hO.block _ (Array.getElem?_eq_some_iff.1 H1.out).1 (by omega)).trans H1.out
  have hB := (hO.block _ (Array.getElem?_eq_some_iff.1 HB1.out).1 (by omega)).trans HB1.out
  have hOO := HO1.out.trans hO
  have hn1 : (r1.num 1).1 ≤ 1 := R2.num_val _ _
  generalize r1.num 1 = x at *
  obtain ⟨n1, r2⟩ := x
  dsimp only at *
  have hi1 : (n1 : Int) ≤ 1 := by omega
  have cB : w2.cell? ⟨W.heap.size + 1, 1, none⟩ = some (.int .i64 0) := cell_at hB 1
  have fB := free_at hB 1
  have hRn := hR.off (i := 1) (show R ≠ W.heap.size + 1 by omega) (.int .i64 (n1 : Int))
  have hAn := set_off (i := 1) hA (show W.heap.size ≠ W.heap.size + 1 by omega) (.int .i64 (n1 : Int))
  have hBn := set_at hB 1 (.int .i64 (n1 : Int))
  have hOn := hOO.setNew (show W.heap.size ≤ W.heap.size + 1 by omega) 1 (.int .i64 (n1 : Int))
  obtain ⟨V2, hV⟩ : ∃ X, X = w2.setCell ⟨W.heap.size + 1, 1, none⟩ (.int .i64 (n1 : Int)) := ⟨_, rfl⟩
  rw [← hV] at hRn hAn hBn hOn
  have HR2 := Lib.hid hRn
  have H2 := Lib.hid hAn
  have HB2 := Lib.hid (show V2.heap[W.heap.size + 1]? = some (.cells #[.int .i64 (n0 : Int), .int .i64 (n1 : Int), .int .u64 0, .int .u64 0, .string ⟨#[]⟩] 24 (0, 0)) from hBn)
  have HO2 := Lib.hid hOn
  have HV := Lib.hid hV
  clear hR hA hB hOO hO hRn hAn hBn hOn hV HR1 H1 HB1 HO1
  go_upto_region 4 with fail
  rw [← HV.out]
  clear HV cB fB
  go_wp2_with fail
  refine (pnum_any R S r2 18446744073709551615 hs _ HR2.out).mono ?_
  rintro _ w3 ⟨rfl, hR, hO⟩
  have hA := (hO.block _ (Array.getElem?_eq_some_iff.1 H2.out).1 (by omega)).trans H2.out
  have hB := (hO.block _ (Array.getElem?_eq_some_iff.1 HB2.out).1 (by omega)).trans HB2.out
  have hOO := HO2.out.trans hO
  have hn2 : (r2.num 18446744073709551615).1 ≤ 18446744073709551615 := R2.num_val _ _
  generalize r2.num 18446744073709551615 = x at *
  obtain ⟨n2, r3⟩ := x
  dsimp only at *
  have cB : w3.cell? ⟨W.heap.size + 1, 2, none⟩ = some (.int .u64 0) := cell_at hB 2
  have fB := free_at hB 2
  have hRn := hR.off (i := 2) (show R ≠ W.heap.size + 1 by omega) (.int .u64 (n2 : Int))
  have hAn := set_off (i := 2) hA (show W.heap.size ≠ W.heap.size + 1 by omega) (.int .u64 (n2 : Int))
  have hBn := set_at hB 2 (.int .u64 (n2 : Int))
  have hOn := hOO.setNew (show W.heap.size ≤ W.heap.size + 1 by omega) 2 (.int .u64 (n2 : Int))
  obtain ⟨V3, hV⟩ : ∃ X, X = w3.setCell ⟨W.heap.size + 1, 2, none⟩ (.int .u64 (n2 : Int)) := ⟨_, rfl⟩
  rw [← hV] at hRn hAn hBn hOn
  have HR3 := Lib.hid hRn
  have H3 := Lib.hid hAn
  have HB3 := Lib.hid (show V3.heap[W.heap.size + 1]? = some (.cells #[.int .i64 (n0 : Int), .int .i64 (n1 : Int), .int .u64 (n2 : Int), .int .u64 0, .string ⟨#[]⟩] 24 (0, 0)) from hBn)
  have HO3 := Lib.hid hOn
  have HV := Lib.hid hV
  clear hR hA hB hOO hO hRn hAn hBn hOn hV HR2 H2 HB2 HO2
  go_upto_region 5 with fail
  rw [← HV.out]
  clear HV cB fB
  go_wp2_with fail
  refine (pnum_any R S r3 18446744073709551615 hs _ HR3.out).mono ?_
  rintro _ w4 ⟨rfl, hR, hO⟩
  have hA := (hO.block _ (Array.getElem?_eq_some_iff.1 H3.out).1 (by omega)).trans H3.out
  have hB := (hO.block _ (Array.getElem?_eq_some_iff.1 HB3.out).1 (by omega)).trans HB3.out
  have hOO := HO3.out.trans hO
  have hn3 : (r3.num 18446744073709551615).1 ≤ 18446744073709551615 := R2.num_val _ _
  generalize r3.num 18446744073709551615 = x at *
  obtain ⟨n3, r4⟩ := x
  dsimp only at *
  have cB : w4.cell? ⟨W.heap.size + 1, 3, none⟩ = some (.int .u64 0) := cell_at hB 3
  have fB := free_at hB 3
  have hRn := hR.off (i := 3) (show R ≠ W.heap.size + 1 by omega) (.int .u64 (n3 : Int))
  have hAn := set_off (i := 3) hA (show W.heap.size ≠ W.heap.size + 1 by omega) (.int .u64 (n3 : Int))
  have hBn := set_at hB 3 (.int .u64 (n3 : Int))
  have hOn := hOO.setNew (show W.heap.size ≤ W.heap.size + 1 by omega) 3 (.int .u64 (n3 : Int))
  obtain ⟨V4, hV⟩ : ∃ X, X = w4.setCell ⟨W.heap.size + 1, 3, none⟩ (.int .u64 (n3 : Int)) := ⟨_, rfl⟩
  rw [← hV] at hRn hAn hBn hOn
  have HR4 := Lib.hid hRn
  have H4 := Lib.hid hAn
  have HB4 := Lib.hid (show V4.heap[W.heap.size + 1]? = some (.cells #[.int .i64 (n0 : Int), .int .i64 (n1 : Int), .int .u64 (n2 : Int), .int .u64 (n3 : Int), .string ⟨#[]⟩] 24 (0, 0)) from hBn)
  have HO4 := Lib.hid hOn
  have HV := Lib.hid hV
  clear hR hA hB hOO hO hRn hAn hBn hOn hV HR3 H3 HB3 HO3
  go_upto_region 6 with fail
  rw [← HV.out]
  clear HV cB fB
  go_wp2_with fail
  refine (pText_any R S r4 64 (by decide) hs _ HR4.out).mono ?_
  rintro _ w5 ⟨rfl, hR, hO⟩
  have hA := (hO.block _ (Array.getElem?_eq_some_iff.1 H4.out).1 (by omega)).trans H4.out
  have hB := (hO.block _ (Array.getElem?_eq_some_iff.1 HB4.out).1 (by omega)).trans HB4.out
  have hOO := HO4.out.trans hO
  generalize r4.text 64 = x at *
  obtain ⟨d4, r5⟩ := x
  dsimp only at *
  have cB : w5.cell? ⟨W.heap.size + 1, 4, none⟩ = some (.string ⟨#[]⟩) := cell_at hB 4
  have fB := free_at hB 4
  have hRn := hR.off (i := 4) (show R ≠ W.heap.size + 1 by omega) (.string d4)
  have hAn := set_off (i := 4) hA (show W.heap.size ≠ W.heap.size + 1 by omega) (.string d4)
  have hBn := set_at hB 4 (.string d4)
  have hOn := hOO.setNew (show W.heap.size ≤ W.heap.size + 1 by omega) 4 (.string d4)
  obtain ⟨V5, hV⟩ : ∃ X, X = w5.setCell ⟨W.heap.size + 1, 4, none⟩ (.string d4) := ⟨_, rfl⟩
  rw [← hV] at hRn hAn hBn hOn
  have HR5 := Lib.hid hRn
  have H5 := Lib.hid hAn
  have HB5 := Lib.hid (show V5.heap[W.heap.size + 1]? = some (.cells #[.int .i64 (n0 : Int), .int .i64 (n1 : Int), .int .u64 (n2 : Int), .int .u64 (n3 : Int), .string d4] 24 (0, 0)) from hBn)
  have HO5 := Lib.hid hOn
  have HV := Lib.hid hV
  clear hR hA hB hOO hO hRn hAn hBn hOn hV HR4 H4 HB4 HO4
  go_upto_region 7 with fail
  rw [← HV.out]
  clear HV cB fB
  have c2 : V5.cell? ⟨R, 2, none⟩ = some (.int .i64 r5.b) := HR5.out.err
  have hi5 : ∀ C : Array Value, C.size = 5 → (Tryz.prog.info? 24).map (·.size) = some C.size := fun C h => by rw [h]; kernel_rfl
  have hfb : r5.failed = !(r5.b == 0) := R2.failed_iff r5 (by have := HOK.out; rw [HP.out] at this; exact this)
  by_cases hb : r5.b = 0
  · have HP2 : Hid (PK = (⟨(n0 : Int), (n1 : Int), (n2 : Int), (n3 : Int), d4⟩, r5)) := Lib.hid (by rw [HP.out, hfb, hb]; rfl)
    rw [hb] at c2
    clear hfb HP HOK
    obtain ⟨C, hC⟩ : ∃ C : Array Value, C = #[.int .i64 (n0 : Int), .int .i64 (n1 : Int), .int .u64 (n2 : Int), .int .u64 (n3 : Int), .string d4] := ⟨_, rfl⟩
    have HBC := HB5.out
    rw [← hC] at HBC
    have hz : C.size = 5 := by rw [hC]; rfl
    have ho : C.all (·.oneCell') = true := by rw [hC]; exact cells5_one ⟨n0, n1, n2, n3, d4⟩
    have HC := Lib.hid hC
    clear hC HB5
    go_upto_region 9 with fail
    refine wp_region_lit ?_
    refine wpList_load_row rfl 24 _ rfl (W.heap.size + 1) rfl 24 C (0, 0) _ HBC Tryz.underlying24 rfl (hi5 _ hz) ?_
    refine wpList_store_rowTo rfl 24 _ _ rfl rfl W.heap.size C rfl rfl 24 _ H5.out (hi5 _ hz) (by rw [hz]; rfl) ho ?_
    refine wpList_nil ?_
    have HR' := setRow_heap V5 W.heap.size _ C 24 (0, 0) H5.out
    have HRr := HR5.out.heap (setRow_other V5 W.heap.size R C (by omega))
    have HOr := HO5.out.setRow (Nat.le_refl _) C
    obtain ⟨W9, hW9⟩ : ∃ W9, W9 = V5.setRow W.heap.size C := ⟨_, rfl⟩
    rw [← hW9] at HR' HRr HOr ⊢
    clear hW9 H5 HR5 HO5
    go_wp2_with fail
    exact bodyPost_ret (results_cell_row Tryz.results96 _ _ W.heap.size 24 C (0, 0) _ rfl HR' Tryz.underlying24 rfl (hi5 _ hz)) rfl ⟨by rw [HP2.out, HC.out]; rfl, by rw [HP2.out]; exact HRr, HOr⟩
  · have hbf : (r5.b == 0) = false := by simpa using hb
    have HP2 : Hid (PK = (zeroP, r5)) := Lib.hid (by rw [HP.out, hfb, hbf]; rfl)
    clear hfb HP HOK HB5
    go_upto_region 8 with fail
    refine wp_region_lit ?_
    refine wpList_step (fun K hK => ?_)
    go_simp
    refine hK _ _ ?_
    clear hK K
    refine wpList_store_rowTo rfl 24 _ _ rfl rfl W.heap.size zeroP.cells rfl rfl 24 _ H5.out (hi5 _ rfl) rfl (cells5_one _) ?_
    refine wpList_nil ?_
    have HR' := setRow_heap V5 W.heap.size _ zeroP.cells 24 (0, 0) H5.out
    have HRr := HR5.out.heap (setRow_other V5 W.heap.size R zeroP.cells (by omega))
    have HOr := HO5.out.setRow (Nat.le_refl _) zeroP.cells
    obtain ⟨W9, hW9⟩ : ∃ W9, W9 = V5.setRow W.heap.size zeroP.cells := ⟨_, rfl⟩
    rw [← hW9] at HR' HRr HOr ⊢
    clear hW9 H5 HR5 HO5
    go_wp2_with fail
    exact bodyPost_ret (results_cell_row Tryz.results96 _ _ W.heap.size 24 zeroP.cells (0, 0) _ rfl HR' Tryz.underlying24 rfl (hi5 _ rfl)) rfl ⟨by rw [HP2.out], by rw [HP2.out]; exact HRr, HOr⟩
end Go.Proofs.YtnjcenbmdcogpaaGreatDoor.Rd
/- The page's reader: List. -/
namespace Go.Proofs.YtnjcenbmdcogpaaGreatDoor.Rd
open Go Go.RowKit Num Texts

set_option maxRecDepth 20000 in
set_option maxHeartbeats 2000000 in
theorem plist_in (R : Nat) (S s : ByteArray) (m : Nat) (hm : m ≤ 1000000) (hs : S.size ≤ 1099511627776) (W : World) (hR : PLies W R S ⟨s, 0⟩) :
    Calls Tryz.prog 63 #[.pointer (some ⟨R, 0, none⟩), .int .i64 (m : Int)] W
      fun e w' => (∃ v, e = .returned v ∧ w'.ownsRow W.heap.size 9 1 v (listR m s).1.length ((listR m s).1.map Value.string)) ∧ PLies w' R S (R2.after (listR m s).2.1 (listR m s).2.2) ∧ Only R W w' := by
  obtain ⟨i0, hinf, hy0, hy1, hy2⟩ := info_parts infoS
  have hpn := pnumber_any R S ⟨s, 0⟩ rfl hs W hR
  have hv := numR_val 18446744073709551615 s
  obtain ⟨a, ha, hse, hpl⟩ := hR
  have hRlt := (Array.getElem?_eq_some_iff.1 hpl).1
  have c2 : W.cell? ⟨R, 2, none⟩ = some (.int .i64 0) := cell_at hpl 2
  have hl : listR m s = if (numR 18446744073709551615 s).2.1 ≠ 0 then ([], (numR 18446744073709551615 s).2) else if m < (numR 18446744073709551615 s).1 then ([], 4, (numR 18446744073709551615 s).2.2) else textsN (numR 18446744073709551615 s).1 (numR 18446744073709551615 s).2.2 := rfl
  dsimp only at hpn
  generalize listR m s = L at *
  generalize numR 18446744073709551615 s = x at *
  obtain ⟨n, e, s1⟩ := x
  dsimp only at hpn hl hv
  have HP := Lib.hid hpn
  have HL := Lib.hid hl
  have HI := Lib.hid (And.intro hinf (And.intro hy0 (And.intro hy1 hy2)))
  have hvi : (n : Int) ≤ 18446744073709551615 := by omega
  have hmi : (m : Int) ≤ 1000000 := by omega
  clear hpn hl hpl hse ha hv hinf hy0 hy1 hy2
  go_enter Tryz.func63, Tryz.ntmps63
  go_wp2_with fail
  refine HP.out.mono ?_
  rintro _ w1 ⟨rfl, hR1, hO⟩
  have HO := Lib.hid hO
  clear hO c2 HP
  by_cases he : e = 0
  · subst he
    have hR1 : PLies w1 R S ⟨s1, 0⟩ := hR1
    have HR1 := Lib.hid hR1
    obtain ⟨a1, ha1, hse1, hpl1⟩ := hR1
    have c2 : w1.cell? ⟨R, 2, none⟩ = some (.int .i64 0) := cell_at hpl1 2
    have HPl := Lib.hid (show PLc w1 R S a1 0 from hpl1)
    clear hse1 hpl1
    by_cases hmn : m < n
    · have hmni : (m : Int) < (n : Int) := by omega
      have hn0 : (0 : Int) < (n : Int) := by omega
      have HN : Hid (L = ([], 4, s1)) := Lib.hid (by rw [HL.out, if_neg (by simp), if_pos hmn])
      clear hmn HL
      go_wp2_with fail
      refine (many_any m (by omega) _).mono ?_
      rintro _ w2 ⟨rfl, hw2⟩
      obtain rfl := hw2.symm
      go_wp2_with fail
      refine (pfail_any R S a1 0 4 hs _ HPl.out).mono ?_
      rintro _ w3 ⟨rfl, hR3, hO3⟩
      have HR3 := Lib.hid hR3
      have HO3 := Lib.hid (HO.out.trans hO3)
      obtain ⟨a3, ha3, hse3, hpl3⟩ := hR3
      have c3 : w3.cell? ⟨R, 2, none⟩ = some (.int .i64 4) := cell_at hpl3 2
      clear hO3 c2 hpl3 hse3
      go_wp2_with fail
      refine wp_loop_rounds 1 ?_
      rw [rounds_succ]
      go_wp2_with fail
      go_ret
      exact ⟨⟨.slice none 0 0, rfl, by rw [HN.out]; exact World.ownsRow_nil _ _ _ _⟩, by rw [HN.out]; exact HR3.out, HO3.out⟩
    · have hmni : ¬ (m : Int) < (n : Int) := by omega
      have hn6 : n ≤ 1000000 := by omega
      have hn6i : (n : Int) ≤ 1000000 := by omega
      have HN : Hid (L = textsN n s1) := Lib.hid (by rw [HL.out, if_neg (by simp), if_neg hmn])
      clear hmn HL
      go_wp2_with fail
      refine (many_any m (by omega) _).mono ?_
      rintro _ w2 ⟨rfl, hw2⟩
      obtain rfl := hw2.symm
      go_wp2_with fail
      generalize decide (m < n) = bz
      go_loopw [6, 7] (fun l i wr => ∃ (j : Nat) (xs : List ByteArray) (r' : R2), i = .int .u64 (j : Int) ∧ j ≤ n ∧ xs.length = j ∧ Hid ((r'.b = 0 ∧ textsN n s1 = glue xs (textsN (n - j) r'.s)) ∨ (r'.b ≠ 0 ∧ r'.s = ⟨#[]⟩ ∧ ∃ s2, textsN n s1 = ([], r'.b, s2))) ∧ PLies wr R S r' ∧ wr.ownsRow W.heap.size 9 1 l xs.length (xs.map Value.string) ∧ Only R W wr) (fun _ i _ => n - (intOf i).toNat)
      case atStart => exact ⟨0, [], ⟨s1, 0⟩, rfl, Nat.zero_le _, rfl, Lib.hid (.inl ⟨rfl, (glue_nil n s1).symm⟩), HR1.out, World.ownsRow_nil _ _ _ _, HO.out⟩
      case round =>
        obtain ⟨j, xs, r', rfl, hj, hxl, hG, hR', hown, hO'⟩ := hrel
        obtain ⟨A1, d1, rfl⟩ := own_form hown
        obtain ⟨s', b'⟩ := r'
        have HR' := Lib.hid hR'
        obtain ⟨a', ha', hse', hpl'⟩ := hR'
        have c3 : wr.cell? ⟨R, 2, none⟩ = some (.int .i64 b') := cell_at hpl' 2
        have HXL := Lib.hid hxl
        have HW := Lib.hid hown
        have HO' := Lib.hid hO'
        have hj0 : (0 : Int) ≤ (j : Int) := by omega
        clear c2 hpl' hse' hown hO' hxl HPl HR1
        by_cases hb : b' = 0
        · subst hb
          have hgl : textsN n s1 = glue xs (textsN (n - j) s') := by
            rcases hG.out with h | h
            · exact h.2
            · exact absurd rfl h.1
          have HGl := Lib.hid hgl
          clear hgl hG
          by_cases hlt : j < n
          · have hlti : (j : Int) < (n : Int) := by omega
            have ht := ptext_in R S s' 18446744073709551615 (by decide) hs wr HR'.out
            obtain ⟨k, hk⟩ : ∃ k, n - j = k + 1 := ⟨n - j - 1, by omega⟩
            rw [hk] at HGl
            have hok := fun d s'' h => glue_ok xs k s' d s'' h
            have hbd := fun d s'' e he h => glue_bad xs k s' d s'' e he h
            generalize textR 18446744073709551615 s' = y at *
            obtain ⟨d, e2, s2⟩ := y
            dsimp only at ht
            have HTx := Lib.hid ht
            have HOk := Lib.hid hok
            have HBd := Lib.hid hbd
            have HK := Lib.hid hk
            have hj1 : (j : Int) + 1 ≤ 1000000 := by omega
            have hxb : xs.length ≤ 1000000 := by have := HXL.out; omega
            clear ht hok hbd hk hn6
            go_wp2_with fail
            refine HTx.out.mono ?_
            rintro _ w3 ⟨rfl, hR3, hO3⟩
            have HW3 := Lib.hid (own_only HW.out hO3 hRlt)
            have HO3 := Lib.hid (HO'.out.trans hO3)
            have HR3 := Lib.hid hR3
            have hsz3 : W.heap.size ≤ w3.heap.size := HO3.out.size
            clear HTx HW HO' hR3 hO3 c3 HR'
            go_wp2_with (at_builtin; refine wpList_append_own _ rfl _ _ 38 rfl W.heap.size 9 i0 (.string ⟨#[]⟩) 1 16 Tryz.underlying38 HI.out.1 HI.out.2.1 HI.out.2.2.1 HI.out.2.2.2 rfl (by decide) _ _ _ rfl (HW3.out.alloc _) ⟨w3.heap.size, 0, none⟩ 1 1 [.string d] rfl rfl (news1 w3 _ _) (one_one rfl) (by unfold maxLen; omega) (by omega) (by simp; omega) ?_; intro v4 w4 hown4 hg4 _)
            have hwa := HW3.out.alloc (.cells #[.string d] 9)
            have hR4 : PLies w4 R S (R2.after e2 s2) := by
              obtain ⟨a3, ha3, hse3, hpl3⟩ := HR3.out
              exact ⟨a3, ha3, hse3, grown_off ((Below.heap_alloc _ _ _ (Array.getElem?_eq_some_iff.1 hpl3).1).trans hpl3) hg4 hwa (by decide)⟩
            have hO4 := (HO3.out.alloc _).push hwa (Nat.le_refl _) hg4
            refine ⟨⟨j + 1, xs ++ [d], R2.after e2 s2, by go_num, by omega, by rw [List.length_append, HXL.out]; rfl, Lib.hid ?_, hR4, by rw [List.length_append, List.map_append]; exact hown4, hO4⟩, by simp [intOf]; omega⟩
            by_cases he2 : e2 = 0
            · subst he2
              refine .inl ⟨rfl, ?_⟩
              rw [HGl.out, HOk.out d s2 rfl, show n - (j + 1) = k by have := HK.out; omega]
              rfl
            · refine .inr ?_
              rw [after_bad e2 s2 he2]
              exact ⟨he2, rfl, s2, by rw [HGl.out, HBd.out d s2 e2 he2 rfl]⟩
          · obtain rfl : j = n := by omega
            have HX : Hid (L = (xs, 0, s')) := Lib.hid (by rw [HN.out, HGl.out, Nat.sub_self]; exact glue_end xs s')
            clear HGl hlt hn6
            go_wp2_with fail
            go_ret
            exact ⟨⟨_, rfl, by rw [HX.out]; exact HW.out⟩, by rw [HX.out]; exact HR'.out, HO'.out⟩
        · obtain ⟨hsn, s2, hts⟩ : s' = ⟨#[]⟩ ∧ ∃ s2, textsN n s1 = ([], b', s2) := by
            rcases hG.out with h | h
            · exact absurd h.1 hb
            · exact h.2
          have HX : Hid (L = ([], b', s2)) := Lib.hid (by rw [HN.out, hts])
          have HSn := Lib.hid hsn
          have hb2 : (b' == 0) = false := by simpa using hb
          have hb3 : decide (b' = 0) = false := by simpa using hb
          have HB := Lib.hid hb
          clear hG hts hsn hb hn6
          by_cases hlt : j < n
          · have hlti : (j : Int) < (n : Int) := by omega
            clear hlt
            go_wp2_with fail
            go_ret
            exact ⟨⟨.slice none 0 0, rfl, by rw [HX.out]; exact World.ownsRow_nil _ _ _ _⟩, by rw [HX.out, after_bad b' s2 HB.out, ← HSn.out]; exact HR'.out, HO'.out⟩
          · obtain rfl : j = n := by omega
            clear hlt
            go_wp2_with fail
            go_ret
            exact ⟨⟨.slice none 0 0, rfl, by rw [HX.out]; exact World.ownsRow_nil _ _ _ _⟩, by rw [HX.out, after_bad b' s2 HB.out, ← HSn.out]; exact HR'.out, HO'.out⟩
  · have HN : Hid (L = ([], e, s1)) := Lib.hid (by rw [HL.out, if_pos he])
    have he2 : (e == 0) = false := by simpa using he
    have he3 : decide (e = 0) = false := by simpa using he
    rw [after_bad e s1 he] at hR1
    have HR1 := Lib.hid hR1
    have HE := Lib.hid he
    obtain ⟨a1, ha1, hse1, hpl1⟩ := hR1
    have c2 : w1.cell? ⟨R, 2, none⟩ = some (.int .i64 e) := cell_at hpl1 2
    have hn0 : (0 : Int) ≤ (n : Int) := by omega
    clear hpl1 hse1 HL he
    by_cases hn : 0 < n
    · have hni : (0 : Int) < (n : Int) := by omega
      clear hn
      go_wp2_with fail
      refine wp_loop_rounds 1 ?_
      rw [rounds_succ]
      go_wp2_with fail
      go_ret
      exact ⟨⟨.slice none 0 0, rfl, by rw [HN.out]; exact World.ownsRow_nil _ _ _ _⟩, by rw [HN.out, after_bad e s1 HE.out]; exact HR1.out, HO.out⟩
    · obtain rfl : n = 0 := by omega
      clear hn
      go_wp2_with fail
      refine wp_loop_rounds 1 ?_
      rw [rounds_succ]
      go_wp2_with fail
      go_ret
      exact ⟨⟨.slice none 0 0, rfl, by rw [HN.out]; exact World.ownsRow_nil _ _ _ _⟩, by rw [HN.out, after_bad e s1 HE.out]; exact HR1.out, HO.out⟩

/-- List of the page's reader -/
theorem plist_any (R : Nat) (S s : ByteArray) (m : Nat) (hm : m ≤ 1000000) (hs : S.size ≤ 1099511627776) (W : World) (hR : PLies W R S ⟨s, 0⟩) :
    Calls Tryz.prog 63 #[.pointer (some ⟨R, 0, none⟩), .int .i64 (m : Int)] W
      fun e w' => (∃ v, e = .returned v ∧ w'.ownsRow W.heap.size 9 1 v ((⟨s, 0⟩ : R2).list m).1.length (((⟨s, 0⟩ : R2).list m).1.map Value.string)) ∧ PLies w' R S ((⟨s, 0⟩ : R2).list m).2 ∧ Only R W w' := by
  have e : (⟨s, 0⟩ : R2).list m = ((listR m s).1, R2.after (listR m s).2.1 (listR m s).2.2) := by unfold R2.list; rw [if_pos rfl]
  rw [e]
  exact plist_in R S s m hm hs W hR
end Go.Proofs.YtnjcenbmdcogpaaGreatDoor.Rd
