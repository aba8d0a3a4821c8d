/- The law EventPacks. -/
import Derived.Test.YthamemaomedldaaEvPack
import Derived.Test.YthamemaomedldaaEvSame
import Derived.Test.YthamemaomedldaaEvsOpen
import Derived.Test.YthamemaomedldaaEvFew
import Derived.Test.YthamemaomedldaaPgEvUnpack
import Derived.Test.YthamemaomedldaaEventAwake
import Derived.Test.YthamemaomedldaaRefList
namespace Go.Proofs.Ythamemaomedldaa.Ev
open Go Go.RowKit Num Texts
open eventFinds (awake_any)
open _root_.Go.Proofs.Ythamemaomedldaa.Rd (unpackE eachE infoS news1 own_rds eunpack_any peunpack_any)
open _root_.Go.Proofs.Ythamemaomedldaa.Msg (textsL_len)

theorem own_made0 (W : World) (base : Nat) (hb : base ≤ W.heap.size) : (W.alloc (.cells #[] 9)).ownsRow base 9 1 (.slice (some ⟨W.heap.size, 0, none⟩) 0 0) 0 [] :=
  ⟨rfl, .inr ⟨W.heap.size, 0, #[], rfl, hb, heap_alloc_new W _, Nat.le_refl _, by unfold maxLen; omega, by simp, rfl⟩⟩
theorem unpackE_len (s : ByteArray) : (unpackE s).1.length ≤ 1024 := by
  have h1 : ∀ (l : List ByteArray) (i : Nat), (eachE i l).1.length ≤ l.length := by
    intro l
    induction l with
    | nil => intro i; exact Nat.le_refl _
    | cons x l ih =>
      intro i
      unfold eachE
      split
      · exact Nat.zero_le _
      · split
        · exact Nat.zero_le _
        · have := ih (i + 1); simp only [List.length_cons]; omega
  unfold unpackE
  split
  · exact Nat.zero_le _
  · have h2 := (Rd.R2.list_size ⟨s, 0⟩ 1024).1
    have h3 := h1 ((Rd.R2.mk s 0).list 1024).1 0
    omega
theorem packE_size (qs : List E8) (hl : qs.length ≤ 20) : (packE qs).size ≤ 1000000 := by
  unfold packE
  split
  · rename_i h
    have h1 := textsL_len 200 (by omega) (qs.map E8.bytes) (fun x hx => by
      obtain ⟨q, hq, rfl⟩ := List.mem_map.1 hx
      exact ebytes_size ((List.all_eq_true.1 h) q hq))
    have h2 := numS_size' (qs.map E8.bytes).length (by simp; omega)
    have h3 : (qs.map E8.bytes).length * (200 + 9) ≤ 20 * 209 := Nat.mul_le_mul (by simpa using hl) (by omega)
    show (listL (qs.map E8.bytes)).toArray.size ≤ _
    unfold listL
    have e1 : (numS (qs.map E8.bytes).length).data.toList.length = (numS (qs.map E8.bytes).length).size := by simp
    simp only [List.size_toArray, List.length_append]
    omega
  · exact Nat.zero_le _

set_option maxRecDepth 20000 in
theorem epacks_long (A : Option Addr) (n c : Nat) (t : ByteArray) (w : World) (h : 20 < n) (hn : n ≤ 9223372036854775807) :
    Calls Try.prog 3 #[.slice A n c, .string t] w fun e w' => e = .returned (.bool true) ∧ Below w.heap.size w w' := by
  have hni : (20 : Int) < (n : Int) := by omega
  go_enter Try.func3, Try.ntmps3
  go_wp2_with fail
  refine (awake_any _).mono ?_
  rintro _ w1 ⟨rfl, b1⟩
  go_wp2
  go_ret
  exact ⟨rfl, b1⟩
set_option maxRecDepth 20000 in
theorem epacks_text (A : Option Addr) (n c : Nat) (t : ByteArray) (w : World) (h : n ≤ 20) (ht : 1500 < t.size) (hs : t.size ≤ 9223372036854775807) :
    Calls Try.prog 3 #[.slice A n c, .string t] w fun e w' => e = .returned (.bool true) ∧ Below w.heap.size w w' := by
  have hni : ¬ (20 : Int) < (n : Int) := by omega
  have hti : (1500 : Int) < (t.size : Int) := by omega
  go_enter Try.func3, Try.ntmps3
  go_wp2_with fail
  refine (awake_any _).mono ?_
  rintro _ w1 ⟨rfl, b1⟩
  go_wp2
  go_ret
  exact ⟨rfl, b1⟩

set_option maxRecDepth 20000 in
set_option maxHeartbeats 8000000 in
theorem epacks_main (A : Option Addr) (n c : Nat) (t : ByteArray) (qs : List E8) (w : World) (hr : Rd w A n qs) (hq : ∀ q ∈ qs, q.wf) (hn : n ≤ 20) (ht : t.size ≤ 1500) :
    Calls Try.prog 3 #[.slice A n c, .string t] w fun e w' => e = .returned (.bool true) ∧ Below w.heap.size w w' := by
  obtain ⟨i0, hi1, hy0, hy1, hy2⟩ := info_parts infoS
  have HI := Lib.hid (And.intro hi1 (And.intro hy0 (And.intro hy1 hy2)))
  have HR := Lib.hid hr
  have HQ := Lib.hid hq
  have HTs := Lib.hid ht
  have hni : ¬ (20 : Int) < (n : Int) := by omega
  have hti : ¬ (1500 : Int) < (t.size : Int) := by omega
  clear hr hq hi1 hy0 hy1 hy2 ht
  go_enter Try.func3, Try.ntmps3
  go_wp2_with fail
  obtain ⟨W1, hW1⟩ : ∃ X, X = w.alloc (.cells #[] 9) := ⟨_, rfl⟩
  rw [← hW1]
  have hB1 : Below w.heap.size w W1 := by rw [hW1]; exact (Below.refl _ _).alloc (Nat.le_refl _) _
  have hO1 : W1.ownsRow w.heap.size 9 1 (.slice (some ⟨w.heap.size, 0, none⟩) 0 0) 0 [] := by rw [hW1]; exact own_made0 w _ (Nat.le_refl _)
  have HO1 := Lib.hid hO1
  have HB1 := Lib.hid hB1
  clear hB1 hO1 hW1
  obtain ⟨Z, hZ⟩ : ∃ Z : Option Addr, Z = some ⟨w.heap.size, 0, none⟩ := ⟨_, rfl⟩
  rw [← hZ] at HO1 ⊢
  clear hZ
  try generalize decide (20 < n) = bz1
  try generalize decide (1500 < t.size) = bz2
  go_loopw [5, 7] (fun r i wr => ∃ k : Nat, i = .int .i64 (k : Int) ∧ k ≤ n ∧ r = .bool ((qs.take k).all eright) ∧ wr.ownsRow w.heap.size 9 1 (.slice Z 0 0) 0 [] ∧ Below w.heap.size w wr) (fun _ i _ => n - (intOf i).toNat)
  case atStart => exact ⟨0, rfl, Nat.zero_le _, rfl, HO1.out, HB1.out⟩
  case round =>
    obtain ⟨k, rfl, hk, rfl, hown, hB⟩ := hrel
    have HO := Lib.hid hown
    have HB := Lib.hid hB
    clear hown hB
    by_cases hlt : k < n
    · have hkq : k < qs.length := by have := HR.out.1; omega
      obtain ⟨b, off, hAe, hbl, -⟩ := HR.out.at (Below.refl _ w) (by omega)
      subst hAe
      have hgd : qs.getD k e0 = qs[k] := by rw [List.getD_eq_getElem?_getD, List.getElem?_eq_getElem hkq]; rfl
      have hat : ∀ W, Below w.heap.size w W → At W b (off + k * 8) qs[k] := fun W hW => by
        obtain ⟨b', off', he, _, h⟩ := HR.out.at hW (by omega)
        injection he with he
        injection he with he1 he2
        subst he1 he2
        rw [← hgd]
        exact h k hlt
      have htk : qs.take (k + 1) = qs.take k ++ [qs[k]] := List.take_succ_eq_append_getElem hkq
      clear hgd
      generalize qs[k] = q at hat htk
      have HA := Lib.hid hat
      have HT := Lib.hid htk
      have hi0 : (0 : Int) ≤ (k : Int) := by omega
      have hi2 : (k : Int) < (n : Int) := by omega
      have hi3 : (k : Int) ≤ 1024 := by omega
      obtain ⟨r0, hr0⟩ : ∃ r0, r0 = (qs.take k).all eright := ⟨_, rfl⟩
      rw [← hr0]
      have HR0 := Lib.hid hr0
      clear hat htk hr0
      obtain ⟨c0, c1, c2, c3, c4, c5, c6, c7⟩ := HA.out wr HB.out
      go_wp2_with fail
      refine (few_any q wr).mono ?_
      rintro _ w2 ⟨rfl, hb2⟩
      have HO2 := Lib.hid (own_below HO.out hb2)
      have HB2 := Lib.hid (HB.out.trans (hb2.mono HB.out.size))
      clear hb2 c0 c1 c2 c3 c4 c5 c6 c7 HO HB
      generalize efew q = fb
      cases fb
      · go_wp2_with fail
        refine (awake_any _).mono ?_
        rintro _ w3 ⟨rfl, hb3⟩
        have HB3 := Lib.hid (HB2.out.trans (hb3.mono HB2.out.size))
        clear hb3
        go_wp2
        go_ret
        exact ⟨rfl, HB3.out⟩
      · have hall : (qs.take (k + 1)).all eright = (r0 && eright q) := by
          rw [HT.out, List.all_append, ← HR0.out]
          simp
        have HAll := Lib.hid hall
        clear hall HR0
        obtain ⟨c0, c1, c2, c3, c4, c5, c6, c7⟩ := HA.out w2 HB2.out
        cases r0
        · go_wp2_with fail
          exact ⟨⟨k + 1, by go_num, by omega, by rw [HAll.out]; rfl, HO2.out, HB2.out⟩, by simp [intOf]; omega⟩
        · go_wp2_with fail
          refine (reright_any q w2).mono ?_
          rintro _ w3 ⟨rfl, hb3⟩
          have HO3 := Lib.hid (own_below HO2.out hb3)
          have HB3 := Lib.hid (HB2.out.trans (hb3.mono HB2.out.size))
          clear hb3 c0 c1 c2 c3 c4 c5 c6 c7 HO2 HB2
          go_wp2_with fail
          exact ⟨⟨k + 1, by go_num, by omega, by rw [HAll.out]; rfl, HO3.out, HB3.out⟩, by simp [intOf]; omega⟩
    · obtain rfl : k = n := by omega
      have hlen := HR.out.1
      have htake : qs.take k = qs := List.take_of_length_le (by omega)
      rw [htake]
      have har : qs.all eright = allE qs := rfl
      rw [har]
      clear htake har hlt hk
      have HLen := Lib.hid hlen
      have hki : ¬ (k : Int) < (k : Int) := by omega
      clear hlen
      obtain ⟨g, hg⟩ : ∃ g, g = allE qs := ⟨_, rfl⟩
      rw [← hg]
      have HG := Lib.hid hg
      clear hg
      have htp := epack_any A k c qs wr (HR.out.below HB.out) HQ.out (by omega)
      rw [← HG.out] at htp
      have hps : (packE qs).size ≤ 1000000 := packE_size qs (by have := HLen.out; omega)
      obtain ⟨S, hS⟩ : ∃ S, S = packE qs := ⟨_, rfl⟩
      rw [← hS] at htp hps
      have HS := Lib.hid hS
      have HTp := Lib.hid htp
      have HPs := Lib.hid hps
      clear htp hS hps
      go_wp2_with fail
      refine HTp.out.mono ?_
      rintro _ w3 ⟨rfl, hb3⟩
      have HO3 := Lib.hid (own_below HO.out hb3)
      have HB3 := Lib.hid (HB.out.trans (hb3.mono HB.out.size))
      clear hb3 HO HTp HB
      cases g
      · have HSe : Hid (S = ⟨#[]⟩) := Lib.hid (by rw [HS.out, packE, ← HG.out]; rfl)
        obtain rfl := HSe.out
        have HU := Lib.hid (fun W => eunpack_any t (by have := HTs.out; omega) W)
        have HPU := Lib.hid (fun W => peunpack_any t (by have := HTs.out; omega) W)
        have hul : (unpackE t).1.length ≤ 1024 := unpackE_len t
        generalize unpackE t = U at HU HPU hul
        have HUl := Lib.hid hul
        clear hul
        go_wp2_with fail
        refine (HU.out _).mono ?_
        rintro _ u1 ⟨⟨v1, rfl, hv1⟩, g1⟩
        obtain ⟨A1, d1, rfl⟩ := own_form8 hv1
        have HV1 := Lib.hid hv1
        have HX1 := Lib.hid (HB3.out.trans (g1.mono HB3.out.size))
        clear hv1 g1 HU
        go_wp2_with fail
        refine (HPU.out _).mono ?_
        rintro _ u2 ⟨⟨v2, rfl, hv2⟩, g2⟩
        obtain ⟨A2, d2, rfl⟩ := own_form8 hv2
        have HV2 := Lib.hid hv2
        have HV12 := Lib.hid (own_below HV1.out g2)
        have HX2 := Lib.hid (HX1.out.trans (g2.mono HX1.out.size))
        clear hv2 g2 HPU HV1 HX1
        go_wp2_with fail
        refine (awake_any _).mono ?_
        rintro _ u3 ⟨rfl, g3⟩
        have HV13 := Lib.hid (own_below HV12.out g3)
        have HV23 := Lib.hid (own_below HV2.out g3)
        have HX3 := Lib.hid (HX2.out.trans (g3.mono HX2.out.size))
        clear g3 HV12 HV2 HX2
        have HSa := Lib.hid (same_evs A1 A2 U.1.length d1 d2 U.1 u3 (by have := HUl.out; omega) (row_at HV13.out rfl) (row_at HV23.out rfl))
        go_wp2_with fail
        refine HSa.out.mono ?_
        rintro _ u4 ⟨rfl, g4⟩
        have HX4 := Lib.hid (HX3.out.trans (g4.mono HX3.out.size))
        clear g4
        go_wp2
        go_ret
        exact ⟨rfl, HX4.out⟩
      · have hgd : ∀ q ∈ qs, eright q = true := List.all_eq_true.1 HG.out.symm
        have HGd := Lib.hid hgd
        clear hgd
        go_wp2_with fail
        go_loopw [6, 10] (fun l i wr => ∃ j : Nat, i = .int .i64 (j : Int) ∧ j ≤ k ∧ wr.ownsRow w.heap.size 9 1 l j (((qs.take j).map E8.bytes).map Value.string) ∧ Below w.heap.size w wr) (fun _ i _ => k - (intOf i).toNat)
        case atStart => exact ⟨0, rfl, Nat.zero_le _, HO3.out, HB3.out⟩
        case round =>
          obtain ⟨j, rfl, hj, hown, hB⟩ := hrel
          obtain ⟨Al, cl, rfl⟩ := own_form hown
          have HO4 := Lib.hid hown
          have HB4 := Lib.hid hB
          clear hown hB HO3 HB3
          by_cases hlt : j < k
          · have hjq : j < qs.length := by have := HLen.out; omega
            obtain ⟨b, off, hAe, hbl, hat⟩ := HR.out.at HB4.out (by omega)
            subst hAe
            have hqa := hat j hlt
            have hgd : qs.getD j e0 = qs[j] := by rw [List.getD_eq_getElem?_getD, List.getElem?_eq_getElem hjq]; rfl
            rw [hgd] at hqa
            have hqk := HQ.out _ (List.getElem_mem hjq)
            have htq := HGd.out _ (List.getElem_mem hjq)
            have htk : qs.take (j + 1) = qs.take j ++ [qs[j]] := List.take_succ_eq_append_getElem hjq
            clear hgd hat
            generalize qs[j] = q at hqa hqk htk htq
            obtain ⟨c0, c1, c2, c3, c4, c5, c6, c7⟩ := hqa
            have HT := Lib.hid htk
            have hi0 : (0 : Int) ≤ (j : Int) := by omega
            have hi2 : (j : Int) < (k : Int) := by omega
            have hi3 : (j : Int) ≤ 1024 := by omega
            have hpt := reput_yes q htq hqk wr
            obtain ⟨D, hD⟩ : ∃ D, D = E8.bytes q := ⟨_, rfl⟩
            rw [← hD] at hpt
            have HPt := Lib.hid hpt
            have HTb := Lib.hid hD
            clear hpt hD hqk htk htq
            go_wp2_with fail
            refine HPt.out.mono ?_
            rintro _ w4 ⟨rfl, b4⟩
            have HO5 := Lib.hid (own_below HO4.out b4)
            have HB5 := Lib.hid (HB4.out.trans (b4.mono HB4.out.size))
            have hz4 : w.heap.size ≤ w4.heap.size := HB5.out.size
            clear b4 c0 c1 c2 c3 c4 c5 c6 c7 HO4 HB4 HPt
            go_wp2_with (at_builtin; refine wpList_append_own _ rfl _ _ 24 rfl w.heap.size 9 i0 (.string ⟨#[]⟩) 1 16 Try.underlying24 HI.out.1 HI.out.2.1 HI.out.2.2.1 HI.out.2.2.2 rfl (by decide) _ _ _ rfl (HO5.out.alloc _) ⟨w4.heap.size, 0, none⟩ 1 1 [.string D] rfl rfl (news1 w4 _ _) (one_one rfl) (by unfold maxLen; omega) (by omega) (by simp; omega) ?_; intro v5 w5 hown5 hg5 _)
            have hB5 := below_push HB5.out hz4 HO5.out hg5
            refine ⟨⟨j + 1, by go_num, by omega, ?_, hB5⟩, by simp [intOf]; omega⟩
            rw [HT.out, List.map_append, List.map_append]
            have e : ([q].map E8.bytes).map Value.string = [.string D] := by rw [HTb.out]; rfl
            rw [e]
            exact hown5
          · obtain rfl : j = k := by omega
            have htake : qs.take j = qs := List.take_of_length_le (by have := HLen.out; omega)
            rw [htake] at HO4
            have hup := fun W => eunpack_any S (by have := HPs.out; omega) W
            have hub := eunpack_back qs HG.out.symm HQ.out (by have := HLen.out; omega)
            rw [← HS.out] at hub
            rw [hub] at hup
            dsimp only at hup
            have HUp := Lib.hid hup
            have HLj := Lib.hid (show qs.length = j from HLen.out)
            clear hup hub htake hlt
            go_wp2_with fail
            refine (HUp.out _).mono ?_
            rintro _ w4 ⟨⟨v, rfl, hrow⟩, b4⟩
            rw [HLj.out] at hrow
            obtain ⟨A5, c5, rfl⟩ := own_form8 hrow
            have HRow := Lib.hid hrow
            have HO5 := Lib.hid (own_below HO4.out b4)
            have HB5 := Lib.hid (HB4.out.trans (b4.mono HB4.out.size))
            clear b4 hrow HO4 HB4 HUp
            have hls : (qs.map E8.bytes).length = j := by have := HLen.out; simp; omega
            have hrd : RdS w4 Al j (qs.map E8.bytes) := by
              have h9 := HO5.out
              rw [← hls] at h9 ⊢
              exact own_rds h9
            have hrl := ref_list_wide Al j cl (qs.map E8.bytes) w4 hrd (by omega) (fun i => by
              rw [List.getD_eq_getElem?_getD]
              by_cases hi : i < (qs.map E8.bytes).length
              · rw [List.getElem?_eq_getElem hi]
                obtain ⟨q, hq, he⟩ := List.mem_map.1 (List.getElem_mem hi)
                have := ebytes_size (HGd.out q hq)
                show ((qs.map E8.bytes)[i]).size ≤ _
                rw [← he]; omega
              · rw [List.getElem?_eq_none (by omega)]; exact Nat.zero_le _)
            have hSe : S = ⟨(listL (qs.map E8.bytes)).toArray⟩ := by rw [HS.out, packE, ← HG.out]; rfl
            rw [← hSe] at hrl
            have HRl := Lib.hid hrl
            clear hrl hrd hls hSe
            go_wp2_with fail
            refine HRl.out.mono ?_
            rintro _ w6 ⟨rfl, b6⟩
            have HRow6 := Lib.hid (own_below HRow.out b6)
            have HB7 := Lib.hid (HB5.out.trans (b6.mono HB5.out.size))
            clear b6 HRow HO5 HB5 HRl
            have HSa := Lib.hid (same_evs A5 A j c5 c qs w6 (by omega) (row_at HRow6.out HLj.out) (HR.out.below HB7.out))
            go_wp2_with fail
            refine HSa.out.mono ?_
            rintro _ w7 ⟨rfl, b7⟩
            have HB8 := Lib.hid (HB7.out.trans (b7.mono HB7.out.size))
            clear b7 HB7 HRow6 HSa
            have HU := Lib.hid (fun W => eunpack_any t (by have := HTs.out; omega) W)
            have HPU := Lib.hid (fun W => peunpack_any t (by have := HTs.out; omega) W)
            have hul : (unpackE t).1.length ≤ 1024 := unpackE_len t
            generalize unpackE t = U at HU HPU hul
            have HUl := Lib.hid hul
            clear hul
            go_wp2_with fail
            refine (HU.out _).mono ?_
            rintro _ u1 ⟨⟨v1, rfl, hv1⟩, g1⟩
            obtain ⟨A1, d1, rfl⟩ := own_form8 hv1
            have HV1 := Lib.hid hv1
            have HX1 := Lib.hid (HB8.out.trans (g1.mono HB8.out.size))
            clear hv1 g1 HU
            go_wp2_with fail
            refine (HPU.out _).mono ?_
            rintro _ u2 ⟨⟨v2, rfl, hv2⟩, g2⟩
            obtain ⟨A2, d2, rfl⟩ := own_form8 hv2
            have HV2 := Lib.hid hv2
            have HV12 := Lib.hid (own_below HV1.out g2)
            have HX2 := Lib.hid (HX1.out.trans (g2.mono HX1.out.size))
            clear hv2 g2 HPU HV1 HX1
            go_wp2_with fail
            refine (awake_any _).mono ?_
            rintro _ u3 ⟨rfl, g3⟩
            have HV13 := Lib.hid (own_below HV12.out g3)
            have HV23 := Lib.hid (own_below HV2.out g3)
            have HX3 := Lib.hid (HX2.out.trans (g3.mono HX2.out.size))
            clear g3 HV12 HV2 HX2
            have HSa := Lib.hid (same_evs A1 A2 U.1.length d1 d2 U.1 u3 (by have := HUl.out; omega) (row_at HV13.out rfl) (row_at HV23.out rfl))
            go_wp2_with fail
            refine HSa.out.mono ?_
            rintro _ u4 ⟨rfl, g4⟩
            have HX4 := Lib.hid (HX3.out.trans (g4.mono HX3.out.size))
            clear g4
            go_wp2
            go_ret
            exact ⟨rfl, HX4.out⟩

set_option maxRecDepth 100000 in
theorem epacks_walk {H : Type} {enc : TypeId × Value → H} {spare : Nat → Bool} {held : Bool} {w : World} {base : Nat} {v : Value} {d : DataW H} {p : List MemPlace}
    (ok : Value.okWide Try.prog w .any base 22 v) (h : DataW.Trod enc Try.prog w 0 spare held 22 v d p) (t : ByteArray) (hs : t.size ≤ maxLen) :
    Calls Try.prog 3 #[v, .string t] w fun e w' => e = .returned (.bool true) ∧ Below w.heap.size w w' := by
  obtain ⟨A, len, cap, qs, rfl, hl, hr, hq⟩ := open_evs ok h
  unfold maxLen at hl hs
  by_cases hb : 20 < len
  · exact epacks_long A len cap t w hb (by omega)
  · by_cases hc : 1500 < t.size
    · exact epacks_text A len cap t w (by omega) hc (by omega)
    · exact epacks_main A len cap t qs w hr hq (by omega) (by omega)
end Go.Proofs.Ythamemaomedldaa.Ev
