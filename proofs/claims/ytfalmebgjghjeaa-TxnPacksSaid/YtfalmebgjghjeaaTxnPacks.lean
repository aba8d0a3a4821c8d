/- The law TxnPacks. -/
import Derived.Test.YtfalmebgjghjeaaTxnPackAll
import Derived.Test.YtfalmebgjghjeaaRefList
import Derived.Test.YtfalmebgjghjeaaTxnRef
import Derived.Test.YtfalmebgjghjeaaTxRightRef
import Derived.Test.YtfalmebgjghjeaaTxnAwake
import Derived.Test.YtfalmebgjghjeaaTxsOpen2
namespace Go.Proofs.Ytfalmebgjghjeaa.Msg
open Go Go.RowKit Num Texts txnApart
open _root_.Go.Proofs.Ytfalmebgjghjeaa.Rd (textR textsN listR R2 unpackR eachR getT Q4 keyP keyQ infoS news1 own_rds TxRow tunpack_any)

/-- A row of texts that was just made, and is empty. -/
theorem own_made0 (W : World) (base : Nat) (hb : base ≤ W.heap.size) : (W.alloc (.cells #[] 9)).ownsRow base 9 1 (.slice (some ⟨W.heap.size, 0, none⟩) 0 0) 0 [] :=
  ⟨rfl, .inr ⟨W.heap.size, 0, #[], rfl, hb, heap_alloc_new W _, Nat.le_refl _, by unfold maxLen; omega, by simp, rfl⟩⟩
set_option maxRecDepth 20000 in
theorem packs_long (A : Option Addr) (n c : Nat) (b : Bool) (w : World) (h : 20 < n) (hn : n ≤ 9223372036854775807) :
    Calls Try.prog 3 #[.slice A n c, .bool b] w fun e w' => e = .returned (.bool true) ∧ Below w.heap.size w w' := by
  have hni : (20 : Int) < (n : Int) := by omega
  go_enter Try.func3, Try.ntmps3
  go_wp2_with fail
  refine (awake_any _).mono ?_
  rintro _ w1 ⟨rfl, b1⟩
  go_wp2
  go_ret
  exact ⟨rfl, b1⟩

theorem packS_size (qs : List T4) (hl : qs.length ≤ 20) : (packS qs).size ≤ 1000000 := by
  unfold packS
  split
  · rename_i h
    have h1 := textsL_len 1600 (by omega) (qs.map tbq) (fun x hx => by
      obtain ⟨q, hq, rfl⟩ := List.mem_map.1 hx
      exact tbq_size q ((List.all_eq_true.1 h) q hq))
    have h2 := numS_size' (qs.map tbq).length (by simp; omega)
    have h3 : (qs.map tbq).length * (1600 + 9) ≤ 20 * 1609 := Nat.mul_le_mul (by simpa using hl) (by omega)
    show (listL (qs.map tbq)).toArray.size ≤ _
    unfold listL
    have e1 : (numS (qs.map tbq).length).data.toList.length = (numS (qs.map tbq).length).size := by simp
    simp only [List.size_toArray, List.length_append]
    omega
  · exact Nat.zero_le _

theorem make_txs (w : World) : ∃ A w', (Instr.makeSlice 22 (.int .i64 1025) (.int .i64 1025)).run Try.prog w = .ok (.slice A 1025 1025) w' ∧ Below w.heap.size w w' := by
  obtain ⟨i1, hi1, hy0, hy1, hy2⟩ := info_parts infoT
  exact ⟨_, _, run_make w 22 29 i1 _ Try.underlying22 hi1 hy0 .i64 .i64 1025 1025 (by decide) (by decide) (by rw [hy2]; decide) (by decide), (Below.refl _ _).alloc (Nat.le_refl _) _⟩
/-- What was unpacked is what came in. -/
theorem sim_of (ps qs : List T4) (w1 w : World) (B : Nat) (v : Value) (h : ps.map keyP = (qs.map toQ).map keyQ) (hr : TxRow B w1 v ps) (ha : allR qs = true) (hq : ∀ q ∈ qs, Rd w q.A q.len q.ms ∧ 0 ≤ q.n) :
    ps.length = qs.length ∧ ∀ i (h1 : i < ps.length) (h2 : i < qs.length), Sim ps[i] qs[i] := by
  have hlen : ps.length = qs.length := by have := congrArg List.length h; simpa using this
  refine ⟨hlen, fun i h1 h2 => ?_⟩
  have hg : tq qs[i] = true := (List.all_eq_true.1 ha) _ (List.getElem_mem h2)
  have e1 : (ps.map keyP)[i]'(by simpa using h1) = keyP ps[i] := by simp
  have e2 : ((qs.map toQ).map keyQ)[i]'(by simpa using h2) = keyQ (toQ qs[i]) := by simp
  have e3 : keyP ps[i] = keyP qs[i] := by
    rw [← e1, ← keyQ_toQ _ hg (hq _ (List.getElem_mem h2)).2, ← e2]
    simp only [h]
  have hp := (hr.own _ (List.getElem_mem h1)).1
  have hl := (hq _ (List.getElem_mem h2)).1.1
  unfold keyP at e3
  injection e3 with e4 e5
  injection e5 with e6 e7
  injection e7 with e8 e9
  exact ⟨e4, e6, e8, by rw [hp, e9, hl], e9⟩

set_option maxRecDepth 20000 in
set_option maxHeartbeats 4000000 in
theorem packs_main (A : Option Addr) (n c : Nat) (long : Bool) (qs : List T4) (w : World) (hr : RdX w A n qs) (hq : ∀ q ∈ qs, q.ok w ∧ ∀ m ∈ q.ms, m.wf) (hn : n ≤ 20) :
    Calls Try.prog 3 #[.slice A n c, .bool long] w fun e w' => e = .returned (.bool true) ∧ Below w.heap.size w w' := by
  obtain ⟨i0, hi1, hy0, hy1, hy2⟩ := info_parts infoS
  have HI := Lib.hid (And.intro hi1 (And.intro hy0 (And.intro hy1 hy2)))
  have HR := Lib.hid hr
  have HQ := Lib.hid hq
  have hni : ¬ (20 : Int) < (n : Int) := by omega
  clear hr hq hi1 hy0 hy1 hy2
  go_enter Try.func3, Try.ntmps3
  go_wp2_with fail
  obtain ⟨W1, hW1⟩ : ∃ X, X = w.alloc (.cells #[] 9) := ⟨_, rfl⟩
  rw [← hW1]
  have hB1 : Below w.heap.size w W1 := by rw [hW1]; exact (Below.refl _ _).alloc (Nat.le_refl _) _
  have hO1 : W1.ownsRow w.heap.size 9 1 (.slice (some ⟨w.heap.size, 0, none⟩) 0 0) 0 [] := by rw [hW1]; exact own_made0 w _ (Nat.le_refl _)
  have HO1 := Lib.hid hO1
  have HB1 := Lib.hid hB1
  clear hB1 hO1 hW1
  obtain ⟨Z, hZ⟩ : ∃ Z : Option Addr, Z = some ⟨w.heap.size, 0, none⟩ := ⟨_, rfl⟩
  rw [← hZ] at HO1 ⊢
  clear hZ
  go_loopw [5, 7] (fun r i wr => ∃ k : Nat, i = .int .i64 (k : Int) ∧ k ≤ n ∧ r = .bool ((qs.take k).all tq) ∧ Hid (∀ q ∈ qs.take k, q.len ≤ 12) ∧ wr.ownsRow w.heap.size 9 1 (.slice Z 0 0) 0 [] ∧ Below w.heap.size w wr) (fun _ i _ => n - (intOf i).toNat)
  case atStart => exact ⟨0, rfl, Nat.zero_le _, rfl, Lib.hid (fun q hq => by simp at hq), HO1.out, HB1.out⟩
  case round =>
    obtain ⟨k, rfl, hk, rfl, h12, hown, hB⟩ := hrel
    have HO := Lib.hid hown
    have HB := Lib.hid hB
    clear hown hB
    by_cases hlt : k < n
    · have hkq : k < qs.length := by have := HR.out.1; omega
      obtain ⟨b, off, hAe, hbl, a0, a1, a2, a3⟩ := HR.out.at hkq
      subst hAe
      have hqk := HQ.out _ (List.getElem_mem hkq)
      have htk : qs.take (k + 1) = qs.take k ++ [qs[k]] := List.take_succ_eq_append_getElem hkq
      generalize qs[k] = q at a0 a1 a2 a3 hqk htk
      have HA := Lib.hid (And.intro a0 (And.intro a1 (And.intro a2 a3)))
      have HQk := Lib.hid hqk
      have HT := Lib.hid htk
      have hi0 : (0 : Int) ≤ (k : Int) := by omega
      have hi2 : (k : Int) < (n : Int) := by omega
      have hi3 : (k : Int) ≤ 1024 := by omega
      have hcm : q.len ≤ 9223372036854775807 := by have := hqk.1.1; have := hqk.1.2.1; unfold maxLen at this; omega
      have c0 := (HB.out.cell (p := ⟨b, off + k * 4, none⟩) hbl).trans a0
      have c1 := (HB.out.cell (p := ⟨b, off + k * 4 + 1, none⟩) hbl).trans a1
      have c2 := (HB.out.cell (p := ⟨b, off + k * 4 + 2, none⟩) hbl).trans a2
      have c3 := (HB.out.cell (p := ⟨b, off + k * 4 + 3, none⟩) hbl).trans a3
      obtain ⟨r0, hr0⟩ : ∃ r0, r0 = (qs.take k).all tq := ⟨_, rfl⟩
      rw [← hr0]
      have HR0 := Lib.hid hr0
      clear a0 a1 a2 a3 hqk htk hr0
      go_wp2_with fail
      refine (few05_any q.side q.acc q.n q.A q.len q.cap q.ms wr (HQk.out.1.2.2.1.below HB.out) hcm).mono ?_
      rintro _ w2 ⟨fb, rfl, hf12, hb2⟩
      have HO2 := Lib.hid (own_below HO.out hb2)
      have HB2 := Lib.hid (HB.out.trans (hb2.mono HB.out.size))
      clear hb2 c0 c1 c2 c3 HO HB
      cases fb
      · go_wp2_with fail
        refine (awake_any _).mono ?_
        rintro _ w3 ⟨rfl, hb3⟩
        have HB3 := Lib.hid (HB2.out.trans (hb3.mono HB2.out.size))
        clear hb3
        go_wp2
        go_ret
        exact ⟨rfl, HB3.out⟩
      · have HF : Hid (∀ x ∈ qs.take (k + 1), x.len ≤ 12) := Lib.hid (fun x hx => by
          rw [HT.out] at hx
          rcases List.mem_append.1 hx with hx | hx
          · exact h12.out x hx
          · simp at hx; subst hx; exact hf12 rfl)
        have c0 := (HB2.out.cell (p := ⟨b, off + k * 4, none⟩) hbl).trans HA.out.1
        have c1 := (HB2.out.cell (p := ⟨b, off + k * 4 + 1, none⟩) hbl).trans HA.out.2.1
        have c2 := (HB2.out.cell (p := ⟨b, off + k * 4 + 2, none⟩) hbl).trans HA.out.2.2.1
        have c3 := (HB2.out.cell (p := ⟨b, off + k * 4 + 3, none⟩) hbl).trans HA.out.2.2.2
        have hall : (qs.take (k + 1)).all tq = (r0 && txright q.side q.acc q.ms) := by
          rw [HT.out, List.all_append, ← HR0.out]
          simp [tq]
        have HAll := Lib.hid hall
        clear hf12 h12 hall HR0
        cases r0
        · go_wp2_with fail
          exact ⟨⟨k + 1, by go_num, by omega, by rw [HAll.out]; rfl, HF, HO2.out, HB2.out⟩, by simp [intOf]; omega⟩
        · go_wp2_with fail
          refine (rtxright_any q.side q.acc q.n q.A q.len q.cap q.ms w2 (HQk.out.1.2.2.1.below HB2.out) hcm).mono ?_
          rintro _ w3 ⟨rfl, hb3⟩
          have HO3 := Lib.hid (own_below HO2.out hb3)
          have HB3 := Lib.hid (HB2.out.trans (hb3.mono HB2.out.size))
          clear hb3 c0 c1 c2 c3 HO2 HB2
          go_wp2_with fail
          exact ⟨⟨k + 1, by go_num, by omega, by rw [HAll.out]; rfl, HF, HO3.out, HB3.out⟩, by simp [intOf]; omega⟩
    · obtain rfl : k = n := by omega
      have hlen := HR.out.1
      have htake : qs.take k = qs := List.take_of_length_le (by omega)
      rw [htake] at h12 ⊢
      have har : qs.all tq = allR qs := rfl
      rw [har]
      clear htake har hlt hk
      have HLen := Lib.hid hlen
      have hds : ∀ q ∈ qs, Rd wr q.A q.len q.ms ∧ q.len ≤ 9223372036854775807 ∧ (0 ≤ q.n ∧ q.n < 18446744073709551616) ∧ ∀ m ∈ q.ms, m.wf := fun q hq => ⟨((HQ.out q hq).1.2.2.1).below HB.out, by have := (HQ.out q hq).1.1; have := (HQ.out q hq).1.2.1; unfold maxLen at this; omega, (HQ.out q hq).1.2.2.2, (HQ.out q hq).2⟩
      have HDs := Lib.hid hds
      clear hlen hds
      obtain ⟨g, hg⟩ : ∃ g, g = allR qs := ⟨_, rfl⟩
      rw [← hg]
      have HG := Lib.hid hg
      clear hg
      cases long
      · have htp := tpack_any A k c qs wr (HR.out.below HB.out) HDs.out (by omega)
        rw [← HG.out] at htp
        have hps : (packS qs).size ≤ 1000000 := packS_size qs (by have := HLen.out; omega)
        obtain ⟨S, hS⟩ : ∃ S, S = packS qs := ⟨_, rfl⟩
        rw [← hS] at htp hps
        have HS := Lib.hid hS
        have HTp := Lib.hid htp
        have HPs := Lib.hid hps
        clear htp hS hps
        go_wp2_with fail
        refine HTp.out.mono ?_
        rintro _ w3 ⟨rfl, hb3⟩
        have HO3 := Lib.hid (own_below HO.out hb3)
        have HB3 := Lib.hid (HB.out.trans (hb3.mono HB.out.size))
        clear hb3 HO HTp HDs
        cases g
        · have HSe : Hid (S = ⟨#[]⟩) := Lib.hid (by rw [HS.out, packS, ← HG.out]; rfl)
          obtain rfl := HSe.out
          go_wp2_with fail
          refine (awake_any _).mono ?_
          rintro _ w4 ⟨rfl, hb4⟩
          have HB4 := Lib.hid (HB3.out.trans (hb4.mono HB3.out.size))
          clear hb4
          go_wp2
          go_ret
          exact ⟨rfl, HB4.out⟩
        · clear HB
          have hgd : ∀ q ∈ qs, tq q = true := List.all_eq_true.1 HG.out.symm
          have HGd := Lib.hid hgd
          clear hgd
          go_wp2_with fail
          go_loopw [6, 12] (fun l i wr => ∃ j : Nat, i = .int .i64 (j : Int) ∧ j ≤ k ∧ wr.ownsRow w.heap.size 9 1 l j (((qs.take j).map tbq).map Value.string) ∧ Below w.heap.size w wr) (fun _ i _ => k - (intOf i).toNat)
          case atStart => exact ⟨0, rfl, Nat.zero_le _, HO3.out, HB3.out⟩
          case round =>
            obtain ⟨j, rfl, hj, hown, hB⟩ := hrel
            obtain ⟨Al, cl, rfl⟩ := own_form hown
            have HO4 := Lib.hid hown
            have HB4 := Lib.hid hB
            clear hown hB
            by_cases hlt : j < k
            · have hjq : j < qs.length := by have := HLen.out; omega
              obtain ⟨b, off, hAe, hbl, a0, a1, a2, a3⟩ := HR.out.at hjq
              subst hAe
              have hqk := HQ.out _ (List.getElem_mem hjq)
              have htq := HGd.out _ (List.getElem_mem hjq)
              have htk : qs.take (j + 1) = qs.take j ++ [qs[j]] := List.take_succ_eq_append_getElem hjq
              generalize qs[j] = q at a0 a1 a2 a3 hqk htk htq
              have HT := Lib.hid htk
              have hi0 : (0 : Int) ≤ (j : Int) := by omega
              have hi2 : (j : Int) < (k : Int) := by omega
              have hi3 : (j : Int) ≤ 1024 := by omega
              have c0 := (HB4.out.cell (p := ⟨b, off + j * 4, none⟩) hbl).trans a0
              have c1 := (HB4.out.cell (p := ⟨b, off + j * 4 + 1, none⟩) hbl).trans a1
              have c2 := (HB4.out.cell (p := ⟨b, off + j * 4 + 2, none⟩) hbl).trans a2
              have c3 := (HB4.out.cell (p := ⟨b, off + j * 4 + 3, none⟩) hbl).trans a3
              have hpt := rtxput_yes q wr (hqk.1.2.2.1.below HB4.out) hqk.1.2.2.2 hqk.2 htq
              have htb : tB q.side q.acc q.n q.ms = tbq q := rfl
              generalize tB q.side q.acc q.n q.ms = D at hpt htb
              have HPt := Lib.hid hpt
              have HTb := Lib.hid htb
              clear hpt htb a0 a1 a2 a3 hqk htk htq
              go_wp2_with fail
              refine HPt.out.mono ?_
              rintro _ w4 ⟨rfl, b4⟩
              have HO5 := Lib.hid (own_below HO4.out b4)
              have HB5 := Lib.hid (HB4.out.trans (b4.mono HB4.out.size))
              have hz4 : w.heap.size ≤ w4.heap.size := HB5.out.size
              clear b4 c0 c1 c2 c3 HO4 HB4 HPt
              go_wp2_with (at_builtin; refine wpList_append_own _ rfl _ _ 24 rfl w.heap.size 9 i0 (.string ⟨#[]⟩) 1 16 Try.underlying24 HI.out.1 HI.out.2.1 HI.out.2.2.1 HI.out.2.2.2 rfl (by decide) _ _ _ rfl (HO5.out.alloc _) ⟨w4.heap.size, 0, none⟩ 1 1 [.string D] rfl rfl (news1 w4 _ _) (one_one rfl) (by unfold maxLen; omega) (by omega) (by simp; omega) ?_; intro v5 w5 hown5 hg5 _)
              have hB5 := below_push HB5.out hz4 HO5.out hg5
              refine ⟨⟨j + 1, by go_num, by omega, ?_, hB5⟩, by simp [intOf]; omega⟩
              rw [HT.out, List.map_append, List.map_append]
              have e : ([q].map tbq).map Value.string = [.string D] := by rw [HTb.out]; rfl
              rw [e]
              exact hown5
            · obtain rfl : j = k := by omega
              have htake : qs.take j = qs := List.take_of_length_le (by have := HLen.out; omega)
              rw [htake] at HO4
              have hup := fun W => tunpack_any S (by have := HPs.out; omega) W
              have hub := unpack_back qs HG.out.symm (fun q hq => ⟨(HQ.out q hq).1.2.2.2, (HQ.out q hq).2⟩) (by have := HLen.out; omega)
              rw [← HS.out] at hub
              rw [hub] at hup
              have HUp := Lib.hid hup
              clear hup hub htake
              go_wp2_with fail
              refine (HUp.out _).mono ?_
              rintro _ w4 ⟨⟨v, ps, rfl, hrow, hkeys⟩, b4⟩
              obtain ⟨A5, c5, rfl⟩ := own_formN hrow.row
              obtain ⟨hl5, hsim⟩ := sim_of ps qs w4 w _ _ hkeys hrow HG.out.symm (fun q hq => ⟨(HQ.out q hq).1.2.2.1, (HQ.out q hq).1.2.2.2.1⟩)
              have hl6 : ps.length = j := by have := HLen.out; omega
              rw [hl6] at hrow ⊢
              have HRow := Lib.hid (show TxRow wr.heap.size w4 (.slice A5 ps.length c5) ps by rw [hl6]; exact hrow)
              have HSi := Lib.hid (And.intro hl6 hsim)
              have HO5 := Lib.hid (own_below HO4.out b4)
              have HB5 := Lib.hid (HB4.out.trans (b4.mono HB4.out.size))
              clear b4 hrow hkeys hl5 hl6 hsim HO4 HB4 HUp
              go_wp2_with fail
              refine (awake_any _).mono ?_
              rintro _ w5 ⟨rfl, b5⟩
              have HRow5 := Lib.hid (HRow.out.below b5)
              have HO6 := Lib.hid (own_below HO5.out b5)
              have HB6 := Lib.hid (HB5.out.trans (b5.mono HB5.out.size))
              clear b5 HRow HO5 HB5
              have hls : (qs.map tbq).length = j := by have := HLen.out; simp; omega
              have hrd : RdS w5 Al j (qs.map tbq) := by
                have h9 := HO6.out
                rw [← hls] at h9 ⊢
                exact own_rds h9
              have hrl := ref_list_wide Al j cl (qs.map tbq) w5 hrd (by omega) (fun i => by
                rw [List.getD_eq_getElem?_getD]
                by_cases hi : i < (qs.map tbq).length
                · rw [List.getElem?_eq_getElem hi]
                  obtain ⟨q, hq, he⟩ := List.mem_map.1 (List.getElem_mem hi)
                  have := tbq_size q (HGd.out q hq)
                  show ((qs.map tbq)[i]).size ≤ _
                  rw [← he]; omega
                · rw [List.getElem?_eq_none (by omega)]; exact Nat.zero_le _)
              have hSe : S = ⟨(listL (qs.map tbq)).toArray⟩ := by rw [HS.out, packS, ← HG.out]; rfl
              rw [← hSe] at hrl
              have HRl := Lib.hid hrl
              clear hrl hrd hls hSe
              go_wp2_with fail
              refine HRl.out.mono ?_
              rintro _ w6 ⟨rfl, b6⟩
              have HRow6 := Lib.hid (HRow5.out.below b6)
              have HB7 := Lib.hid (HB6.out.trans (b6.mono HB6.out.size))
              clear b6 HRow5 HO6 HB6 HRl
              have hsa := sameall_any A5 A j c5 c ps qs w6 (by
                have := rowX HRow6.out.row rfl
                rw [HSi.out.1] at this
                exact this) (HR.out.below HB7.out) (by omega) HSi.out.2 (fun p hp => by
                have h1 := HRow6.out.own p hp
                refine ⟨row_at h1.2 h1.1.symm, ?_⟩
                obtain ⟨i, hi, rfl⟩ := List.getElem_of_mem hp
                have hi2 : i < qs.length := by have := HSi.out.1; have := HLen.out; omega
                have h2 := (HSi.out.2 i hi hi2).2.2.2.1
                have h3 := h12.out _ (List.getElem_mem hi2)
                omega) (fun q hq => ((HQ.out q hq).1.2.2.1).below HB7.out)
              have HSa := Lib.hid hsa
              clear hsa
              go_wp2_with fail
              refine HSa.out.mono ?_
              rintro _ w7 ⟨rfl, b7⟩
              have HB8 := Lib.hid (HB7.out.trans (b7.mono HB7.out.size))
              clear b7
              go_wp2
              go_ret
              exact ⟨rfl, HB8.out⟩
      · obtain ⟨Am, wm, hmk, hbm⟩ := make_txs wr
        have HBm := Lib.hid (HB.out.trans (hbm.mono HB.out.size))
        clear hbm
        go_wp2_with fail
        clear hmk
        refine (tpack_full Am 1025 1025 wm (by decide)).mono ?_
        rintro _ w4 ⟨rfl, hb4⟩
        have HB4 := Lib.hid (HBm.out.trans (hb4.mono HBm.out.size))
        clear hb4
        go_wp2_with fail
        refine (awake_any _).mono ?_
        rintro _ w5 ⟨rfl, hb5⟩
        have HB5 := Lib.hid (HB4.out.trans (hb5.mono HB4.out.size))
        clear hb5
        go_wp2
        go_ret
        exact ⟨rfl, HB5.out⟩
end Go.Proofs.Ytfalmebgjghjeaa.Msg
