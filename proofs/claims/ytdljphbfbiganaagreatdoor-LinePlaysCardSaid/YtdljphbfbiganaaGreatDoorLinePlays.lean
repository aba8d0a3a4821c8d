/- LinePlays: the law. -/
import Derived.Test.YtdljphbfbiganaaGreatDoorTk
import Derived.Test.YtdljphbfbiganaaGreatDoorPlLawW
import Derived.Deep.CutBlock
import Derived.Deep.DeepCutAuto
namespace Go.Proofs.YtdljphbfbiganaaGreatDoor.Pl
open Go Go.RowKit Packet Mg Lg Ln Lo
set_option linter.unusedVariables false
set_option linter.unusedSimpArgs false

theorem neq_pk (q : P5) (W : World) : (binOp .neq TPk (pval q) (pval q)).run Tryz.prog W = .ok (.bool false) W := by
  unfold pval
  go_simp
theorem pval_size (q : P5) : ∃ C : Array Value, pval q = .agg C ∧ C.size = 5 ∧ C.all (·.oneCell') = true ∧ C = #[.int .i64 q.c, .int .i64 q.f, .int .u64 q.s, .int .u64 q.t, .string q.d] := ⟨_, rfl, rfl, by simp [Value.oneCell'], rfl⟩
theorem ac_cells {V : World} {b off i : Nat} {kd sd h : Int} {p : P5} {a : ByteArray} (hc : AcAt V b off i ⟨kd, sd, p, h, a⟩) : V.cell? ⟨b, off + i * 9 + 2, none⟩ = some (.int .i64 p.c) ∧ V.cell? ⟨b, off + i * 9 + 3, none⟩ = some (.int .i64 p.f) ∧ V.cell? ⟨b, off + i * 9 + 4, none⟩ = some (.int .u64 p.s) ∧ V.cell? ⟨b, off + i * 9 + 5, none⟩ = some (.int .u64 p.t) ∧ V.cell? ⟨b, off + i * 9 + 6, none⟩ = some (.string p.d) ∧ V.cell? ⟨b, off + i * 9 + 7, none⟩ = some (.int .u64 h) ∧ V.cell? ⟨b, off + i * 9 + 8, none⟩ = some (.string a) :=
  ⟨hc 2 (by decide), hc 3 (by decide), hc 4 (by decide), hc 5 (by decide), hc 6 (by decide), hc 7 (by decide), hc 8 (by decide)⟩
theorem i5 (C : Array Value) (h : C.size = 5) : (Tryz.prog.info? TPk).map (·.size) = some C.size := by rw [h]; kernel_rfl
abbrev Z5 : Array Value := #[.int .i64 0, .int .i64 0, .int .u64 0, .int .u64 0, .string ⟨#[]⟩]
set_option maxRecDepth 20000 in
set_option maxHeartbeats 16000000 in
theorem law (ch : Int) (o : Bool) (A : Option Addr) (len cap : Nat) (qs : List Ac) (W : World) (hT : Sha.Tab W) (hq : RdA W A len qs) (hlm : len ≤ 9223372036854775807) :
    Calls Tryz.prog 3 #[.int .i64 ch, .bool o, .slice A len cap] W fun e w' => e = .returned (.bool true) ∧ Below W.heap.size W w' := by
  have HT := Lib.hid hT
  have HQ := Lib.hid hq
  have HLM := Lib.hid hlm
  clear hT hq hlm
  go_enter Tryz.func3, Tryz.ntmps3
  go_wp2_with fail
  refine (few_any A len cap qs _ HQ.out HLM.out).mono ?_
  rintro _ w1 ⟨⟨b, rfl, hb⟩, b1⟩
  have H1 := Lib.hid (And.intro b1 hb)
  clear b1 hb
  cases b
  · go_wp2_with fail
    refine (awake_any _ (Sha.tab_below HT.out H1.out.1)).mono ?_
    rintro _ w9 ⟨rfl, b9⟩
    have hbe := H1.out.1.trans (b9.mono H1.out.1.size)
    clear b9
    go_wp2
    go_ret
    exact ⟨rfl, hbe⟩
  have hfew := H1.out.2 rfl
  have HF := Lib.hid hfew.1
  have hl := hfew.2
  clear hfew
  by_cases hch : ch < 0 ∨ 3 < ch
  · go_wp2_with fail
    refine (lnew_bad ch 0 o hch _).mono ?_
    rintro _ w2 ⟨rfl, hw⟩
    obtain rfl := hw.symm
    clear hw
    go_wp2_with fail
    refine (lnew_bad ch 1 o hch _).mono ?_
    rintro _ w2 ⟨rfl, hw⟩
    obtain rfl := hw.symm
    clear hw
    rcases (show ch < 0 ∨ (¬ ch < 0 ∧ 3 < ch) by omega) with g | ⟨g, g2⟩
    all_goals
      clear hch
      go_wp2_with fail
      refine (awake_any _ (Sha.tab_below HT.out H1.out.1)).mono ?_
      rintro _ w9 ⟨rfl, b9⟩
      have hbe := H1.out.1.trans (b9.mono H1.out.1.size)
      clear b9
      go_wp2
      go_ret
      exact ⟨rfl, hbe⟩
  have h0 : 0 ≤ ch := by omega
  have h3 : ch ≤ 3 := by omega
  clear hch
  go_wp2_with fail
  refine (lnew_g ch 0 o h0 h3 (by decide) _).mono ?_
  rintro _ w2 ⟨⟨E, M, N, rfl, l1, e1, e2, e3⟩, b2⟩
  have H2 := Lib.hid (And.intro (H1.out.1.trans (b2.mono H1.out.1.size)) (And.intro l1 (And.intro e1 (And.intro e2 e3))))
  have HS1 := Lib.hid H1.out.1.size
  clear l1 e1 e2 e3 b2
  go_wp2_with fail
  refine (lnew_g ch 1 o h0 h3 (by decide) _).mono ?_
  rintro _ w3 ⟨⟨E', M', N', rfl, l2, e1, e2, e3⟩, b3⟩
  have H3 := Lib.hid (And.intro (H2.out.1.trans (b3.mono H2.out.1.size)) (And.intro (H2.out.2.1.below b3) (And.intro l2 (And.intro e1 (And.intro e2 (And.intro e3 (And.intro H2.out.2.1.lt H2.out.2.2)))))))
  have HS2 := Lib.hid (And.intro H2.out.1.size H1.out.1.size)
  clear l2 e1 e2 e3 b3
  have g0 : ¬ ch < 0 := by omega
  have g1 : ¬ 3 < ch := by omega
  clear h0 h3
  go_wp2_with fail
  refine (pnew_any ch 0 o _).mono ?_
  rintro _ w4 ⟨rfl, q1, b4⟩
  have H4 := Lib.hid (And.intro q1 b4)
  clear q1 b4 g0 g1
  go_wp2_with fail
  refine (pnew_any ch 1 o _).mono ?_
  rintro _ w5 ⟨rfl, q2, b5⟩
  obtain ⟨s0, hs0⟩ : ∃ s0 : St, s0 = ⟨ch, 0, o, false, 1, 1, 1, [], []⟩ := ⟨_, rfl⟩
  obtain ⟨s1, hs1⟩ : ∃ s1 : St, s1 = ⟨ch, 1, o, false, 1, 1, 1, [], []⟩ := ⟨_, rfl⟩
  obtain ⟨B, hB⟩ : ∃ B, B = w3.heap.size := ⟨_, rfl⟩
  obtain ⟨B', hB'⟩ : ∃ B', B' = w4.heap.size := ⟨_, rfl⟩
  have hyw : Yw W w5 E M N s0 E' M' N' s1 B s0 B' s1 := by
    obtain ⟨hb3, l0, l2, e1, e2, e3, lt0, f1, f2, f3⟩ := H3.out
    have c5 := HS2.out.1
    have c6 := HS2.out.2
    have c7 := H4.out.1
    have c8 := H4.out.2
    have c9 := hb3.size
    have cA := c8.size
    have cB := c7.lt
    rw [hs0, hs1, hB, hB']
    have hbl := (hb3.trans (c8.mono c9)).trans (b5.mono (Nat.le_trans c9 cA))
    have r1 : PN W.heap.size w5 w3.heap.size ⟨ch, 0, o, false, 1, 1, 1, [], []⟩ none 0 0 none 0 0 := ⟨(c7.below b5).box, own_baseT (c7.below b5).rc (by omega), own_baseT (c7.below b5).ra (by omega), (c7.below b5).d, (c7.below b5).cok, (c7.below b5).aok⟩
    have r2 : PN W.heap.size w5 w4.heap.size ⟨ch, 1, o, false, 1, 1, 1, [], []⟩ none 0 0 none 0 0 := ⟨q2.box, own_baseT q2.rc (by omega), own_baseT q2.ra (by omega), q2.d, q2.cok, q2.aok⟩
    exact ⟨hbl, Sha.tab_below HT.out hbl, (l0.below c8).below b5, (l2.below c8).below b5, by omega, by omega, by omega, _, _, _, _, _, _, _, _, _, _, _, _, r1, r2, fun k hk => by rcases hk with hk | hk <;> cases hk⟩
  have hg : Gd s0 0 ∧ Gd s1 0 ∧ s0.sd = 0 ∧ s1.sd = 1 := by rw [hs0, hs1]; exact ⟨Gd.new _ _ _ _, Gd.new _ _ _ _, rfl, rfl⟩
  have H5 := Lib.hid (And.intro hyw hg)
  rw [← hB, ← hB']
  clear hyw hg hs0 hs1 hB hB' q2 b5 H4 H3 HS2 HS1 H2 H1
  go_wp2_with fail
  go_loopw [13] (fun s13 wr => ∃ (i : Nat) (s s' : St), s13 = .int .i64 (i : Int) ∧ i ≤ len ∧ Hid (Yw W wr E M N s E' M' N' s' B s B' s' ∧ Gd s i ∧ Gd s' i ∧ s.sd = 0 ∧ s'.sd = 1)) (fun vi _ => len - (intOf vi).toNat)
  case atStart => exact ⟨0, s0, s1, rfl, Nat.zero_le _, Lib.hid H5.out⟩
  case round =>
    clear H5
    obtain ⟨i, s, s', rfl, hi, HS⟩ := hrel
    by_cases hlt : i < len
    · have hi0 : (0 : Int) ≤ (i : Int) := by omega
      have hi1 : (i : Int) < (len : Int) := by omega
      have hi6 : i + 1 ≤ 1000000 := by omega
      obtain ⟨b9, off, hAq, hbl, hcs⟩ := HQ.out.cells (by omega)
      have hlq : i < qs.length := by have := HQ.out.many; omega
      have hat := hcs i hlq
      have hok := HQ.out.ok _ (List.getElem_mem hlq)
      have hsm := HF.out _ (List.getElem_mem hlq)
      obtain ⟨q, hqq⟩ : ∃ q, q = qs[i] := ⟨_, rfl⟩
      rw [← hqq] at hat hok hsm
      subst hAq
      clear hcs hqq
      obtain ⟨kd, sd, p, h, a⟩ := q
      have HAT : Hid (∀ V, Below W.heap.size W V → AcAt V b9 off i ⟨kd, sd, p, h, a⟩) := Lib.hid fun V hb => hat.keep (hb.block b9 hbl)
      have HOK : Hid (P5.ok p ∧ a.size ≤ 1000000) := Lib.hid ⟨hok.p, by have := hsm.2; simp only at this; omega⟩
      have hkd0 : 0 ≤ kd := hok.kd.1
      have hsd0 : 0 ≤ sd := hok.sd.1
      have q1 : wr.cell? ⟨b9, off + i * 9 + 1, none⟩ = some (.int .u8 sd) := HAT.out _ HS.out.1.bel 1 (by decide)
      have hj : sd % 2 = 0 ∨ sd % 2 = 1 := by omega
      clear hat hok hsm hbl hlq
      go_upto_if 93 with fail
      go_cut [14, 15, 16, 17] from 77 to 241 (fun s14 s15 s16 s17 wx => ∃ (Ea Ma Na : Nat) (sa : St) (Eb Mb Nb : Nat) (sb : St) (Ba Bb : Nat), s14 = .pointer (some ⟨Ea, 0, none⟩) ∧ s15 = .pointer (some ⟨Eb, 0, none⟩) ∧ s16 = .pointer (some ⟨Ba, 0, none⟩) ∧ s17 = .pointer (some ⟨Bb, 0, none⟩) ∧ wx = wr ∧ Hid (Yw W wr Ea Ma Na sa Eb Mb Nb sb Ba sa Bb sb ∧ Gd sa i ∧ Gd sb i ∧ (sa.sd = 0 ∨ sa.sd = 1) ∧ (∀ V s2, Yw W V Ea Ma Na s2 Eb Mb Nb sb Ba s2 Bb sb → Gd s2 (i + 1) → s2.sd = sa.sd → ∃ s s', Yw W V E M N s E' M' N' s' B s B' s' ∧ Gd s (i + 1) ∧ Gd s' (i + 1) ∧ s.sd = 0 ∧ s'.sd = 1)))
      case first =>
        rcases hj with hj | hj
        · have hb0 : (sd % 2 == 1) = false := by simp; omega
          have hb1 : (sd.tmod 2 == 1) = false := by rw [Int.tmod_eq_emod_of_nonneg hsd0]; exact hb0
          clear hj
          go_wp2
          go_meet
          exact ⟨E, M, N, s, E', M', N', s', B, B', rfl, rfl, rfl, rfl, rfl, Lib.hid ⟨HS.out.1, HS.out.2.1, HS.out.2.2.1, .inl HS.out.2.2.2.1, fun V s2 hy hg hd => ⟨s2, s', hy, hg, HS.out.2.2.1.more (Nat.le_succ _), hd.trans HS.out.2.2.2.1, HS.out.2.2.2.2⟩⟩⟩
        · have hb0 : (sd % 2 == 1) = true := by simp; omega
          have hb1 : (sd.tmod 2 == 1) = true := by rw [Int.tmod_eq_emod_of_nonneg hsd0]; exact hb0
          clear hj
          go_wp2
          go_meet
          exact ⟨E', M', N', s', E, M, N, s, B', B, rfl, rfl, rfl, rfl, rfl, Lib.hid ⟨HS.out.1.swap, HS.out.2.2.1, HS.out.2.1, .inr HS.out.2.2.2.2, fun V s2 hy hg hd => ⟨s, s2, hy.swap, HS.out.2.1.more (Nat.le_succ _), hg, HS.out.2.2.2.1, hd.trans HS.out.2.2.2.2⟩⟩⟩
      case rest =>
        obtain ⟨Ea, Ma, Na, sa, Eb, Mb, Nb, sb, Ba, Bb, rfl, rfl, rfl, rfl, hwc, HP⟩ := hcut
        obtain rfl := hwc.symm
        clear hwc q1 hj
        have hx : IntKind.i64.wrap (1 - sa.sd) = 1 - sa.sd := by rcases HP.out.2.2.2.1 with e | e <;> rw [e] <;> decide
        have HX := Lib.hid hx
        have q0 : wr.cell? ⟨b9, off + i * 9, none⟩ = some (.int .u8 kd) := HAT.out _ HS.out.1.bel 0 (by decide)
        have q0' : wr.cell? ⟨b9, off + i * 9 + 0, none⟩ = some (.int .u8 kd) := q0
        clear hx HS
        have HPd := Lib.hid (HP.out.1.below (Below.refl _ _).drew)
        by_cases hk0 : kd % 4 = 0
        · have z0 : (kd % 4 == 0) = true := by simp [hk0]
          have z0t : (kd.tmod 4 == 0) = true := by rw [Int.tmod_eq_emod_of_nonneg hkd0]; exact z0
          clear hk0
          as_aux_lemma =>
          obtain ⟨C, hCv, hC5, hCo, -⟩ := pval_size (sendP sa p h)
          have hneq := fun W => neq_pk (sendP sa p h) W
          rw [hCv] at hneq
          have HC := Lib.hid (And.intro hC5 hCo)
          have HNq := Lib.hid hneq
          obtain ⟨s2, hs2⟩ : ∃ s2, s2 = sendS sa p h := ⟨_, rfl⟩
          obtain ⟨cc9, hc9⟩ : ∃ c9, c9 = sendC sa p h := ⟨_, rfl⟩
          have HS2 := Lib.hid hs2.symm
          have HSF : Hid (∀ V, Yw W V Ea Ma Na sa Eb Mb Nb sb Ba sa Bb sb → Calls Tryz.prog 8 #[.pointer (some ⟨Ea, 0, none⟩), pkv p, .int .u64 h] V fun e w' => e = .returned (.tuple #[.agg C, .int .i64 cc9]) ∧ Yw W w' Ea Ma Na s2 Eb Mb Nb sb Ba sa Bb sb ∧ PkF V w') := Lib.hid fun V hy => by rw [hs2, hc9, ← hCv]; exact hy.sendF HP.out.2.1 p HOK.out.1 h
          have HPF : Hid (∀ V, Yw W V Ea Ma Na s2 Eb Mb Nb sb Ba sa Bb sb → Calls Tryz.prog 9 #[.pointer (some ⟨Ba, 0, none⟩), pkv p, .int .u64 h] V fun e w' => e = .returned (.tuple #[.agg C, .int .i64 cc9]) ∧ Yw W w' Ea Ma Na s2 Eb Mb Nb sb Ba s2 Bb sb ∧ PkF V w') := Lib.hid fun V hy => by rw [hs2] at hy ⊢; rw [hc9, ← hCv]; exact hy.psendF HT.out HP.out.2.1 (Nat.le_of_succ_le hi6) p HOK.out.1 h
          have HPq := Lib.hid HP.out.1
          clear hs2 hc9 hCv hneq hC5 hCo q0'
          have HD20 := HPq.out.below (Below.refl _ _).drew
          go_upto_region 20 with fail
          refine wp_region_held_drew (S := (fun V => Below W.heap.size W V)) (by kernel_rfl) HD20.bel (fun hHeld => ?_)
          obtain ⟨wd1, hwd⟩ : ∃ X, X = wr.drew := ⟨_, rfl⟩
          rw [← hwd] at HD20 hHeld ⊢
          clear hwd
          have HD2 := Lib.hid HD20
          clear HD20
          refine tk (i := 0) (v := ?_) rfl (by kernel_rfl) (fun _ _ _ h => h) (by rfl) ?_ (by assumption) ?_
          rotate_left
          · (intro W hSw; have hc := ac_cells (HAT.out _ hSw); go_simp; try with_reducible rfl)
          try simp only [Act.put, gA, gS, gZ, sA, sZ, sS]
          refine tk (i := 1) (v := ?_) rfl (by kernel_rfl) (fun _ _ _ h => h) (by rfl) ?_ (by assumption) ?_
          rotate_left
          · (intro W hSw; have hc := ac_cells (HAT.out _ hSw); go_simp; try with_reducible rfl)
          try simp only [Act.put, gA, gS, gZ, sA, sZ, sS]
          refine tk (i := 2) (v := ?_) rfl (by kernel_rfl) (fun _ _ _ h => h) (by rfl) ?_ (by assumption) ?_
          rotate_left
          · (intro W hSw; have hc := ac_cells (HAT.out _ hSw); go_simp; try with_reducible rfl)
          try simp only [Act.put, gA, gS, gZ, sA, sZ, sS]
          refine tk (i := 3) (v := ?_) rfl (by kernel_rfl) (fun _ _ _ h => h) (by rfl) ?_ (by assumption) ?_
          rotate_left
          · (intro W hSw; have hc := ac_cells (HAT.out _ hSw); go_simp; try with_reducible rfl)
          try simp only [Act.put, gA, gS, gZ, sA, sZ, sS]
          refine tk (i := 4) (v := ?_) rfl (by kernel_rfl) (fun _ _ _ h => h) (by rfl) ?_ (by assumption) ?_
          rotate_left
          · (intro W hSw; have hc := ac_cells (HAT.out _ hSw); go_simp; try with_reducible rfl)
          try simp only [Act.put, gA, gS, gZ, sA, sZ, sS]
          refine tk (i := 5) (v := ?_) rfl (by kernel_rfl) (fun _ _ _ h => h) (by rfl) ?_ (by assumption) ?_
          rotate_left
          · (intro W hSw; have hc := ac_cells (HAT.out _ hSw); go_simp; try with_reducible rfl)
          try simp only [Act.put, gA, gS, gZ, sA, sZ, sS]
          refine tk (i := 6) (v := ?_) rfl (by kernel_rfl) (fun _ _ _ h => h) (by rfl) ?_ (by assumption) ?_
          rotate_left
          · (intro W hSw; have hc := ac_cells (HAT.out _ hSw); go_simp; try with_reducible rfl)
          try simp only [Act.put, gA, gS, gZ, sA, sZ, sS]
          refine tk (i := 7) (v := ?_) rfl (by kernel_rfl) (fun _ _ _ h => h) (by rfl) ?_ (by assumption) ?_
          rotate_left
          · (intro W hSw; have hc := ac_cells (HAT.out _ hSw); go_simp; try with_reducible rfl)
          try simp only [Act.put, gA, gS, gZ, sA, sZ, sS]
          refine tk (i := 8) (v := ?_) rfl (by kernel_rfl) (fun _ _ _ h => h) (by rfl) ?_ (by assumption) ?_
          rotate_left
          · (intro W hSw; have hc := ac_cells (HAT.out _ hSw); go_simp; try with_reducible rfl)
          try simp only [Act.put, gA, gS, gZ, sA, sZ, sS]
          refine tk (i := 9) (v := ?_) rfl (by kernel_rfl) (fun _ _ _ h => h) (by rfl) ?_ (by assumption) ?_
          rotate_left
          · (intro W hSw; have hc := ac_cells (HAT.out _ hSw); go_simp; try with_reducible rfl)
          try simp only [Act.put, gA, gS, gZ, sA, sZ, sS]
          refine tk (i := 10) (v := ?_) rfl (by kernel_rfl) (fun _ _ _ h => h) (by rfl) ?_ (by assumption) ?_
          rotate_left
          · (intro W hSw; have hc := ac_cells (HAT.out _ hSw); go_simp; try with_reducible rfl)
          try simp only [Act.put, gA, gS, gZ, sA, sZ, sS]
          refine wpAnyH_ready (rs := [11, 15]) (by kernel_rfl) (by simp) ?_
          refine AllReadyH.cons rfl (fun K hK => ?_) (AllReadyH.cons rfl (fun K hK => ?_) AllReadyH.nil)
          · as_aux_lemma =>
            simp only [gA, gS, gZ]
            rw [if_pos (by rfl)]
            go_simp
            refine (HSF.out _ HD2.out).mono ?_
            rintro e wa3 ⟨rfl, hy2, hf2⟩
            have HA4 := Lib.hid hy2
            clear hy2 hf2
            go_wp2_with fail
            refine hK.out _ _ HA4.out.bel (fun hHeld => ?_)
            clear hK K
            try simp only [Act.put, gA, gS, gZ, sA, sZ, sS]
            refine tk (i := 12) (v := ?_) rfl (by kernel_rfl) (fun _ _ _ h => h) (by rfl) ?_ (by assumption) ?_
            rotate_left
            · (intro W hSw; have hc := ac_cells (HAT.out _ hSw); go_simp; try with_reducible rfl)
            try simp only [Act.put, gA, gS, gZ, sA, sZ, sS]
            refine tk (i := 13) (v := ?_) rfl (by kernel_rfl) (fun _ _ _ h => h) (by rfl) ?_ (by assumption) ?_
            rotate_left
            · (intro W hSw; have hc := ac_cells (HAT.out _ hSw); go_simp; try with_reducible rfl)
            try simp only [Act.put, gA, gS, gZ, sA, sZ, sS]
            refine tk (i := 14) (v := ?_) rfl (by kernel_rfl) (fun _ _ _ h => h) (by rfl) ?_ (by assumption) ?_
            rotate_left
            · (intro W hSw; have hc := ac_cells (HAT.out _ hSw); go_simp; try with_reducible rfl)
            try simp only [Act.put, gA, gS, gZ, sA, sZ, sS]
            refine wpAnyH_ready (rs := [15]) (by kernel_rfl) (by simp) ?_
            refine AllReadyH.cons rfl (fun K hK => ?_) AllReadyH.nil
            simp only [gA, gS, gZ]
            rw [if_pos (by rfl)]
            go_simp
            refine hK.out _ _ (HA4.out.bel.alloc HA4.out.bel.size _) (fun hHeld => ?_)
            clear hK K
            try simp only [Act.put, gA, gS, gZ, sA, sZ, sS]
            have hst := run_storeCells_new (P := Tryz.prog) wa3 TPk #[.int .i64 0, .int .i64 0, .int .u64 0, .int .u64 0, .string ⟨#[]⟩] C (i5 C HC.out.1) (by rw [HC.out.1]; rfl) HC.out.2
            have hCz := HC.out.1
            refine wpAnyH_ready (rs := [16]) (by kernel_rfl) (by simp) ?_
            refine AllReadyH.cons rfl (fun K hK => ?_) AllReadyH.nil
            simp only [gA, gS, gZ]
            rw [if_pos (by rfl)]
            go_simp
            refine hK.out _ _ (HA4.out.bel.alloc HA4.out.bel.size _) (fun hHeld => ?_)
            clear hK K
            try simp only [Act.put, gA, gS, gZ, sA, sZ, sS]
            refine tk (i := 17) (v := ?_) rfl (by kernel_rfl) (fun _ _ _ h => h) (by rfl) ?_ (by assumption) ?_
            rotate_left
            · (intro W hSw; have hc := ac_cells (HAT.out _ hSw); go_simp; try with_reducible rfl)
            try simp only [Act.put, gA, gS, gZ, sA, sZ, sS]
            refine wpAnyH_done (by kernel_rfl) ?_ _
            clear hst hCz hHeld
            have hbl := (Below.refl wa3.heap.size wa3).alloc (Nat.le_refl _) (.cells C TPk)
            have HC60 := HA4.out.below hbl
            have HG80 : (wa3.alloc (.cells C TPk)).heap[wa3.heap.size]? = some (.cells C TPk (0, 0)) := heap_alloc_new _ _
            obtain ⟨G7, hG⟩ : ∃ X, X = wa3.heap.size := ⟨_, rfl⟩
            obtain ⟨wb5, hw3⟩ : ∃ X, X = wa3.alloc (.cells C TPk) := ⟨_, rfl⟩
            rw [← hw3] at HC60 HG80 ⊢
            rw [← hG] at HG80 ⊢
            have HC6 := Lib.hid HC60
            have HG8 := Lib.hid HG80
            clear hbl hw3 hG HC60 HG80 
            have HD100 := HC6.out.below (Below.refl _ _).drew
            have hb11 : wb5.drew.heap[G7]? = some (.cells C TPk (0, 0)) := HG8.out
            go_upto_region 21 with fail
            refine wp_region_held_drew (S := (fun V => Below W.heap.size W V)) (by kernel_rfl) HD100.bel (fun hHeld => ?_)
            obtain ⟨wd9, hwd⟩ : ∃ X, X = wb5.drew := ⟨_, rfl⟩
            rw [← hwd] at hb11 HD100 hHeld ⊢
            clear hwd
            have HD10 := Lib.hid HD100
            clear HD100
            have Hhb11 := Lib.hid hb11
            clear hb11
            refine tk (i := 0) (v := ?_) rfl (by kernel_rfl) (fun _ _ _ h => h) (by rfl) ?_ (by assumption) ?_
            rotate_left
            · (intro W hSw; have hc := ac_cells (HAT.out _ hSw); go_simp; try with_reducible rfl)
            try simp only [Act.put, gA, gS, gZ, sA, sZ, sS]
            refine tk (i := 1) (v := ?_) rfl (by kernel_rfl) (fun _ _ _ h => h) (by rfl) ?_ (by assumption) ?_
            rotate_left
            · (intro W hSw; have hc := ac_cells (HAT.out _ hSw); go_simp; try with_reducible rfl)
            try simp only [Act.put, gA, gS, gZ, sA, sZ, sS]
            refine tk (i := 2) (v := ?_) rfl (by kernel_rfl) (fun _ _ _ h => h) (by rfl) ?_ (by assumption) ?_
            rotate_left
            · (intro W hSw; have hc := ac_cells (HAT.out _ hSw); go_simp; try with_reducible rfl)
            try simp only [Act.put, gA, gS, gZ, sA, sZ, sS]
            refine tk (i := 3) (v := ?_) rfl (by kernel_rfl) (fun _ _ _ h => h) (by rfl) ?_ (by assumption) ?_
            rotate_left
            · (intro W hSw; have hc := ac_cells (HAT.out _ hSw); go_simp; try with_reducible rfl)
            try simp only [Act.put, gA, gS, gZ, sA, sZ, sS]
            refine tk (i := 4) (v := ?_) rfl (by kernel_rfl) (fun _ _ _ h => h) (by rfl) ?_ (by assumption) ?_
            rotate_left
            · (intro W hSw; have hc := ac_cells (HAT.out _ hSw); go_simp; try with_reducible rfl)
            try simp only [Act.put, gA, gS, gZ, sA, sZ, sS]
            refine tk (i := 5) (v := ?_) rfl (by kernel_rfl) (fun _ _ _ h => h) (by rfl) ?_ (by assumption) ?_
            rotate_left
            · (intro W hSw; have hc := ac_cells (HAT.out _ hSw); go_simp; try with_reducible rfl)
            try simp only [Act.put, gA, gS, gZ, sA, sZ, sS]
            refine tk (i := 6) (v := ?_) rfl (by kernel_rfl) (fun _ _ _ h => h) (by rfl) ?_ (by assumption) ?_
            rotate_left
            · (intro W hSw; have hc := ac_cells (HAT.out _ hSw); go_simp; try with_reducible rfl)
            try simp only [Act.put, gA, gS, gZ, sA, sZ, sS]
            refine tk (i := 7) (v := ?_) rfl (by kernel_rfl) (fun _ _ _ h => h) (by rfl) ?_ (by assumption) ?_
            rotate_left
            · (intro W hSw; have hc := ac_cells (HAT.out _ hSw); go_simp; try with_reducible rfl)
            try simp only [Act.put, gA, gS, gZ, sA, sZ, sS]
            refine tk (i := 8) (v := ?_) rfl (by kernel_rfl) (fun _ _ _ h => h) (by rfl) ?_ (by assumption) ?_
            rotate_left
            · (intro W hSw; have hc := ac_cells (HAT.out _ hSw); go_simp; try with_reducible rfl)
            try simp only [Act.put, gA, gS, gZ, sA, sZ, sS]
            refine tk (i := 9) (v := ?_) rfl (by kernel_rfl) (fun _ _ _ h => h) (by rfl) ?_ (by assumption) ?_
            rotate_left
            · (intro W hSw; have hc := ac_cells (HAT.out _ hSw); go_simp; try with_reducible rfl)
            try simp only [Act.put, gA, gS, gZ, sA, sZ, sS]
            refine tk (i := 10) (v := ?_) rfl (by kernel_rfl) (fun _ _ _ h => h) (by rfl) ?_ (by assumption) ?_
            rotate_left
            · (intro W hSw; have hc := ac_cells (HAT.out _ hSw); go_simp; try with_reducible rfl)
            try simp only [Act.put, gA, gS, gZ, sA, sZ, sS]
            refine wpAnyH_ready (rs := [11, 15]) (by kernel_rfl) (by simp) ?_
            refine AllReadyH.cons rfl (fun K hK => ?_) (AllReadyH.cons rfl (fun K hK => ?_) AllReadyH.nil)
            · as_aux_lemma =>
              simp only [gA, gS, gZ]
              rw [if_pos (by rfl)]
              go_simp
              refine (HPF.out _ HD10.out).mono ?_
              rintro e wa12 ⟨rfl, hy2, hf2⟩
              have HA13 := Lib.hid hy2
              have HB18 := Lib.hid ((hf2 _ _ _ Hhb11.out).trans Hhb11.out)
              clear hy2 hf2
              go_wp2_with fail
              refine hK.out _ _ HA13.out.bel (fun hHeld => ?_)
              clear hK K
              try simp only [Act.put, gA, gS, gZ, sA, sZ, sS]
              refine tk (i := 12) (v := ?_) rfl (by kernel_rfl) (fun _ _ _ h => h) (by rfl) ?_ (by assumption) ?_
              rotate_left
              · (intro W hSw; have hc := ac_cells (HAT.out _ hSw); go_simp; try with_reducible rfl)
              try simp only [Act.put, gA, gS, gZ, sA, sZ, sS]
              refine tk (i := 13) (v := ?_) rfl (by kernel_rfl) (fun _ _ _ h => h) (by rfl) ?_ (by assumption) ?_
              rotate_left
              · (intro W hSw; have hc := ac_cells (HAT.out _ hSw); go_simp; try with_reducible rfl)
              try simp only [Act.put, gA, gS, gZ, sA, sZ, sS]
              refine tk (i := 14) (v := ?_) rfl (by kernel_rfl) (fun _ _ _ h => h) (by rfl) ?_ (by assumption) ?_
              rotate_left
              · (intro W hSw; have hc := ac_cells (HAT.out _ hSw); go_simp; try with_reducible rfl)
              try simp only [Act.put, gA, gS, gZ, sA, sZ, sS]
              refine wpAnyH_ready (rs := [15]) (by kernel_rfl) (by simp) ?_
              refine AllReadyH.cons rfl (fun K hK => ?_) AllReadyH.nil
              simp only [gA, gS, gZ]
              rw [if_pos (by rfl)]
              go_simp
              refine hK.out _ _ (HA13.out.bel.alloc HA13.out.bel.size _) (fun hHeld => ?_)
              clear hK K
              try simp only [Act.put, gA, gS, gZ, sA, sZ, sS]
              have hst := run_storeCells_new (P := Tryz.prog) wa12 TPk #[.int .i64 0, .int .i64 0, .int .u64 0, .int .u64 0, .string ⟨#[]⟩] C (i5 C HC.out.1) (by rw [HC.out.1]; rfl) HC.out.2
              have hCz := HC.out.1
              refine wpAnyH_ready (rs := [16]) (by kernel_rfl) (by simp) ?_
              refine AllReadyH.cons rfl (fun K hK => ?_) AllReadyH.nil
              simp only [gA, gS, gZ]
              rw [if_pos (by rfl)]
              go_simp
              refine hK.out _ _ (HA13.out.bel.alloc HA13.out.bel.size _) (fun hHeld => ?_)
              clear hK K
              try simp only [Act.put, gA, gS, gZ, sA, sZ, sS]
              refine tk (i := 17) (v := ?_) rfl (by kernel_rfl) (fun _ _ _ h => h) (by rfl) ?_ (by assumption) ?_
              rotate_left
              · (intro W hSw; have hc := ac_cells (HAT.out _ hSw); go_simp; try with_reducible rfl)
              try simp only [Act.put, gA, gS, gZ, sA, sZ, sS]
              refine wpAnyH_done (by kernel_rfl) ?_ _
              clear hst hCz hHeld
              have hbl := (Below.refl wa12.heap.size wa12).alloc (Nat.le_refl _) (.cells C TPk)
              have HC150 := HA13.out.below hbl
              have HG170 : (wa12.alloc (.cells C TPk)).heap[wa12.heap.size]? = some (.cells C TPk (0, 0)) := heap_alloc_new _ _
              have HE190 := (hbl.block _ (lt_of HB18.out)).trans HB18.out
              obtain ⟨G16, hG⟩ : ∃ X, X = wa12.heap.size := ⟨_, rfl⟩
              obtain ⟨wb14, hw3⟩ : ∃ X, X = wa12.alloc (.cells C TPk) := ⟨_, rfl⟩
              rw [← hw3] at HC150 HG170 HE190 ⊢
              rw [← hG] at HG170 ⊢
              have HC15 := Lib.hid HC150
              have HG17 := Lib.hid HG170
              have HE19 := Lib.hid HE190
              clear hbl hw3 hG HC150 HG170 HE190
              go_upto_region 22 with fail
              have hneq := HNq.out
              refine wp_region_lit ?_
              refine wpList_load_row rfl TPk _ rfl G7 rfl TPk C (0, 0) _ HE19.out Tryz.underlying33 rfl (i5 C HC.out.1) ?_
              refine wpList_load_row rfl TPk _ rfl G16 rfl TPk C (0, 0) _ HG17.out Tryz.underlying33 rfl (i5 C HC.out.1) ?_
              obtain ⟨z0, z1, hz⟩ := HP.out.2.2.2.2 _ _ HC15.out (HS2.out ▸ HP.out.2.1.send p h) (HS2.out ▸ send_sd _ _ _)
              have HZ := Lib.hid hz
              clear hz
              go_wp2
              go_roundw
              case rel => exact ⟨i + 1, z0, z1, by go_num, by omega, Lib.hid HZ.out⟩
              case measure => simp [intOf]; omega
            · as_aux_lemma =>
              simp only [gA, gS, gZ]
              rw [if_pos (by rfl)]
              go_simp
              refine hK.out _ _ (HD10.out.bel.alloc HD10.out.bel.size _) (fun hHeld => ?_)
              clear hK K
              try simp only [Act.put, gA, gS, gZ, sA, sZ, sS]
              have hbl := (Below.refl wd9.heap.size wd9).alloc (Nat.le_refl _) (.cells #[.int .i64 0, .int .i64 0, .int .u64 0, .int .u64 0, .string ⟨#[]⟩] TPk)
              have HV210 := HD10.out.below hbl
              have HG230 : (wd9.alloc (.cells #[.int .i64 0, .int .i64 0, .int .u64 0, .int .u64 0, .string ⟨#[]⟩] TPk)).heap[wd9.heap.size]? = some (.cells #[.int .i64 0, .int .i64 0, .int .u64 0, .int .u64 0, .string ⟨#[]⟩] TPk (0, 0)) := heap_alloc_new _ _
              have hlo : W.heap.size ≤ wd9.heap.size := HD10.out.bel.size
              have HE280 := (hbl.block _ (lt_of Hhb11.out)).trans Hhb11.out
              obtain ⟨G22, hG⟩ : ∃ X, X = wd9.heap.size := ⟨_, rfl⟩
              obtain ⟨V20, hw3⟩ : ∃ X, X = wd9.alloc (.cells #[.int .i64 0, .int .i64 0, .int .u64 0, .int .u64 0, .string ⟨#[]⟩] TPk) := ⟨_, rfl⟩
              rw [← hw3] at HV210 HG230 hHeld HE280 ⊢
              rw [← hG] at HG230 hlo ⊢
              have HV21 := Lib.hid HV210
              have HG23 := Lib.hid HG230
              have HLo := Lib.hid hlo
              have HE28 := Lib.hid HE280
              have hneHE28 : G7 ≠ G22 := fun e => by have := lt_of Hhb11.out; omega
              have HNHE28 := Lib.hid hneHE28
              clear hneHE28
              clear hbl hw3 hG hlo HV210 HG230 HE280
              refine wpAnyH_ready (rs := [11]) (by kernel_rfl) (by simp) ?_
              refine AllReadyH.cons rfl (fun K hK => ?_) AllReadyH.nil
              simp only [gA, gS, gZ]
              rw [if_pos (by rfl)]
              go_simp
              refine (HPF.out _ HV21.out).mono ?_
              rintro e wa24 ⟨rfl, hy2, hf2⟩
              have HA25 := Lib.hid hy2
              have HB29 := Lib.hid ((hf2 _ _ _ HG23.out).trans HG23.out)
              have HB30 := Lib.hid ((hf2 _ _ _ HE28.out).trans HE28.out)
              clear hy2 hf2
              go_wp2_with fail
              refine hK.out _ _ HA25.out.bel (fun hHeld => ?_)
              clear hK K
              try simp only [Act.put, gA, gS, gZ, sA, sZ, sS]
              refine tk (i := 12) (v := ?_) rfl (by kernel_rfl) (fun _ _ _ h => h) (by rfl) ?_ (by assumption) ?_
              rotate_left
              · (intro W hSw; have hc := ac_cells (HAT.out _ hSw); go_simp; try with_reducible rfl)
              try simp only [Act.put, gA, gS, gZ, sA, sZ, sS]
              refine tk (i := 13) (v := ?_) rfl (by kernel_rfl) (fun _ _ _ h => h) (by rfl) ?_ (by assumption) ?_
              rotate_left
              · (intro W hSw; have hc := ac_cells (HAT.out _ hSw); go_simp; try with_reducible rfl)
              try simp only [Act.put, gA, gS, gZ, sA, sZ, sS]
              refine tk (i := 14) (v := ?_) rfl (by kernel_rfl) (fun _ _ _ h => h) (by rfl) ?_ (by assumption) ?_
              rotate_left
              · (intro W hSw; have hc := ac_cells (HAT.out _ hSw); go_simp; try with_reducible rfl)
              try simp only [Act.put, gA, gS, gZ, sA, sZ, sS]
              have hst := hst5 wa24 G22 #[.int .i64 0, .int .i64 0, .int .u64 0, .int .u64 0, .string ⟨#[]⟩] C HC.out.1 rfl HC.out.2 HB29.out
              have hCz := HC.out.1
              refine wpAnyH_ready (rs := [16]) (by kernel_rfl) (by simp) ?_
              refine AllReadyH.cons rfl (fun K hK => ?_) AllReadyH.nil
              simp only [gA, gS, gZ]
              rw [if_pos (by rfl)]
              go_simp
              refine hK.out _ _ ((onB_setRow wa24 G22 C).below HA25.out.bel HLo.out) (fun hHeld => ?_)
              clear hK K
              try simp only [Act.put, gA, gS, gZ, sA, sZ, sS]
              refine tk (i := 17) (v := ?_) rfl (by kernel_rfl) (fun _ _ _ h => h) (by rfl) ?_ (by assumption) ?_
              rotate_left
              · (intro W hSw; have hc := ac_cells (HAT.out _ hSw); go_simp; try with_reducible rfl)
              try simp only [Act.put, gA, gS, gZ, sA, sZ, sS]
              refine wpAnyH_done (by kernel_rfl) ?_ _
              clear hst hCz hHeld
              have HC270 := HA25.out.onPk HT.out HB29.out (onB_setRow wa24 G22 C) HLo.out
              have HG238 := setRow_heap wa24 G22 _ C TPk (0, 0) HB29.out
              have HE310 := ((onB_setRow wa24 G22 C).block _ HNHE28.out).trans HB30.out
              obtain ⟨wb26, hw3⟩ : ∃ X, X = wa24.setRow G22 C := ⟨_, rfl⟩
              rw [← hw3] at HC270 HG238 HE310 ⊢
              have HC27 := Lib.hid HC270
              have HG239 := Lib.hid HG238
              have HE31 := Lib.hid HE310
              clear hw3 HC270 HG238 HE310
              go_upto_region 22 with fail
              have hneq := HNq.out
              refine wp_region_lit ?_
              refine wpList_load_row rfl TPk _ rfl G7 rfl TPk C (0, 0) _ HE31.out Tryz.underlying33 rfl (i5 C HC.out.1) ?_
              refine wpList_load_row rfl TPk _ rfl G22 rfl TPk C (0, 0) _ HG239.out Tryz.underlying33 rfl (i5 C HC.out.1) ?_
              obtain ⟨z0, z1, hz⟩ := HP.out.2.2.2.2 _ _ HC27.out (HS2.out ▸ HP.out.2.1.send p h) (HS2.out ▸ send_sd _ _ _)
              have HZ := Lib.hid hz
              clear hz
              go_wp2
              go_roundw
              case rel => exact ⟨i + 1, z0, z1, by go_num, by omega, Lib.hid HZ.out⟩
              case measure => simp [intOf]; omega
          · as_aux_lemma =>
            simp only [gA, gS, gZ]
            rw [if_pos (by rfl)]
            go_simp
            refine hK.out _ _ (HD2.out.bel.alloc HD2.out.bel.size _) (fun hHeld => ?_)
            clear hK K
            try simp only [Act.put, gA, gS, gZ, sA, sZ, sS]
            have hbl := (Below.refl wd1.heap.size wd1).alloc (Nat.le_refl _) (.cells #[.int .i64 0, .int .i64 0, .int .u64 0, .int .u64 0, .string ⟨#[]⟩] TPk)
            have HV330 := HD2.out.below hbl
            have HG350 : (wd1.alloc (.cells #[.int .i64 0, .int .i64 0, .int .u64 0, .int .u64 0, .string ⟨#[]⟩] TPk)).heap[wd1.heap.size]? = some (.cells #[.int .i64 0, .int .i64 0, .int .u64 0, .int .u64 0, .string ⟨#[]⟩] TPk (0, 0)) := heap_alloc_new _ _
            have hlo : W.heap.size ≤ wd1.heap.size := HD2.out.bel.size
            obtain ⟨G34, hG⟩ : ∃ X, X = wd1.heap.size := ⟨_, rfl⟩
            obtain ⟨V32, hw3⟩ : ∃ X, X = wd1.alloc (.cells #[.int .i64 0, .int .i64 0, .int .u64 0, .int .u64 0, .string ⟨#[]⟩] TPk) := ⟨_, rfl⟩
            rw [← hw3] at HV330 HG350 hHeld ⊢
            rw [← hG] at HG350 hlo ⊢
            have HV33 := Lib.hid HV330
            have HG35 := Lib.hid HG350
            have HLo := Lib.hid hlo
            clear hbl hw3 hG hlo HV330 HG350 
            refine wpAnyH_ready (rs := [11]) (by kernel_rfl) (by simp) ?_
            refine AllReadyH.cons rfl (fun K hK => ?_) AllReadyH.nil
            simp only [gA, gS, gZ]
            rw [if_pos (by rfl)]
            go_simp
            refine (HSF.out _ HV33.out).mono ?_
            rintro e wa36 ⟨rfl, hy2, hf2⟩
            have HA37 := Lib.hid hy2
            have HB40 := Lib.hid ((hf2 _ _ _ HG35.out).trans HG35.out)
            clear hy2 hf2
            go_wp2_with fail
            refine hK.out _ _ HA37.out.bel (fun hHeld => ?_)
            clear hK K
            try simp only [Act.put, gA, gS, gZ, sA, sZ, sS]
            refine tk (i := 12) (v := ?_) rfl (by kernel_rfl) (fun _ _ _ h => h) (by rfl) ?_ (by assumption) ?_
            rotate_left
            · (intro W hSw; have hc := ac_cells (HAT.out _ hSw); go_simp; try with_reducible rfl)
            try simp only [Act.put, gA, gS, gZ, sA, sZ, sS]
            refine tk (i := 13) (v := ?_) rfl (by kernel_rfl) (fun _ _ _ h => h) (by rfl) ?_ (by assumption) ?_
            rotate_left
            · (intro W hSw; have hc := ac_cells (HAT.out _ hSw); go_simp; try with_reducible rfl)
            try simp only [Act.put, gA, gS, gZ, sA, sZ, sS]
            refine tk (i := 14) (v := ?_) rfl (by kernel_rfl) (fun _ _ _ h => h) (by rfl) ?_ (by assumption) ?_
            rotate_left
            · (intro W hSw; have hc := ac_cells (HAT.out _ hSw); go_simp; try with_reducible rfl)
            try simp only [Act.put, gA, gS, gZ, sA, sZ, sS]
            have hst := hst5 wa36 G34 #[.int .i64 0, .int .i64 0, .int .u64 0, .int .u64 0, .string ⟨#[]⟩] C HC.out.1 rfl HC.out.2 HB40.out
            have hCz := HC.out.1
            refine wpAnyH_ready (rs := [16]) (by kernel_rfl) (by simp) ?_
            refine AllReadyH.cons rfl (fun K hK => ?_) AllReadyH.nil
            simp only [gA, gS, gZ]
            rw [if_pos (by rfl)]
            go_simp
            refine hK.out _ _ ((onB_setRow wa36 G34 C).below HA37.out.bel HLo.out) (fun hHeld => ?_)
            clear hK K
            try simp only [Act.put, gA, gS, gZ, sA, sZ, sS]
            refine tk (i := 17) (v := ?_) rfl (by kernel_rfl) (fun _ _ _ h => h) (by rfl) ?_ (by assumption) ?_
            rotate_left
            · (intro W hSw; have hc := ac_cells (HAT.out _ hSw); go_simp; try with_reducible rfl)
            try simp only [Act.put, gA, gS, gZ, sA, sZ, sS]
            refine wpAnyH_done (by kernel_rfl) ?_ _
            clear hst hCz hHeld
            have HC390 := HA37.out.onPk HT.out HB40.out (onB_setRow wa36 G34 C) HLo.out
            have HG358 := setRow_heap wa36 G34 _ C TPk (0, 0) HB40.out
            obtain ⟨wb38, hw3⟩ : ∃ X, X = wa36.setRow G34 C := ⟨_, rfl⟩
            rw [← hw3] at HC390 HG358 ⊢
            have HC39 := Lib.hid HC390
            have HG359 := Lib.hid HG358
            clear hw3 HC390 HG358 
            have HD420 := HC39.out.below (Below.refl _ _).drew
            have hb43 : wb38.drew.heap[G34]? = some (.cells C TPk (0, 0)) := HG359.out
            go_upto_region 21 with fail
            refine wp_region_held_drew (S := (fun V => Below W.heap.size W V)) (by kernel_rfl) HD420.bel (fun hHeld => ?_)
            obtain ⟨wd41, hwd⟩ : ∃ X, X = wb38.drew := ⟨_, rfl⟩
            rw [← hwd] at hb43 HD420 hHeld ⊢
            clear hwd
            have HD42 := Lib.hid HD420
            clear HD420
            have Hhb43 := Lib.hid hb43
            clear hb43
            refine tk (i := 0) (v := ?_) rfl (by kernel_rfl) (fun _ _ _ h => h) (by rfl) ?_ (by assumption) ?_
            rotate_left
            · (intro W hSw; have hc := ac_cells (HAT.out _ hSw); go_simp; try with_reducible rfl)
            try simp only [Act.put, gA, gS, gZ, sA, sZ, sS]
            refine tk (i := 1) (v := ?_) rfl (by kernel_rfl) (fun _ _ _ h => h) (by rfl) ?_ (by assumption) ?_
            rotate_left
            · (intro W hSw; have hc := ac_cells (HAT.out _ hSw); go_simp; try with_reducible rfl)
            try simp only [Act.put, gA, gS, gZ, sA, sZ, sS]
            refine tk (i := 2) (v := ?_) rfl (by kernel_rfl) (fun _ _ _ h => h) (by rfl) ?_ (by assumption) ?_
            rotate_left
            · (intro W hSw; have hc := ac_cells (HAT.out _ hSw); go_simp; try with_reducible rfl)
            try simp only [Act.put, gA, gS, gZ, sA, sZ, sS]
            refine tk (i := 3) (v := ?_) rfl (by kernel_rfl) (fun _ _ _ h => h) (by rfl) ?_ (by assumption) ?_
            rotate_left
            · (intro W hSw; have hc := ac_cells (HAT.out _ hSw); go_simp; try with_reducible rfl)
            try simp only [Act.put, gA, gS, gZ, sA, sZ, sS]
            refine tk (i := 4) (v := ?_) rfl (by kernel_rfl) (fun _ _ _ h => h) (by rfl) ?_ (by assumption) ?_
            rotate_left
            · (intro W hSw; have hc := ac_cells (HAT.out _ hSw); go_simp; try with_reducible rfl)
            try simp only [Act.put, gA, gS, gZ, sA, sZ, sS]
            refine tk (i := 5) (v := ?_) rfl (by kernel_rfl) (fun _ _ _ h => h) (by rfl) ?_ (by assumption) ?_
            rotate_left
            · (intro W hSw; have hc := ac_cells (HAT.out _ hSw); go_simp; try with_reducible rfl)
            try simp only [Act.put, gA, gS, gZ, sA, sZ, sS]
            refine tk (i := 6) (v := ?_) rfl (by kernel_rfl) (fun _ _ _ h => h) (by rfl) ?_ (by assumption) ?_
            rotate_left
            · (intro W hSw; have hc := ac_cells (HAT.out _ hSw); go_simp; try with_reducible rfl)
            try simp only [Act.put, gA, gS, gZ, sA, sZ, sS]
            refine tk (i := 7) (v := ?_) rfl (by kernel_rfl) (fun _ _ _ h => h) (by rfl) ?_ (by assumption) ?_
            rotate_left
            · (intro W hSw; have hc := ac_cells (HAT.out _ hSw); go_simp; try with_reducible rfl)
            try simp only [Act.put, gA, gS, gZ, sA, sZ, sS]
            refine tk (i := 8) (v := ?_) rfl (by kernel_rfl) (fun _ _ _ h => h) (by rfl) ?_ (by assumption) ?_
            rotate_left
            · (intro W hSw; have hc := ac_cells (HAT.out _ hSw); go_simp; try with_reducible rfl)
            try simp only [Act.put, gA, gS, gZ, sA, sZ, sS]
            refine tk (i := 9) (v := ?_) rfl (by kernel_rfl) (fun _ _ _ h => h) (by rfl) ?_ (by assumption) ?_
            rotate_left
            · (intro W hSw; have hc := ac_cells (HAT.out _ hSw); go_simp; try with_reducible rfl)
            try simp only [Act.put, gA, gS, gZ, sA, sZ, sS]
            refine tk (i := 10) (v := ?_) rfl (by kernel_rfl) (fun _ _ _ h => h) (by rfl) ?_ (by assumption) ?_
            rotate_left
            · (intro W hSw; have hc := ac_cells (HAT.out _ hSw); go_simp; try with_reducible rfl)
            try simp only [Act.put, gA, gS, gZ, sA, sZ, sS]
            refine wpAnyH_ready (rs := [11, 15]) (by kernel_rfl) (by simp) ?_
            refine AllReadyH.cons rfl (fun K hK => ?_) (AllReadyH.cons rfl (fun K hK => ?_) AllReadyH.nil)
            · as_aux_lemma =>
              simp only [gA, gS, gZ]
              rw [if_pos (by rfl)]
              go_simp
              refine (HPF.out _ HD42.out).mono ?_
              rintro e wa44 ⟨rfl, hy2, hf2⟩
              have HA45 := Lib.hid hy2
              have HB50 := Lib.hid ((hf2 _ _ _ Hhb43.out).trans Hhb43.out)
              clear hy2 hf2
              go_wp2_with fail
              refine hK.out _ _ HA45.out.bel (fun hHeld => ?_)
              clear hK K
              try simp only [Act.put, gA, gS, gZ, sA, sZ, sS]
              refine tk (i := 12) (v := ?_) rfl (by kernel_rfl) (fun _ _ _ h => h) (by rfl) ?_ (by assumption) ?_
              rotate_left
              · (intro W hSw; have hc := ac_cells (HAT.out _ hSw); go_simp; try with_reducible rfl)
              try simp only [Act.put, gA, gS, gZ, sA, sZ, sS]
              refine tk (i := 13) (v := ?_) rfl (by kernel_rfl) (fun _ _ _ h => h) (by rfl) ?_ (by assumption) ?_
              rotate_left
              · (intro W hSw; have hc := ac_cells (HAT.out _ hSw); go_simp; try with_reducible rfl)
              try simp only [Act.put, gA, gS, gZ, sA, sZ, sS]
              refine tk (i := 14) (v := ?_) rfl (by kernel_rfl) (fun _ _ _ h => h) (by rfl) ?_ (by assumption) ?_
              rotate_left
              · (intro W hSw; have hc := ac_cells (HAT.out _ hSw); go_simp; try with_reducible rfl)
              try simp only [Act.put, gA, gS, gZ, sA, sZ, sS]
              refine wpAnyH_ready (rs := [15]) (by kernel_rfl) (by simp) ?_
              refine AllReadyH.cons rfl (fun K hK => ?_) AllReadyH.nil
              simp only [gA, gS, gZ]
              rw [if_pos (by rfl)]
              go_simp
              refine hK.out _ _ (HA45.out.bel.alloc HA45.out.bel.size _) (fun hHeld => ?_)
              clear hK K
              try simp only [Act.put, gA, gS, gZ, sA, sZ, sS]
              have hst := run_storeCells_new (P := Tryz.prog) wa44 TPk #[.int .i64 0, .int .i64 0, .int .u64 0, .int .u64 0, .string ⟨#[]⟩] C (i5 C HC.out.1) (by rw [HC.out.1]; rfl) HC.out.2
              have hCz := HC.out.1
              refine wpAnyH_ready (rs := [16]) (by kernel_rfl) (by simp) ?_
              refine AllReadyH.cons rfl (fun K hK => ?_) AllReadyH.nil
              simp only [gA, gS, gZ]
              rw [if_pos (by rfl)]
              go_simp
              refine hK.out _ _ (HA45.out.bel.alloc HA45.out.bel.size _) (fun hHeld => ?_)
              clear hK K
              try simp only [Act.put, gA, gS, gZ, sA, sZ, sS]
              refine tk (i := 17) (v := ?_) rfl (by kernel_rfl) (fun _ _ _ h => h) (by rfl) ?_ (by assumption) ?_
              rotate_left
              · (intro W hSw; have hc := ac_cells (HAT.out _ hSw); go_simp; try with_reducible rfl)
              try simp only [Act.put, gA, gS, gZ, sA, sZ, sS]
              refine wpAnyH_done (by kernel_rfl) ?_ _
              clear hst hCz hHeld
              have hbl := (Below.refl wa44.heap.size wa44).alloc (Nat.le_refl _) (.cells C TPk)
              have HC470 := HA45.out.below hbl
              have HG490 : (wa44.alloc (.cells C TPk)).heap[wa44.heap.size]? = some (.cells C TPk (0, 0)) := heap_alloc_new _ _
              have HE510 := (hbl.block _ (lt_of HB50.out)).trans HB50.out
              obtain ⟨G48, hG⟩ : ∃ X, X = wa44.heap.size := ⟨_, rfl⟩
              obtain ⟨wb46, hw3⟩ : ∃ X, X = wa44.alloc (.cells C TPk) := ⟨_, rfl⟩
              rw [← hw3] at HC470 HG490 HE510 ⊢
              rw [← hG] at HG490 ⊢
              have HC47 := Lib.hid HC470
              have HG49 := Lib.hid HG490
              have HE51 := Lib.hid HE510
              clear hbl hw3 hG HC470 HG490 HE510
              go_upto_region 22 with fail
              have hneq := HNq.out
              refine wp_region_lit ?_
              refine wpList_load_row rfl TPk _ rfl G34 rfl TPk C (0, 0) _ HE51.out Tryz.underlying33 rfl (i5 C HC.out.1) ?_
              refine wpList_load_row rfl TPk _ rfl G48 rfl TPk C (0, 0) _ HG49.out Tryz.underlying33 rfl (i5 C HC.out.1) ?_
              obtain ⟨z0, z1, hz⟩ := HP.out.2.2.2.2 _ _ HC47.out (HS2.out ▸ HP.out.2.1.send p h) (HS2.out ▸ send_sd _ _ _)
              have HZ := Lib.hid hz
              clear hz
              go_wp2
              go_roundw
              case rel => exact ⟨i + 1, z0, z1, by go_num, by omega, Lib.hid HZ.out⟩
              case measure => simp [intOf]; omega
            · as_aux_lemma =>
              simp only [gA, gS, gZ]
              rw [if_pos (by rfl)]
              go_simp
              refine hK.out _ _ (HD42.out.bel.alloc HD42.out.bel.size _) (fun hHeld => ?_)
              clear hK K
              try simp only [Act.put, gA, gS, gZ, sA, sZ, sS]
              have hbl := (Below.refl wd41.heap.size wd41).alloc (Nat.le_refl _) (.cells #[.int .i64 0, .int .i64 0, .int .u64 0, .int .u64 0, .string ⟨#[]⟩] TPk)
              have HV530 := HD42.out.below hbl
              have HG550 : (wd41.alloc (.cells #[.int .i64 0, .int .i64 0, .int .u64 0, .int .u64 0, .string ⟨#[]⟩] TPk)).heap[wd41.heap.size]? = some (.cells #[.int .i64 0, .int .i64 0, .int .u64 0, .int .u64 0, .string ⟨#[]⟩] TPk (0, 0)) := heap_alloc_new _ _
              have hlo : W.heap.size ≤ wd41.heap.size := HD42.out.bel.size
              have HE600 := (hbl.block _ (lt_of Hhb43.out)).trans Hhb43.out
              obtain ⟨G54, hG⟩ : ∃ X, X = wd41.heap.size := ⟨_, rfl⟩
              obtain ⟨V52, hw3⟩ : ∃ X, X = wd41.alloc (.cells #[.int .i64 0, .int .i64 0, .int .u64 0, .int .u64 0, .string ⟨#[]⟩] TPk) := ⟨_, rfl⟩
              rw [← hw3] at HV530 HG550 hHeld HE600 ⊢
              rw [← hG] at HG550 hlo ⊢
              have HV53 := Lib.hid HV530
              have HG55 := Lib.hid HG550
              have HLo := Lib.hid hlo
              have HE60 := Lib.hid HE600
              have hneHE60 : G34 ≠ G54 := fun e => by have := lt_of Hhb43.out; omega
              have HNHE60 := Lib.hid hneHE60
              clear hneHE60
              clear hbl hw3 hG hlo HV530 HG550 HE600
              refine wpAnyH_ready (rs := [11]) (by kernel_rfl) (by simp) ?_
              refine AllReadyH.cons rfl (fun K hK => ?_) AllReadyH.nil
              simp only [gA, gS, gZ]
              rw [if_pos (by rfl)]
              go_simp
              refine (HPF.out _ HV53.out).mono ?_
              rintro e wa56 ⟨rfl, hy2, hf2⟩
              have HA57 := Lib.hid hy2
              have HB61 := Lib.hid ((hf2 _ _ _ HG55.out).trans HG55.out)
              have HB62 := Lib.hid ((hf2 _ _ _ HE60.out).trans HE60.out)
              clear hy2 hf2
              go_wp2_with fail
              refine hK.out _ _ HA57.out.bel (fun hHeld => ?_)
              clear hK K
              try simp only [Act.put, gA, gS, gZ, sA, sZ, sS]
              refine tk (i := 12) (v := ?_) rfl (by kernel_rfl) (fun _ _ _ h => h) (by rfl) ?_ (by assumption) ?_
              rotate_left
              · (intro W hSw; have hc := ac_cells (HAT.out _ hSw); go_simp; try with_reducible rfl)
              try simp only [Act.put, gA, gS, gZ, sA, sZ, sS]
              refine tk (i := 13) (v := ?_) rfl (by kernel_rfl) (fun _ _ _ h => h) (by rfl) ?_ (by assumption) ?_
              rotate_left
              · (intro W hSw; have hc := ac_cells (HAT.out _ hSw); go_simp; try with_reducible rfl)
              try simp only [Act.put, gA, gS, gZ, sA, sZ, sS]
              refine tk (i := 14) (v := ?_) rfl (by kernel_rfl) (fun _ _ _ h => h) (by rfl) ?_ (by assumption) ?_
              rotate_left
              · (intro W hSw; have hc := ac_cells (HAT.out _ hSw); go_simp; try with_reducible rfl)
              try simp only [Act.put, gA, gS, gZ, sA, sZ, sS]
              have hst := hst5 wa56 G54 #[.int .i64 0, .int .i64 0, .int .u64 0, .int .u64 0, .string ⟨#[]⟩] C HC.out.1 rfl HC.out.2 HB61.out
              have hCz := HC.out.1
              refine wpAnyH_ready (rs := [16]) (by kernel_rfl) (by simp) ?_
              refine AllReadyH.cons rfl (fun K hK => ?_) AllReadyH.nil
              simp only [gA, gS, gZ]
              rw [if_pos (by rfl)]
              go_simp
              refine hK.out _ _ ((onB_setRow wa56 G54 C).below HA57.out.bel HLo.out) (fun hHeld => ?_)
              clear hK K
              try simp only [Act.put, gA, gS, gZ, sA, sZ, sS]
              refine tk (i := 17) (v := ?_) rfl (by kernel_rfl) (fun _ _ _ h => h) (by rfl) ?_ (by assumption) ?_
              rotate_left
              · (intro W hSw; have hc := ac_cells (HAT.out _ hSw); go_simp; try with_reducible rfl)
              try simp only [Act.put, gA, gS, gZ, sA, sZ, sS]
              refine wpAnyH_done (by kernel_rfl) ?_ _
              clear hst hCz hHeld
              have HC590 := HA57.out.onPk HT.out HB61.out (onB_setRow wa56 G54 C) HLo.out
              have HG558 := setRow_heap wa56 G54 _ C TPk (0, 0) HB61.out
              have HE630 := ((onB_setRow wa56 G54 C).block _ HNHE60.out).trans HB62.out
              obtain ⟨wb58, hw3⟩ : ∃ X, X = wa56.setRow G54 C := ⟨_, rfl⟩
              rw [← hw3] at HC590 HG558 HE630 ⊢
              have HC59 := Lib.hid HC590
              have HG559 := Lib.hid HG558
              have HE63 := Lib.hid HE630
              clear hw3 HC590 HG558 HE630
              go_upto_region 22 with fail
              have hneq := HNq.out
              refine wp_region_lit ?_
              refine wpList_load_row rfl TPk _ rfl G34 rfl TPk C (0, 0) _ HE63.out Tryz.underlying33 rfl (i5 C HC.out.1) ?_
              refine wpList_load_row rfl TPk _ rfl G54 rfl TPk C (0, 0) _ HG559.out Tryz.underlying33 rfl (i5 C HC.out.1) ?_
              obtain ⟨z0, z1, hz⟩ := HP.out.2.2.2.2 _ _ HC59.out (HS2.out ▸ HP.out.2.1.send p h) (HS2.out ▸ send_sd _ _ _)
              have HZ := Lib.hid hz
              clear hz
              go_wp2
              go_roundw
              case rel => exact ⟨i + 1, z0, z1, by go_num, by omega, Lib.hid HZ.out⟩
              case measure => simp [intOf]; omega
        have z0 : (kd % 4 == 0) = false := by simp [hk0]
        have z0t : (kd.tmod 4 == 0) = false := by rw [Int.tmod_eq_emod_of_nonneg hkd0]; exact z0
        clear hk0
        by_cases hk1 : kd % 4 = 1
        · have z1 : (kd % 4 == 1) = true := by simp [hk1]
          have z1t : (kd.tmod 4 == 1) = true := by rw [Int.tmod_eq_emod_of_nonneg hkd0]; exact z1
          clear hk1
          as_aux_lemma =>
          go_upto_region 25 with fail
          refine wp_region_held_drew (S := (fun V => Below W.heap.size W V)) (by kernel_rfl) HPd.out.bel (fun hHeld => ?_)
          refine tk (i := 0) (v := ?_) rfl (by kernel_rfl) (fun _ _ _ h => h) (by rfl) ?_ (by assumption) ?_
          rotate_left
          · (intro W hSw; have hc := ac_cells (HAT.out _ hSw); go_simp; try with_reducible rfl)
          try simp only [Act.put, gA, gZ, sA, sZ, sS]
          refine tk (i := 1) (v := ?_) rfl (by kernel_rfl) (fun _ _ _ h => h) (by rfl) ?_ (by assumption) ?_
          rotate_left
          · (intro W hSw; have hc := ac_cells (HAT.out _ hSw); go_simp; try with_reducible rfl)
          try simp only [Act.put, gA, gS, gZ, sA, sZ, sS]
          refine tk (i := 2) (v := ?_) rfl (by kernel_rfl) (fun _ _ _ h => h) (by rfl) ?_ (by assumption) ?_
          rotate_left
          · (intro W hSw; have hc := ac_cells (HAT.out _ hSw); go_simp; try with_reducible rfl)
          try simp only [Act.put, gA, gS, gZ, sA, sZ, sS]
          refine tk (i := 3) (v := ?_) rfl (by kernel_rfl) (fun _ _ _ h => h) (by rfl) ?_ (by assumption) ?_
          rotate_left
          · (intro W hSw; have hc := ac_cells (HAT.out _ hSw); go_simp; try with_reducible rfl)
          try simp only [Act.put, gA, gS, gZ, sA, sZ, sS]
          refine tk (i := 4) (v := ?_) rfl (by kernel_rfl) (fun _ _ _ h => h) (by rfl) ?_ (by assumption) ?_
          rotate_left
          · (intro W hSw; have hc := ac_cells (HAT.out _ hSw); go_simp; try with_reducible rfl)
          try simp only [Act.put, gA, gS, gZ, sA, sZ, sS]
          refine tk (i := 5) (v := ?_) rfl (by kernel_rfl) (fun _ _ _ h => h) (by rfl) ?_ (by assumption) ?_
          rotate_left
          · (intro W hSw; have hc := ac_cells (HAT.out _ hSw); go_simp; try with_reducible rfl)
          try simp only [Act.put, gA, gS, gZ, sA, sZ, sS]
          refine tk (i := 6) (v := ?_) rfl (by kernel_rfl) (fun _ _ _ h => h) (by rfl) ?_ (by assumption) ?_
          rotate_left
          · (intro W hSw; have hc := ac_cells (HAT.out _ hSw); go_simp; try with_reducible rfl)
          try simp only [Act.put, gA, gS, gZ, sA, sZ, sS]
          refine tk (i := 7) (v := ?_) rfl (by kernel_rfl) (fun _ _ _ h => h) (by rfl) ?_ (by assumption) ?_
          rotate_left
          · (intro W hSw; have hc := ac_cells (HAT.out _ hSw); go_simp; try with_reducible rfl)
          try simp only [Act.put, gA, gS, gZ, sA, sZ, sS]
          refine tk (i := 8) (v := ?_) rfl (by kernel_rfl) (fun _ _ _ h => h) (by rfl) ?_ (by assumption) ?_
          rotate_left
          · (intro W hSw; have hc := ac_cells (HAT.out _ hSw); go_simp; try with_reducible rfl)
          try simp only [Act.put, gA, gS, gZ, sA, sZ, sS]
          refine tk (i := 9) (v := ?_) rfl (by kernel_rfl) (fun _ _ _ h => h) (by rfl) ?_ (by assumption) ?_
          rotate_left
          · (intro W hSw; have hc := ac_cells (HAT.out _ hSw); go_simp; try with_reducible rfl)
          try simp only [Act.put, gA, gS, gZ, sA, sZ, sS]
          refine tk (i := 10) (v := ?_) rfl (by kernel_rfl) (fun _ _ _ h => h) (by rfl) ?_ (by assumption) ?_
          rotate_left
          · (intro W hSw; have hc := ac_cells (HAT.out _ hSw); go_simp; try with_reducible rfl)
          try simp only [Act.put, gA, gS, gZ, sA, sZ, sS]
          refine tk (i := 11) (v := ?_) rfl (by kernel_rfl) (fun _ _ _ h => h) (by rfl) ?_ (by assumption) ?_
          rotate_left
          · (intro W hSw; have hc := ac_cells (HAT.out _ hSw); go_simp; try with_reducible rfl)
          try simp only [Act.put, gA, gS, gZ, sA, sZ, sS]
          refine wpAnyH_ready (rs := [12]) (by kernel_rfl) (by simp) ?_
          refine AllReadyH.cons rfl (fun K hK => ?_) AllReadyH.nil
          simp only [gA, gS, gZ]
          rw [if_pos (by rfl)]
          go_simp
          refine (HPd.out.recv HP.out.2.1 HP.out.2.2.1 p HOK.out.1 h (1 - sa.sd) HX.out).mono ?_
          rintro e w2 ⟨rfl, hy2⟩
          have H2 := Lib.hid hy2
          clear hy2
          go_wp2_with fail
          refine hK.out _ _ H2.out.bel (fun hHeld => ?_)
          clear hK K
          try simp only [Act.put, gA, gS, gZ, sA, sZ, sS]
          refine tk (i := 13) (v := ?_) rfl (by kernel_rfl) (fun _ _ _ h => h) (by rfl) ?_ (by assumption) ?_
          rotate_left
          · (intro W hSw; have hc := ac_cells (HAT.out _ hSw); go_simp; try with_reducible rfl)
          try simp only [Act.put, gA, gS, gZ, sA, sZ, sS]
          refine tk (i := 14) (v := ?_) rfl (by kernel_rfl) (fun _ _ _ h => h) (by rfl) ?_ (by assumption) ?_
          rotate_left
          · (intro W hSw; have hc := ac_cells (HAT.out _ hSw); go_simp; try with_reducible rfl)
          try simp only [Act.put, gA, gS, gZ, sA, sZ, sS]
          refine tk (i := 15) (v := ?_) rfl (by kernel_rfl) (fun _ _ _ h => h) (by rfl) ?_ (by assumption) ?_
          rotate_left
          · (intro W hSw; have hc := ac_cells (HAT.out _ hSw); go_simp; try with_reducible rfl)
          try simp only [Act.put, gA, gS, gZ, sA, sZ, sS]
          refine tk (i := 16) (v := ?_) rfl (by kernel_rfl) (fun _ _ _ h => h) (by rfl) ?_ (by assumption) ?_
          rotate_left
          · (intro W hSw; have hc := ac_cells (HAT.out _ hSw); go_simp; try with_reducible rfl)
          try simp only [Act.put, gA, gS, gZ, sA, sZ, sS]
          refine tk (i := 17) (v := ?_) rfl (by kernel_rfl) (fun _ _ _ h => h) (by rfl) ?_ (by assumption) ?_
          rotate_left
          · (intro W hSw; have hc := ac_cells (HAT.out _ hSw); go_simp; try with_reducible rfl)
          try simp only [Act.put, gA, gS, gZ, sA, sZ, sS]
          refine wpAnyH_done (by kernel_rfl) ?_ _
          clear hHeld q0 q0'
          as_aux_lemma =>
          go_upto_region 26 with fail
          have H2d := Lib.hid (H2.out.below (Below.refl _ _).drew)
          refine wp_region_held_drew (S := (fun V => Below W.heap.size W V)) (by kernel_rfl) H2d.out.bel (fun hHeld => ?_)
          refine tk (i := 0) (v := ?_) rfl (by kernel_rfl) (fun _ _ _ h => h) (by rfl) ?_ (by assumption) ?_
          rotate_left
          · (intro W hSw; have hc := ac_cells (HAT.out _ hSw); go_simp; try with_reducible rfl)
          try simp only [Act.put, gA, gZ, sA, sZ, sS]
          refine tk (i := 1) (v := ?_) rfl (by kernel_rfl) (fun _ _ _ h => h) (by rfl) ?_ (by assumption) ?_
          rotate_left
          · (intro W hSw; have hc := ac_cells (HAT.out _ hSw); go_simp; try with_reducible rfl)
          try simp only [Act.put, gA, gS, gZ, sA, sZ, sS]
          refine tk (i := 2) (v := ?_) rfl (by kernel_rfl) (fun _ _ _ h => h) (by rfl) ?_ (by assumption) ?_
          rotate_left
          · (intro W hSw; have hc := ac_cells (HAT.out _ hSw); go_simp; try with_reducible rfl)
          try simp only [Act.put, gA, gS, gZ, sA, sZ, sS]
          refine tk (i := 3) (v := ?_) rfl (by kernel_rfl) (fun _ _ _ h => h) (by rfl) ?_ (by assumption) ?_
          rotate_left
          · (intro W hSw; have hc := ac_cells (HAT.out _ hSw); go_simp; try with_reducible rfl)
          try simp only [Act.put, gA, gS, gZ, sA, sZ, sS]
          refine tk (i := 4) (v := ?_) rfl (by kernel_rfl) (fun _ _ _ h => h) (by rfl) ?_ (by assumption) ?_
          rotate_left
          · (intro W hSw; have hc := ac_cells (HAT.out _ hSw); go_simp; try with_reducible rfl)
          try simp only [Act.put, gA, gS, gZ, sA, sZ, sS]
          refine tk (i := 5) (v := ?_) rfl (by kernel_rfl) (fun _ _ _ h => h) (by rfl) ?_ (by assumption) ?_
          rotate_left
          · (intro W hSw; have hc := ac_cells (HAT.out _ hSw); go_simp; try with_reducible rfl)
          try simp only [Act.put, gA, gS, gZ, sA, sZ, sS]
          refine tk (i := 6) (v := ?_) rfl (by kernel_rfl) (fun _ _ _ h => h) (by rfl) ?_ (by assumption) ?_
          rotate_left
          · (intro W hSw; have hc := ac_cells (HAT.out _ hSw); go_simp; try with_reducible rfl)
          try simp only [Act.put, gA, gS, gZ, sA, sZ, sS]
          refine tk (i := 7) (v := ?_) rfl (by kernel_rfl) (fun _ _ _ h => h) (by rfl) ?_ (by assumption) ?_
          rotate_left
          · (intro W hSw; have hc := ac_cells (HAT.out _ hSw); go_simp; try with_reducible rfl)
          try simp only [Act.put, gA, gS, gZ, sA, sZ, sS]
          refine tk (i := 8) (v := ?_) rfl (by kernel_rfl) (fun _ _ _ h => h) (by rfl) ?_ (by assumption) ?_
          rotate_left
          · (intro W hSw; have hc := ac_cells (HAT.out _ hSw); go_simp; try with_reducible rfl)
          try simp only [Act.put, gA, gS, gZ, sA, sZ, sS]
          refine tk (i := 9) (v := ?_) rfl (by kernel_rfl) (fun _ _ _ h => h) (by rfl) ?_ (by assumption) ?_
          rotate_left
          · (intro W hSw; have hc := ac_cells (HAT.out _ hSw); go_simp; try with_reducible rfl)
          try simp only [Act.put, gA, gS, gZ, sA, sZ, sS]
          refine tk (i := 10) (v := ?_) rfl (by kernel_rfl) (fun _ _ _ h => h) (by rfl) ?_ (by assumption) ?_
          rotate_left
          · (intro W hSw; have hc := ac_cells (HAT.out _ hSw); go_simp; try with_reducible rfl)
          try simp only [Act.put, gA, gS, gZ, sA, sZ, sS]
          refine tk (i := 11) (v := ?_) rfl (by kernel_rfl) (fun _ _ _ h => h) (by rfl) ?_ (by assumption) ?_
          rotate_left
          · (intro W hSw; have hc := ac_cells (HAT.out _ hSw); go_simp; try with_reducible rfl)
          try simp only [Act.put, gA, gS, gZ, sA, sZ, sS]
          refine wpAnyH_ready (rs := [12]) (by kernel_rfl) (by simp) ?_
          refine AllReadyH.cons rfl (fun K hK => ?_) AllReadyH.nil
          simp only [gA, gS, gZ]
          rw [if_pos (by rfl)]
          go_simp
          refine (H2d.out.precv HT.out HP.out.2.1 HP.out.2.2.1 (Nat.le_of_succ_le hi6) p HOK.out.1 h (1 - sa.sd) HX.out).mono ?_
          rintro e w3 ⟨rfl, hy3⟩
          have H3 := Lib.hid hy3
          clear hy3
          go_wp2_with fail
          refine hK.out _ _ H3.out.bel (fun hHeld => ?_)
          clear hK K
          try simp only [Act.put, gA, gS, gZ, sA, sZ, sS]
          refine tk (i := 13) (v := ?_) rfl (by kernel_rfl) (fun _ _ _ h => h) (by rfl) ?_ (by assumption) ?_
          rotate_left
          · (intro W hSw; have hc := ac_cells (HAT.out _ hSw); go_simp; try with_reducible rfl)
          try simp only [Act.put, gA, gS, gZ, sA, sZ, sS]
          refine tk (i := 14) (v := ?_) rfl (by kernel_rfl) (fun _ _ _ h => h) (by rfl) ?_ (by assumption) ?_
          rotate_left
          · (intro W hSw; have hc := ac_cells (HAT.out _ hSw); go_simp; try with_reducible rfl)
          try simp only [Act.put, gA, gS, gZ, sA, sZ, sS]
          refine tk (i := 15) (v := ?_) rfl (by kernel_rfl) (fun _ _ _ h => h) (by rfl) ?_ (by assumption) ?_
          rotate_left
          · (intro W hSw; have hc := ac_cells (HAT.out _ hSw); go_simp; try with_reducible rfl)
          try simp only [Act.put, gA, gS, gZ, sA, sZ, sS]
          refine tk (i := 16) (v := ?_) rfl (by kernel_rfl) (fun _ _ _ h => h) (by rfl) ?_ (by assumption) ?_
          rotate_left
          · (intro W hSw; have hc := ac_cells (HAT.out _ hSw); go_simp; try with_reducible rfl)
          try simp only [Act.put, gA, gS, gZ, sA, sZ, sS]
          refine tk (i := 17) (v := ?_) rfl (by kernel_rfl) (fun _ _ _ h => h) (by rfl) ?_ (by assumption) ?_
          rotate_left
          · (intro W hSw; have hc := ac_cells (HAT.out _ hSw); go_simp; try with_reducible rfl)
          try simp only [Act.put, gA, gS, gZ, sA, sZ, sS]
          refine wpAnyH_done (by kernel_rfl) ?_ _
          clear hHeld
          obtain ⟨z0, z1, hz⟩ := HP.out.2.2.2.2 _ _ H3.out (HP.out.2.1.recv p (1 - sa.sd) h) (recv_sd _ _ _ _ _)
          have HZ := Lib.hid hz
          clear hz
          go_wp2
          go_roundw
          case rel => exact ⟨i + 1, z0, z1, by go_num, by omega, Lib.hid HZ.out⟩
          case measure => simp [intOf]; omega
        have z1 : (kd % 4 == 1) = false := by simp [hk1]
        have z1t : (kd.tmod 4 == 1) = false := by rw [Int.tmod_eq_emod_of_nonneg hkd0]; exact z1
        clear hk1
        by_cases hk2 : kd % 4 = 2
        · have z2 : (kd % 4 == 2) = true := by simp [hk2]
          have z2t : (kd.tmod 4 == 2) = true := by rw [Int.tmod_eq_emod_of_nonneg hkd0]; exact z2
          clear hk2
          as_aux_lemma =>
          go_upto_region 30 with fail
          refine wp_region_held_drew (S := (fun V => Below W.heap.size W V)) (by kernel_rfl) HPd.out.bel (fun hHeld => ?_)
          refine tk (i := 0) (v := ?_) rfl (by kernel_rfl) (fun _ _ _ h => h) (by rfl) ?_ (by assumption) ?_
          rotate_left
          · (intro W hSw; have hc := ac_cells (HAT.out _ hSw); go_simp; try with_reducible rfl)
          try simp only [Act.put, gA, gZ, sA, sZ, sS]
          refine tk (i := 1) (v := ?_) rfl (by kernel_rfl) (fun _ _ _ h => h) (by rfl) ?_ (by assumption) ?_
          rotate_left
          · (intro W hSw; have hc := ac_cells (HAT.out _ hSw); go_simp; try with_reducible rfl)
          try simp only [Act.put, gA, gS, gZ, sA, sZ, sS]
          refine tk (i := 2) (v := ?_) rfl (by kernel_rfl) (fun _ _ _ h => h) (by rfl) ?_ (by assumption) ?_
          rotate_left
          · (intro W hSw; have hc := ac_cells (HAT.out _ hSw); go_simp; try with_reducible rfl)
          try simp only [Act.put, gA, gS, gZ, sA, sZ, sS]
          refine tk (i := 3) (v := ?_) rfl (by kernel_rfl) (fun _ _ _ h => h) (by rfl) ?_ (by assumption) ?_
          rotate_left
          · (intro W hSw; have hc := ac_cells (HAT.out _ hSw); go_simp; try with_reducible rfl)
          try simp only [Act.put, gA, gS, gZ, sA, sZ, sS]
          refine tk (i := 4) (v := ?_) rfl (by kernel_rfl) (fun _ _ _ h => h) (by rfl) ?_ (by assumption) ?_
          rotate_left
          · (intro W hSw; have hc := ac_cells (HAT.out _ hSw); go_simp; try with_reducible rfl)
          try simp only [Act.put, gA, gS, gZ, sA, sZ, sS]
          refine tk (i := 5) (v := ?_) rfl (by kernel_rfl) (fun _ _ _ h => h) (by rfl) ?_ (by assumption) ?_
          rotate_left
          · (intro W hSw; have hc := ac_cells (HAT.out _ hSw); go_simp; try with_reducible rfl)
          try simp only [Act.put, gA, gS, gZ, sA, sZ, sS]
          refine tk (i := 6) (v := ?_) rfl (by kernel_rfl) (fun _ _ _ h => h) (by rfl) ?_ (by assumption) ?_
          rotate_left
          · (intro W hSw; have hc := ac_cells (HAT.out _ hSw); go_simp; try with_reducible rfl)
          try simp only [Act.put, gA, gS, gZ, sA, sZ, sS]
          refine tk (i := 7) (v := ?_) rfl (by kernel_rfl) (fun _ _ _ h => h) (by rfl) ?_ (by assumption) ?_
          rotate_left
          · (intro W hSw; have hc := ac_cells (HAT.out _ hSw); go_simp; try with_reducible rfl)
          try simp only [Act.put, gA, gS, gZ, sA, sZ, sS]
          refine tk (i := 8) (v := ?_) rfl (by kernel_rfl) (fun _ _ _ h => h) (by rfl) ?_ (by assumption) ?_
          rotate_left
          · (intro W hSw; have hc := ac_cells (HAT.out _ hSw); go_simp; try with_reducible rfl)
          try simp only [Act.put, gA, gS, gZ, sA, sZ, sS]
          refine tk (i := 9) (v := ?_) rfl (by kernel_rfl) (fun _ _ _ h => h) (by rfl) ?_ (by assumption) ?_
          rotate_left
          · (intro W hSw; have hc := ac_cells (HAT.out _ hSw); go_simp; try with_reducible rfl)
          try simp only [Act.put, gA, gS, gZ, sA, sZ, sS]
          refine tk (i := 10) (v := ?_) rfl (by kernel_rfl) (fun _ _ _ h => h) (by rfl) ?_ (by assumption) ?_
          rotate_left
          · (intro W hSw; have hc := ac_cells (HAT.out _ hSw); go_simp; try with_reducible rfl)
          try simp only [Act.put, gA, gS, gZ, sA, sZ, sS]
          refine tk (i := 11) (v := ?_) rfl (by kernel_rfl) (fun _ _ _ h => h) (by rfl) ?_ (by assumption) ?_
          rotate_left
          · (intro W hSw; have hc := ac_cells (HAT.out _ hSw); go_simp; try with_reducible rfl)
          try simp only [Act.put, gA, gS, gZ, sA, sZ, sS]
          refine tk (i := 13) (v := ?_) rfl (by kernel_rfl) (fun _ _ _ h => h) (by rfl) ?_ (by assumption) ?_
          rotate_left
          · (intro W hSw; have hc := ac_cells (HAT.out _ hSw); go_simp; try with_reducible rfl)
          try simp only [Act.put, gA, gS, gZ, sA, sZ, sS]
          refine tk (i := 14) (v := ?_) rfl (by kernel_rfl) (fun _ _ _ h => h) (by rfl) ?_ (by assumption) ?_
          rotate_left
          · (intro W hSw; have hc := ac_cells (HAT.out _ hSw); go_simp; try with_reducible rfl)
          try simp only [Act.put, gA, gS, gZ, sA, sZ, sS]
          refine tk (i := 15) (v := ?_) rfl (by kernel_rfl) (fun _ _ _ h => h) (by rfl) ?_ (by assumption) ?_
          rotate_left
          · (intro W hSw; have hc := ac_cells (HAT.out _ hSw); go_simp; try with_reducible rfl)
          try simp only [Act.put, gA, gS, gZ, sA, sZ, sS]
          refine tk (i := 16) (v := ?_) rfl (by kernel_rfl) (fun _ _ _ h => h) (by rfl) ?_ (by assumption) ?_
          rotate_left
          · (intro W hSw; have hc := ac_cells (HAT.out _ hSw); go_simp; try with_reducible rfl)
          try simp only [Act.put, gA, gS, gZ, sA, sZ, sS]
          refine tk (i := 17) (v := ?_) rfl (by kernel_rfl) (fun _ _ _ h => h) (by rfl) ?_ (by assumption) ?_
          rotate_left
          · (intro W hSw; have hc := ac_cells (HAT.out _ hSw); go_simp; try with_reducible rfl)
          try simp only [Act.put, gA, gS, gZ, sA, sZ, sS]
          refine tk (i := 18) (v := ?_) rfl (by kernel_rfl) (fun _ _ _ h => h) (by rfl) ?_ (by assumption) ?_
          rotate_left
          · (intro W hSw; have hc := ac_cells (HAT.out _ hSw); go_simp; try with_reducible rfl)
          try simp only [Act.put, gA, gS, gZ, sA, sZ, sS]
          refine tk (i := 19) (v := ?_) rfl (by kernel_rfl) (fun _ _ _ h => h) (by rfl) ?_ (by assumption) ?_
          rotate_left
          · (intro W hSw; have hc := ac_cells (HAT.out _ hSw); go_simp; try with_reducible rfl)
          try simp only [Act.put, gA, gS, gZ, sA, sZ, sS]
          refine tk (i := 20) (v := ?_) rfl (by kernel_rfl) (fun _ _ _ h => h) (by rfl) ?_ (by assumption) ?_
          rotate_left
          · (intro W hSw; have hc := ac_cells (HAT.out _ hSw); go_simp; try with_reducible rfl)
          try simp only [Act.put, gA, gS, gZ, sA, sZ, sS]
          refine tk (i := 21) (v := ?_) rfl (by kernel_rfl) (fun _ _ _ h => h) (by rfl) ?_ (by assumption) ?_
          rotate_left
          · (intro W hSw; have hc := ac_cells (HAT.out _ hSw); go_simp; try with_reducible rfl)
          try simp only [Act.put, gA, gS, gZ, sA, sZ, sS]
          refine tk (i := 22) (v := ?_) rfl (by kernel_rfl) (fun _ _ _ h => h) (by rfl) ?_ (by assumption) ?_
          rotate_left
          · (intro W hSw; have hc := ac_cells (HAT.out _ hSw); go_simp; try with_reducible rfl)
          try simp only [Act.put, gA, gS, gZ, sA, sZ, sS]
          refine tk (i := 23) (v := ?_) rfl (by kernel_rfl) (fun _ _ _ h => h) (by rfl) ?_ (by assumption) ?_
          rotate_left
          · (intro W hSw; have hc := ac_cells (HAT.out _ hSw); go_simp; try with_reducible rfl)
          try simp only [Act.put, gA, gS, gZ, sA, sZ, sS]
          refine tk (i := 24) (v := ?_) rfl (by kernel_rfl) (fun _ _ _ h => h) (by rfl) ?_ (by assumption) ?_
          rotate_left
          · (intro W hSw; have hc := ac_cells (HAT.out _ hSw); go_simp; try with_reducible rfl)
          try simp only [Act.put, gA, gS, gZ, sA, sZ, sS]
          refine wpAnyH_ready (rs := [12]) (by kernel_rfl) (by simp) ?_
          refine AllReadyH.cons rfl (fun K hK => ?_) AllReadyH.nil
          simp only [gA, gS, gZ]
          rw [if_pos (by rfl)]
          go_simp
          refine (HPd.out.ack HP.out.2.1 p HOK.out.1 a HOK.out.2).mono ?_
          rintro e w2 ⟨rfl, hy2⟩
          have H2 := Lib.hid hy2
          clear hy2
          go_wp2_with fail
          refine hK.out _ _ H2.out.bel (fun hHeld => ?_)
          clear hK K
          try simp only [Act.put, gA, gS, gZ, sA, sZ, sS]
          refine wpAnyH_ready (rs := [25]) (by kernel_rfl) (by simp) ?_
          refine AllReadyH.cons rfl (fun K hK => ?_) AllReadyH.nil
          simp only [gA, gS, gZ]
          rw [if_pos (by rfl)]
          go_simp
          refine (H2.out.pack HT.out HP.out.2.1 HP.out.2.2.1 (Nat.le_of_succ_le hi6) p HOK.out.1 a HOK.out.2).mono ?_
          rintro e w3 ⟨rfl, hy3⟩
          have H3 := Lib.hid hy3
          clear hy3
          go_wp2_with fail
          refine hK.out _ _ H3.out.bel (fun hHeld => ?_)
          clear hK K
          try simp only [Act.put, gA, gS, gZ, sA, sZ, sS]
          refine tk (i := 26) (v := ?_) rfl (by kernel_rfl) (fun _ _ _ h => h) (by rfl) ?_ (by assumption) ?_
          rotate_left
          · (intro W hSw; have hc := ac_cells (HAT.out _ hSw); go_simp; try with_reducible rfl)
          try simp only [Act.put, gA, gS, gZ, sA, sZ, sS]
          refine wpAnyH_done (by kernel_rfl) ?_ _
          clear q0 q0'
          clear hHeld
          obtain ⟨z0, z1, hz⟩ := HP.out.2.2.2.2 _ _ H3.out (HP.out.2.1.ack p a) (ack_sd _ _ _ _)
          have HZ := Lib.hid hz
          clear hz
          go_wp2
          go_roundw
          case rel => exact ⟨i + 1, z0, z1, by go_num, by omega, Lib.hid HZ.out⟩
          case measure => simp [intOf]; omega
        have z2 : (kd % 4 == 2) = false := by simp [hk2]
        have z2t : (kd.tmod 4 == 2) = false := by rw [Int.tmod_eq_emod_of_nonneg hkd0]; exact z2
        clear hk2
        as_aux_lemma =>
        go_upto_region 17 with fail
        refine wp_region_held_drew (S := (fun V => Below W.heap.size W V)) (by kernel_rfl) HPd.out.bel (fun hHeld => ?_)
        refine tk (i := 0) (v := ?_) rfl (by kernel_rfl) (fun _ _ _ h => h) (by rfl) ?_ (by assumption) ?_
        rotate_left
        · (intro W hSw; have hc := ac_cells (HAT.out _ hSw); go_simp; try with_reducible rfl)
        try simp only [Act.put, gA, gZ, sA, sZ, sS]
        refine tk (i := 1) (v := ?_) rfl (by kernel_rfl) (fun _ _ _ h => h) (by rfl) ?_ (by assumption) ?_
        rotate_left
        · (intro W hSw; have hc := ac_cells (HAT.out _ hSw); go_simp; try with_reducible rfl)
        try simp only [Act.put, gA, gS, gZ, sA, sZ, sS]
        refine tk (i := 2) (v := ?_) rfl (by kernel_rfl) (fun _ _ _ h => h) (by rfl) ?_ (by assumption) ?_
        rotate_left
        · (intro W hSw; have hc := ac_cells (HAT.out _ hSw); go_simp; try with_reducible rfl)
        try simp only [Act.put, gA, gS, gZ, sA, sZ, sS]
        refine tk (i := 3) (v := ?_) rfl (by kernel_rfl) (fun _ _ _ h => h) (by rfl) ?_ (by assumption) ?_
        rotate_left
        · (intro W hSw; have hc := ac_cells (HAT.out _ hSw); go_simp; try with_reducible rfl)
        try simp only [Act.put, gA, gS, gZ, sA, sZ, sS]
        refine tk (i := 4) (v := ?_) rfl (by kernel_rfl) (fun _ _ _ h => h) (by rfl) ?_ (by assumption) ?_
        rotate_left
        · (intro W hSw; have hc := ac_cells (HAT.out _ hSw); go_simp; try with_reducible rfl)
        try simp only [Act.put, gA, gS, gZ, sA, sZ, sS]
        refine tk (i := 5) (v := ?_) rfl (by kernel_rfl) (fun _ _ _ h => h) (by rfl) ?_ (by assumption) ?_
        rotate_left
        · (intro W hSw; have hc := ac_cells (HAT.out _ hSw); go_simp; try with_reducible rfl)
        try simp only [Act.put, gA, gS, gZ, sA, sZ, sS]
        refine tk (i := 6) (v := ?_) rfl (by kernel_rfl) (fun _ _ _ h => h) (by rfl) ?_ (by assumption) ?_
        rotate_left
        · (intro W hSw; have hc := ac_cells (HAT.out _ hSw); go_simp; try with_reducible rfl)
        try simp only [Act.put, gA, gS, gZ, sA, sZ, sS]
        refine tk (i := 7) (v := ?_) rfl (by kernel_rfl) (fun _ _ _ h => h) (by rfl) ?_ (by assumption) ?_
        rotate_left
        · (intro W hSw; have hc := ac_cells (HAT.out _ hSw); go_simp; try with_reducible rfl)
        try simp only [Act.put, gA, gS, gZ, sA, sZ, sS]
        refine tk (i := 8) (v := ?_) rfl (by kernel_rfl) (fun _ _ _ h => h) (by rfl) ?_ (by assumption) ?_
        rotate_left
        · (intro W hSw; have hc := ac_cells (HAT.out _ hSw); go_simp; try with_reducible rfl)
        try simp only [Act.put, gA, gS, gZ, sA, sZ, sS]
        refine tk (i := 9) (v := ?_) rfl (by kernel_rfl) (fun _ _ _ h => h) (by rfl) ?_ (by assumption) ?_
        rotate_left
        · (intro W hSw; have hc := ac_cells (HAT.out _ hSw); go_simp; try with_reducible rfl)
        try simp only [Act.put, gA, gS, gZ, sA, sZ, sS]
        refine tk (i := 10) (v := ?_) rfl (by kernel_rfl) (fun _ _ _ h => h) (by rfl) ?_ (by assumption) ?_
        rotate_left
        · (intro W hSw; have hc := ac_cells (HAT.out _ hSw); go_simp; try with_reducible rfl)
        try simp only [Act.put, gA, gS, gZ, sA, sZ, sS]
        refine tk (i := 11) (v := ?_) rfl (by kernel_rfl) (fun _ _ _ h => h) (by rfl) ?_ (by assumption) ?_
        rotate_left
        · (intro W hSw; have hc := ac_cells (HAT.out _ hSw); go_simp; try with_reducible rfl)
        try simp only [Act.put, gA, gS, gZ, sA, sZ, sS]
        refine tk (i := 13) (v := ?_) rfl (by kernel_rfl) (fun _ _ _ h => h) (by rfl) ?_ (by assumption) ?_
        rotate_left
        · (intro W hSw; have hc := ac_cells (HAT.out _ hSw); go_simp; try with_reducible rfl)
        try simp only [Act.put, gA, gS, gZ, sA, sZ, sS]
        refine tk (i := 14) (v := ?_) rfl (by kernel_rfl) (fun _ _ _ h => h) (by rfl) ?_ (by assumption) ?_
        rotate_left
        · (intro W hSw; have hc := ac_cells (HAT.out _ hSw); go_simp; try with_reducible rfl)
        try simp only [Act.put, gA, gS, gZ, sA, sZ, sS]
        refine tk (i := 15) (v := ?_) rfl (by kernel_rfl) (fun _ _ _ h => h) (by rfl) ?_ (by assumption) ?_
        rotate_left
        · (intro W hSw; have hc := ac_cells (HAT.out _ hSw); go_simp; try with_reducible rfl)
        try simp only [Act.put, gA, gS, gZ, sA, sZ, sS]
        refine tk (i := 16) (v := ?_) rfl (by kernel_rfl) (fun _ _ _ h => h) (by rfl) ?_ (by assumption) ?_
        rotate_left
        · (intro W hSw; have hc := ac_cells (HAT.out _ hSw); go_simp; try with_reducible rfl)
        try simp only [Act.put, gA, gS, gZ, sA, sZ, sS]
        refine tk (i := 17) (v := ?_) rfl (by kernel_rfl) (fun _ _ _ h => h) (by rfl) ?_ (by assumption) ?_
        rotate_left
        · (intro W hSw; have hc := ac_cells (HAT.out _ hSw); go_simp; try with_reducible rfl)
        try simp only [Act.put, gA, gS, gZ, sA, sZ, sS]
        refine tk (i := 18) (v := ?_) rfl (by kernel_rfl) (fun _ _ _ h => h) (by rfl) ?_ (by assumption) ?_
        rotate_left
        · (intro W hSw; have hc := ac_cells (HAT.out _ hSw); go_simp; try with_reducible rfl)
        try simp only [Act.put, gA, gS, gZ, sA, sZ, sS]
        refine tk (i := 19) (v := ?_) rfl (by kernel_rfl) (fun _ _ _ h => h) (by rfl) ?_ (by assumption) ?_
        rotate_left
        · (intro W hSw; have hc := ac_cells (HAT.out _ hSw); go_simp; try with_reducible rfl)
        try simp only [Act.put, gA, gS, gZ, sA, sZ, sS]
        refine tk (i := 20) (v := ?_) rfl (by kernel_rfl) (fun _ _ _ h => h) (by rfl) ?_ (by assumption) ?_
        rotate_left
        · (intro W hSw; have hc := ac_cells (HAT.out _ hSw); go_simp; try with_reducible rfl)
        try simp only [Act.put, gA, gS, gZ, sA, sZ, sS]
        refine tk (i := 21) (v := ?_) rfl (by kernel_rfl) (fun _ _ _ h => h) (by rfl) ?_ (by assumption) ?_
        rotate_left
        · (intro W hSw; have hc := ac_cells (HAT.out _ hSw); go_simp; try with_reducible rfl)
        try simp only [Act.put, gA, gS, gZ, sA, sZ, sS]
        refine tk (i := 22) (v := ?_) rfl (by kernel_rfl) (fun _ _ _ h => h) (by rfl) ?_ (by assumption) ?_
        rotate_left
        · (intro W hSw; have hc := ac_cells (HAT.out _ hSw); go_simp; try with_reducible rfl)
        try simp only [Act.put, gA, gS, gZ, sA, sZ, sS]
        refine tk (i := 23) (v := ?_) rfl (by kernel_rfl) (fun _ _ _ h => h) (by rfl) ?_ (by assumption) ?_
        rotate_left
        · (intro W hSw; have hc := ac_cells (HAT.out _ hSw); go_simp; try with_reducible rfl)
        try simp only [Act.put, gA, gS, gZ, sA, sZ, sS]
        refine tk (i := 24) (v := ?_) rfl (by kernel_rfl) (fun _ _ _ h => h) (by rfl) ?_ (by assumption) ?_
        rotate_left
        · (intro W hSw; have hc := ac_cells (HAT.out _ hSw); go_simp; try with_reducible rfl)
        try simp only [Act.put, gA, gS, gZ, sA, sZ, sS]
        refine wpAnyH_ready (rs := [12]) (by kernel_rfl) (by simp) ?_
        refine AllReadyH.cons rfl (fun K hK => ?_) AllReadyH.nil
        simp only [gA, gS, gZ]
        rw [if_pos (by rfl)]
        go_simp
        refine (HPd.out.tmo p HOK.out.1 h).mono ?_
        rintro e w2 ⟨rfl, hy2⟩
        have H2 := Lib.hid hy2
        clear hy2
        go_wp2_with fail
        refine hK.out _ _ H2.out.bel (fun hHeld => ?_)
        clear hK K
        try simp only [Act.put, gA, gS, gZ, sA, sZ, sS]
        refine wpAnyH_ready (rs := [25]) (by kernel_rfl) (by simp) ?_
        refine AllReadyH.cons rfl (fun K hK => ?_) AllReadyH.nil
        simp only [gA, gS, gZ]
        rw [if_pos (by rfl)]
        go_simp
        refine (H2.out.ptmo HT.out HP.out.2.1 HP.out.2.2.1 (Nat.le_of_succ_le hi6) p HOK.out.1 h).mono ?_
        rintro e w3 ⟨rfl, hy3⟩
        have H3 := Lib.hid hy3
        clear hy3
        go_wp2_with fail
        refine hK.out _ _ H3.out.bel (fun hHeld => ?_)
        clear hK K
        try simp only [Act.put, gA, gS, gZ, sA, sZ, sS]
        refine tk (i := 26) (v := ?_) rfl (by kernel_rfl) (fun _ _ _ h => h) (by rfl) ?_ (by assumption) ?_
        rotate_left
        · (intro W hSw; have hc := ac_cells (HAT.out _ hSw); go_simp; try with_reducible rfl)
        try simp only [Act.put, gA, gS, gZ, sA, sZ, sS]
        refine wpAnyH_done (by kernel_rfl) ?_ _
        clear q0 q0'
        clear hHeld
        obtain ⟨z0, z1, hz⟩ := HP.out.2.2.2.2 _ _ H3.out (HP.out.2.1.tmo p h) (tmo_sd _ _ _ _)
        have HZ := Lib.hid hz
        clear hz
        go_wp2
        go_roundw
        case rel => exact ⟨i + 1, z0, z1, by go_num, by omega, Lib.hid HZ.out⟩
        case measure => simp [intOf]; omega
    · as_aux_lemma =>
      obtain rfl : i = len := by omega
      have hii : ¬ ((i : Int) < (i : Int)) := by omega
      clear HQ
      have hi6 : i ≤ 1000000 := by omega
      go_wp2_with fail
      refine (awake_any _ HS.out.1.tab).mono ?_
      rintro _ w6 ⟨rfl, b6⟩
      have H6 := Lib.hid (HS.out.1.below b6)
      clear b6
      go_wp2_with fail
      refine (H6.out.same HS.out.2.1 hi6).mono ?_
      rintro _ w7 ⟨rfl, h7⟩
      have H7 := Lib.hid h7.swap
      clear h7
      go_wp2_with fail
      refine (H7.out.same HS.out.2.2.1 hi6).mono ?_
      rintro _ w8 ⟨rfl, h8⟩
      have H8 := Lib.hid h8.bel
      clear h8
      go_wp2
      go_ret
      exact ⟨rfl, H8.out⟩
end Go.Proofs.YtdljphbfbiganaaGreatDoor.Pl
