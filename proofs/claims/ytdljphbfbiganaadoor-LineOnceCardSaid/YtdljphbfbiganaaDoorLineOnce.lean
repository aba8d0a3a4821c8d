import Derived.Test.YtdljphbfbiganaaDoorLoA
import Derived.Test.YtdljphbfbiganaaDoorLoB
import Derived.Test.YtdljphbfbiganaaDoorLnC
import Derived.Deep.CutBlock
import Derived.Deep.DeepCutAuto
/- LineOnce: the law. -/
namespace Go.Proofs.YtdljphbfbiganaaDoor.Lo
open Go Go.RowKit Packet Mg Lg Ln
set_option linter.unusedVariables false
set_option linter.unusedSimpArgs false

theorem heap_alloc_size (w : World) (o : Obj) : (w.alloc o).heap.size = w.heap.size + 1 := by simp
theorem info_partsK {o : Option TypeInfo} {z : Value} {s b : Nat} (h : o.map (fun i => (i.zero, i.size, i.bytes)) = some (some z, s, b)) : ∃ i, o = some i ∧ i.zero = some z ∧ i.size = s ∧ i.bytes = b := by
  cases o with
  | none => simp at h
  | some i => simp at h; exact ⟨i, rfl, h.1, h.2.1, h.2.2⟩
set_option maxRecDepth 20000 in
set_option maxHeartbeats 16000000 in
theorem law (o : Bool) (A : Option Addr) (len cap : Nat) (qs : List Ac) (W : World) (hT : Sha.Tab W) (hq : RdA W A len qs) (hlm : len ≤ 9223372036854775807) :
    Calls Tryd.prog 3 #[.bool o, .slice A len cap] W fun e w' => e = .returned (.bool true) ∧ Below W.heap.size W w' := by
  have HT := Lib.hid hT
  have HQ := Lib.hid hq
  have HLM := Lib.hid hlm
  clear hT hq hlm
  go_enter Tryd.func3, Tryd.ntmps3
  go_wp2_with fail
  refine (few_any A len cap qs _ HQ.out HLM.out).mono ?_
  rintro _ w1 ⟨⟨b, rfl, hb⟩, b1⟩
  have H1 := Lib.hid (And.intro b1 hb)
  clear b1 hb
  cases b
  · go_wp2_with fail
    refine (awake_any _ (Sha.tab_below HT.out H1.out.1)).mono ?_
    rintro _ w9 ⟨rfl, b9⟩
    have hbe := H1.out.1.trans (b9.mono H1.out.1.size)
    clear b9
    go_wp2
    go_ret
    exact ⟨rfl, hbe⟩
  have hfew := H1.out.2 rfl
  have HF := Lib.hid hfew.1
  have hl := hfew.2
  clear hfew
  go_wp2_with fail
  refine (lnew_g 1 0 o (by decide) (by decide) (by decide) _).mono ?_
  rintro _ w2 ⟨⟨E, M, N, rfl, l1, e1, e2, e3⟩, b2⟩
  have H2 := Lib.hid (And.intro (H1.out.1.trans (b2.mono H1.out.1.size)) (And.intro l1 (And.intro e1 (And.intro e2 e3))))
  have HS := H1.out.1.size
  have HS1 := Lib.hid HS
  clear l1 e1 e2 e3 b2 HS
  go_wp2_with fail
  refine (lnew_g 1 1 o (by decide) (by decide) (by decide) _).mono ?_
  rintro _ w3 ⟨⟨E', M', N', rfl, l2, e1, e2, e3⟩, b3⟩
  have hpr : Pr W w3 0 E M N ⟨1, 0, o, false, 1, 1, 1, [], []⟩ E' M' N' ⟨1, 1, o, false, 1, 1, 1, [], []⟩ o [] [] [] := by
    have l0 := H2.out.2.1
    have c1 := H2.out.2.2.1
    have c2 := H2.out.2.2.2.1
    have c3 := H2.out.2.2.2.2
    have c4 := H2.out.1.size
    have c5 := HS1.out
    have c6 := l0.lt
    refine ⟨H2.out.1.trans (b3.mono c4), Sha.tab_below HT.out (H2.out.1.trans (b3.mono c4)), l0.below b3, l2, by omega, by omega, ⟨rfl, rfl, rfl, by simp, by simp, by simp⟩, ⟨rfl, rfl, rfl, by simp, by simp, by simp⟩, Sd.new rfl rfl rfl, Sd.new rfl rfl rfl, .inl rfl⟩
  have H3 := Lib.hid hpr
  clear l2 e1 e2 e3 b3 hpr
  go_upto_region 9 with fail
  have hbx := (Below.refl w3.heap.size w3).alloc (Nat.le_refl _) (.cells #[.int .u64 0, .int .u64 0] TH)
  have hrs : Rs W (w3.alloc (.cells #[.int .u64 0, .int .u64 0] TH)) none 0 0 [] none 0 0 [] none 0 0 [] w3.heap.size :=
    ⟨⟨World.ownsRow_nil _ _ _ _, rfl⟩, ⟨World.ownsRow_nil _ _ _ _, rfl⟩, ⟨World.ownsRow_nil _ _ _ _, rfl⟩, fun k hk => (by cases hk), fun k hk => (by cases hk), fun k hk => (by cases hk), ⟨0, 0, heap_alloc_new _ _⟩, H3.out.bel.size⟩
  have H4 := Lib.hid (And.intro (H3.out.below hbx) hrs)
  obtain ⟨Q, hQ⟩ : ∃ Q, Q = w3.heap.size := ⟨_, rfl⟩
  obtain ⟨w4, hw4⟩ : ∃ X, X = w3.alloc (.cells #[.int .u64 0, .int .u64 0] TH) := ⟨_, rfl⟩
  rw [← hQ, ← hw4] at H4
  rw [← hQ, ← hw4]
  clear hQ hw4 hbx hrs H3 H2 HS1 H1
  go_wp2_with fail
  go_loopw [10, 11, 12, 13] (fun s10 s11 s12 s13 wr => ∃ (i : Nat) (A1 : Option Addr) (m1 c1 : Nat) (A2 : Option Addr) (m2 c2 : Nat) (A3 : Option Addr) (m3 c3 : Nat) (got gone ex : List (Int × Int)) (s s' : St), s10 = .slice A1 m1 c1 ∧ s11 = .slice A2 m2 c2 ∧ s12 = .slice A3 m3 c3 ∧ s13 = .int .i64 (i : Int) ∧ i ≤ len ∧ Hid (Pr W wr 0 E M N s E' M' N' s' o got gone ex ∧ Rs W wr A1 m1 c1 got A2 m2 c2 gone A3 m3 c3 ex Q ∧ got.length ≤ i ∧ gone.length ≤ i ∧ ex.length ≤ i)) (fun _ _ _ vi _ => len - (intOf vi).toNat)
  case atStart => exact ⟨0, none, 0, 0, none, 0, 0, none, 0, 0, [], [], [], _, _, rfl, rfl, rfl, rfl, Nat.zero_le _, Lib.hid ⟨H4.out.1, H4.out.2, Nat.le_refl _, Nat.le_refl _, Nat.le_refl _⟩⟩
  case round =>
    clear H4
    obtain ⟨i, A1, m1, c1, A2, m2, c2, A3, m3, c3, got, gone, ex, s0, s1, rfl, rfl, rfl, rfl, hi, HS⟩ := hrel
    by_cases hlt : i < len
    · have hi0 : (0 : Int) ≤ (i : Int) := by omega
      have hi1 : (i : Int) < (len : Int) := by omega
      obtain ⟨b9, off, hAq, hbl, hcs⟩ := HQ.out.cells (by omega)
      have hlq : i < qs.length := by have := HQ.out.many; omega
      have hat := hcs i hlq
      have hok := HQ.out.ok _ (List.getElem_mem hlq)
      have hsm := HF.out _ (List.getElem_mem hlq)
      obtain ⟨q, hqq⟩ : ∃ q, q = qs[i] := ⟨_, rfl⟩
      rw [← hqq] at hat hok hsm
      subst hAq
      clear hcs hqq
      obtain ⟨kd, sd, ⟨pc, f, s, t, d⟩, h, a⟩ := q
      have HAT : Hid (∀ V, Below W.heap.size W V → AcAt V b9 off i ⟨kd, sd, ⟨pc, f, s, t, d⟩, h, a⟩) := Lib.hid fun V hb => hat.keep (hb.block b9 hbl)
      have HOK : Hid (P5.ok ⟨1, f, s, t, d⟩ ∧ a.size ≤ 1000000) := Lib.hid ⟨⟨hok.p.1, hok.p.2.1, hok.p.2.2.1, hok.p.2.2.2.1, hok.p.2.2.2.2⟩, by have := hsm.2; simp only at this; omega⟩
      have hkd0 : 0 ≤ kd := hok.kd.1
      have hsd0 : 0 ≤ sd := hok.sd.1
      have hh0 : 0 ≤ h := hok.h.1
      have hs0 : 0 ≤ s := hok.p.1
      have hs1 : s < 18446744073709551616 := hok.p.2.1
      obtain ⟨j, hj, hj2⟩ : ∃ j : Nat, sd.tmod 2 = (j : Int) ∧ j < 2 := ⟨(sd.tmod 2).toNat, by rw [Int.toNat_of_nonneg (Int.tmod_nonneg _ hsd0)], by have := Int.tmod_lt_of_pos sd (show (0:Int) < 2 by decide); have := Int.tmod_nonneg 2 hsd0; omega⟩
      obtain ⟨j', hj'⟩ : ∃ j' : Nat, j' + j = 1 := ⟨1 - j, by omega⟩
      have hjI0 : (0 : Int) ≤ (j : Int) := by omega
      have hjI2 : (j : Int) < 2 := by omega
      have hjI0' : (0 : Int) ≤ (j' : Int) := by omega
      have hjI2' : (j' : Int) < 2 := by omega
      have hjw : IntKind.i64.wrap (1 - (j : Int)) = (j' : Int) := by rw [show 1 - (j : Int) = (j' : Int) by omega]; simp [IntKind.wrap, IntKind.bits, IntKind.signed]; omega
      have hat1 := HAT.out _ HS.out.1.bel
      have q1 : wr.cell? ⟨b9, off + i * 9 + 1, none⟩ = some (.int .u8 sd) := hat1 1 (by decide)
      clear hat1 hat hok hsm hbl hlq
      have HJ := Lib.hid (And.intro hj2 hj')
      clear hj2 hj'
      go_upto_if 57 with fail
      go_cut [15, 16] from 41 to 196 (fun s15 s16 wx => ∃ (Ea Ma Na : Nat) (sa : St) (Eb Mb Nb : Nat) (sb : St), s15 = .pointer (some ⟨Ea, 0, none⟩) ∧ s16 = .pointer (some ⟨Eb, 0, none⟩) ∧ wx = wr ∧ Hid (Pr W wr (j : Int) Ea Ma Na sa Eb Mb Nb sb o got gone ex ∧ (∀ V got gone ex sa sb, Pr W V (j : Int) Ea Ma Na sa Eb Mb Nb sb o got gone ex → ∃ s s', Pr W V 0 E M N s E' M' N' s' o got gone ex)))
      case first =>
        rcases (show j = 0 ∨ j = 1 by have := HJ.out.1; omega) with hj0 | hj0
        · have hb0 : ((j : Int) == 1) = false := by simp; omega
          have HJ0 := Lib.hid hj0
          clear hj0
          go_wp2
          go_meet
          exact ⟨E, M, N, s0, E', M', N', s1, rfl, rfl, rfl, Lib.hid ⟨by rw [HJ0.out]; exact HS.out.1, fun V got gone ex sa sb h => ⟨sa, sb, by rw [HJ0.out] at h; exact h⟩⟩⟩
        · have hb0 : ((j : Int) == 1) = true := by simp; omega
          have HJ0 := Lib.hid hj0
          clear hj0
          go_wp2
          go_meet
          exact ⟨E', M', N', s1, E, M, N, s0, rfl, rfl, rfl, Lib.hid ⟨by rw [HJ0.out]; exact HS.out.1.swap, fun V got gone ex sa sb h => ⟨sb, sa, by rw [HJ0.out] at h; exact h.swap⟩⟩⟩
      case rest =>
        obtain ⟨Ea, Ma, Na, sa, Eb, Mb, Nb, sb, rfl, rfl, hwc, HP⟩ := hcut
        obtain rfl := hwc.symm
        clear hwc
        obtain ⟨hv, g1⟩ := HS.out.2.1.hq.at j HJ.out.1
        have cf := fun k => HS.out.2.1.hq.fz k
        have q7 : wr.cell? ⟨b9, off + i * 9 + 7, none⟩ = some (.int .u64 h) := HAT.out _ HS.out.1.bel 7 (by decide)
        obtain ⟨y, hy⟩ : ∃ y, IntKind.u64.wrap (hv + h % 8) = y := ⟨_, rfl⟩
        have h5 := HP.out.1.setQ HS.out.2.1.hq HS.out.2.1.lo HT.out j y
        have r5 := HS.out.2.1.setQ j HJ.out.1 y
        have H5 := Lib.hid (And.intro (h5.below (Below.refl _ _).drew) (r5.ft (ft_below (Below.refl _ _).drew)))
        have HLn := Lib.hid HS.out.2.2
        have HPb := Lib.hid HP.out.2
        clear h5 r5 q1
        go_upto_region 16 with fail
        go_region
        obtain ⟨w5, hw5⟩ : ∃ X, X = (wr.setCell ⟨Q, j, none⟩ (.int .u64 y)).drew := ⟨_, rfl⟩
        rw [← hw5] at H5 ⊢
        clear hw5 hy g1 cf q7 HS HP
        have q2 : w5.cell? ⟨b9, off + i * 9 + 2, none⟩ = some (.int .i64 pc) := HAT.out _ H5.out.1.bel 2 (by decide)
        have q3 : w5.cell? ⟨b9, off + i * 9 + 3, none⟩ = some (.int .i64 f) := HAT.out _ H5.out.1.bel 3 (by decide)
        have q4 : w5.cell? ⟨b9, off + i * 9 + 4, none⟩ = some (.int .u64 s) := HAT.out _ H5.out.1.bel 4 (by decide)
        have q5 : w5.cell? ⟨b9, off + i * 9 + 5, none⟩ = some (.int .u64 t) := HAT.out _ H5.out.1.bel 5 (by decide)
        have q6 : w5.cell? ⟨b9, off + i * 9 + 6, none⟩ = some (.string d) := HAT.out _ H5.out.1.bel 6 (by decide)
        go_upto_region 19 with fail
        have hbx := (Below.refl w5.heap.size w5).alloc (Nat.le_refl _) (.cells #[.int .i64 1, .int .i64 f, .int .u64 s, .int .u64 t, .string d] TPk)
        have hpk : PkB (w5.alloc (.cells #[.int .i64 1, .int .i64 f, .int .u64 s, .int .u64 t, .string d] TPk)) w5.heap.size ⟨1, f, s, t, d⟩ := heap_alloc_new _ _
        have H6 := Lib.hid (And.intro (H5.out.1.below hbx) (And.intro (H5.out.2.ft (ft_below hbx)) hpk))
        obtain ⟨P, hP⟩ : ∃ P, P = w5.heap.size := ⟨_, rfl⟩
        obtain ⟨w6, hw6⟩ : ∃ X, X = w5.alloc (.cells #[.int .i64 1, .int .i64 f, .int .u64 s, .int .u64 t, .string d] TPk) := ⟨_, rfl⟩
        rw [← hP, ← hw6] at H6
        rw [← hP, ← hw6]
        clear hP hw6 hbx hpk q2 q3 q4 q5 q6 H5
        obtain ⟨p0, p1, p2, p3, p4, pf⟩ := PkB.cells H6.out.2.2
        go_wp2_with fail
        refine (Sha.key_any ⟨1, f, s, t, d⟩ _).mono ?_
        rintro _ w7 ⟨rfl, b7⟩
        have hr7 := H6.out.2.1.ft (ft_below b7)
        have hby := (Below.refl w7.heap.size w7).alloc (Nat.le_refl _) (.cells #[.int .i64 1, .int .i64 f, .int .u64 s] TKy)
        have hkb := KB.new hr7 f s
        have H7 := Lib.hid (And.intro ((H6.out.1.below b7).below hby) (And.intro (hr7.ft (ft_below hby)) (And.intro hkb (PkB.ft (PkB.ft H6.out.2.2 (ft_below b7)) (ft_below hby)))))
        go_upto_region 20 with fail
        obtain ⟨K, hK⟩ : ∃ K, K = w7.heap.size := ⟨_, rfl⟩
        obtain ⟨w8, hw8⟩ : ∃ X, X = w7.alloc (.cells #[.int .i64 1, .int .i64 f, .int .u64 s] TKy) := ⟨_, rfl⟩
        rw [← hK, ← hw8] at H7
        rw [← hw8]
        (try rw [← hK])
        clear hK hw8 hr7 hby hkb b7 p0 p1 p2 p3 p4 pf H6
        have q0 : w8.cell? ⟨b9, off + i * 9, none⟩ = some (.int .u8 kd) := HAT.out _ H7.out.1.bel 0 (by decide)
        have q0' : w8.cell? ⟨b9, off + i * 9 + 0, none⟩ = some (.int .u8 kd) := q0
        have H7d := Lib.hid (b4_below H7.out (Below.refl _ _).drew)
        by_cases hk0 : kd.tmod 4 = 0
        · have z0 : (kd.tmod 4 == 0) = true := by simp [hk0]
          have y0 : (kd % 4 == 0) = true := by rw [← Int.tmod_eq_emod_of_nonneg hkd0]; exact z0
          have HK := Lib.hid hk0
          clear hk0
          obtain ⟨hw, g1⟩ := H7.out.2.1.hq.at j' (by have := HJ.out.2; omega)
          have g1d : w8.drew.cell? ⟨Q, j', none⟩ = some (.int .u64 hw) := g1
          clear g1
          go_upto_region 27 with fail
          refine wp_region_held_drew (S := (fun V => PkB V P ⟨1, f, s, t, d⟩ ∧ V.cell? ⟨Q, j', none⟩ = some (.int .u64 hw))) (by kernel_rfl) ⟨H7d.out.2.2.2, g1d⟩ (fun hHeld => ?_)
          refine wpAnyH_take (i := 0) (oi := _) (v := ?_) rfl (by kernel_rfl) (by kernel_rfl) (by kernel_rfl) (fun _ _ _ h => h) (Or.inl ⟨by rfl, ?_⟩) (by assumption) ?_
          rotate_left
          · (intro W hSw; obtain ⟨⟨p0, p1, p2, p3, p4, pf⟩, g1⟩ := And.intro (PkB.cells hSw.1) hSw.2; go_simp; try with_reducible rfl)
          try simp only [Act.put, List.getElem_toArray, List.getElem_cons_zero, List.setIfInBounds_toArray, List.set_cons_zero, List.set_cons_succ]
          refine wpAnyH_take (i := 1) (oi := _) (v := ?_) rfl (by kernel_rfl) (by kernel_rfl) (by kernel_rfl) (fun _ _ _ h => h) (Or.inl ⟨by rfl, ?_⟩) (by assumption) ?_
          rotate_left
          · (intro W hSw; obtain ⟨⟨p0, p1, p2, p3, p4, pf⟩, g1⟩ := And.intro (PkB.cells hSw.1) hSw.2; go_simp; try with_reducible rfl)
          try simp only [Act.put, List.getElem_toArray, List.getElem_cons_succ, List.getElem_cons_zero, List.setIfInBounds_toArray, List.set_cons_zero, List.set_cons_succ]
          refine wpAnyH_take (i := 2) (oi := _) (v := ?_) rfl (by kernel_rfl) (by kernel_rfl) (by kernel_rfl) (fun _ _ _ h => h) (Or.inl ⟨by rfl, ?_⟩) (by assumption) ?_
          rotate_left
          · (intro W hSw; obtain ⟨⟨p0, p1, p2, p3, p4, pf⟩, g1⟩ := And.intro (PkB.cells hSw.1) hSw.2; go_simp; try with_reducible rfl)
          try simp only [Act.put, List.getElem_toArray, List.getElem_cons_succ, List.getElem_cons_zero, List.setIfInBounds_toArray, List.set_cons_zero, List.set_cons_succ]
          refine wpAnyH_take (i := 3) (oi := _) (v := ?_) rfl (by kernel_rfl) (by kernel_rfl) (by kernel_rfl) (fun _ _ _ h => h) (Or.inl ⟨by rfl, ?_⟩) (by assumption) ?_
          rotate_left
          · (intro W hSw; obtain ⟨⟨p0, p1, p2, p3, p4, pf⟩, g1⟩ := And.intro (PkB.cells hSw.1) hSw.2; go_simp; try with_reducible rfl)
          try simp only [Act.put, List.getElem_toArray, List.getElem_cons_succ, List.getElem_cons_zero, List.setIfInBounds_toArray, List.set_cons_zero, List.set_cons_succ]
          refine wpAnyH_take (i := 4) (oi := _) (v := ?_) rfl (by kernel_rfl) (by kernel_rfl) (by kernel_rfl) (fun _ _ _ h => h) (Or.inl ⟨by rfl, ?_⟩) (by assumption) ?_
          rotate_left
          · (intro W hSw; obtain ⟨⟨p0, p1, p2, p3, p4, pf⟩, g1⟩ := And.intro (PkB.cells hSw.1) hSw.2; go_simp; try with_reducible rfl)
          try simp only [Act.put, List.getElem_toArray, List.getElem_cons_succ, List.getElem_cons_zero, List.setIfInBounds_toArray, List.set_cons_zero, List.set_cons_succ]
          refine wpAnyH_take (i := 5) (oi := _) (v := ?_) rfl (by kernel_rfl) (by kernel_rfl) (by kernel_rfl) (fun _ _ _ h => h) (Or.inl ⟨by rfl, ?_⟩) (by assumption) ?_
          rotate_left
          · (intro W hSw; obtain ⟨⟨p0, p1, p2, p3, p4, pf⟩, g1⟩ := And.intro (PkB.cells hSw.1) hSw.2; go_simp; try with_reducible rfl)
          try simp only [Act.put, List.getElem_toArray, List.getElem_cons_succ, List.getElem_cons_zero, List.setIfInBounds_toArray, List.set_cons_zero, List.set_cons_succ]
          refine wpAnyH_ready (rs := [6]) (by kernel_rfl) (by simp) ?_
          refine AllReadyH.cons rfl (fun K hK => ?_) AllReadyH.nil
          simp only [List.getElem_toArray, List.getElem_cons_succ, List.getElem_cons_zero]
          rw [if_pos (by rfl)]
          go_simp
          refine (H7d.out.1.send ⟨1, f, s, t, d⟩ HOK.out.1 _).mono ?_
          rintro _ w9 ⟨qq, cc, rfl, ⟨s9, hp9⟩, hf9⟩
          have c9 : w9.cell? ⟨Q, j', none⟩ = some (.int .u64 hw) := (hf9.cellQ H7d.out.2.1.hq j').trans g1d
          have hrst := And.intro (Rs.ft H7d.out.2.1 hf9) (And.intro (KB.ft H7d.out.2.2.1 hf9) (PkB.ft H7d.out.2.2.2 hf9))
          have H9 := Lib.hid (And.intro hp9 hrst)
          have HX := Lib.hid c9
          clear hp9 hf9 hrst c9
          go_wp2_with fail
          refine hK.out _ _ ⟨H9.out.2.2.2, HX.out⟩ (fun hHeld => ?_)
          clear hK K
          try simp only [Act.put, List.getElem_toArray, List.getElem_cons_succ, List.getElem_cons_zero, List.setIfInBounds_toArray, List.set_cons_zero, List.set_cons_succ]
          refine wpAnyH_done (by kernel_rfl) ?_ _
          clear g1d q0 q0' H7 H7d
          go_wp2
          go_roundw
          case rel =>
            obtain ⟨z0, z1, hz⟩ := HPb.out _ _ _ _ _ _ H9.out.1
            exact ⟨i + 1, A1, m1, c1, A2, m2, c2, A3, m3, c3, got, gone, ex, z0, z1, rfl, rfl, rfl, by go_num, by omega, Lib.hid ⟨hz, H9.out.2.1, by have := HLn.out; (try rw [List.length_append, List.length_singleton]); omega, by have := HLn.out; (try rw [List.length_append, List.length_singleton]); omega, by have := HLn.out; (try rw [List.length_append, List.length_singleton]); omega⟩⟩
          case measure => simp [intOf]; omega
        have z0 : (kd.tmod 4 == 0) = false := by simp [hk0]
        have y0 : (kd % 4 == 0) = false := by rw [← Int.tmod_eq_emod_of_nonneg hkd0]; exact z0
        clear hk0
        by_cases hk1 : kd.tmod 4 = 1
        · have z1 : (kd.tmod 4 == 1) = true := by simp [hk1]
          have y1 : (kd % 4 == 1) = true := by rw [← Int.tmod_eq_emod_of_nonneg hkd0]; exact z1
          have HK := Lib.hid hk1
          clear hk1
          obtain ⟨hw, g1⟩ := H7.out.2.1.hq.at j (HJ.out.1)
          have g1d : w8.drew.cell? ⟨Q, j, none⟩ = some (.int .u64 hw) := g1
          clear g1
          go_upto_region 29 with fail
          refine wp_region_held_drew (S := (fun V => PkB V P ⟨1, f, s, t, d⟩ ∧ V.cell? ⟨Q, j, none⟩ = some (.int .u64 hw))) (by kernel_rfl) ⟨H7d.out.2.2.2, g1d⟩ (fun hHeld => ?_)
          refine wpAnyH_take (i := 0) (oi := _) (v := ?_) rfl (by kernel_rfl) (by kernel_rfl) (by kernel_rfl) (fun _ _ _ h => h) (Or.inl ⟨by rfl, ?_⟩) (by assumption) ?_
          rotate_left
          · (intro W hSw; obtain ⟨⟨p0, p1, p2, p3, p4, pf⟩, g1⟩ := And.intro (PkB.cells hSw.1) hSw.2; go_simp; try with_reducible rfl)
          try simp only [Act.put, List.getElem_toArray, List.getElem_cons_zero, List.setIfInBounds_toArray, List.set_cons_zero, List.set_cons_succ]
          refine wpAnyH_take (i := 1) (oi := _) (v := ?_) rfl (by kernel_rfl) (by kernel_rfl) (by kernel_rfl) (fun _ _ _ h => h) (Or.inl ⟨by rfl, ?_⟩) (by assumption) ?_
          rotate_left
          · (intro W hSw; obtain ⟨⟨p0, p1, p2, p3, p4, pf⟩, g1⟩ := And.intro (PkB.cells hSw.1) hSw.2; go_simp; try with_reducible rfl)
          try simp only [Act.put, List.getElem_toArray, List.getElem_cons_succ, List.getElem_cons_zero, List.setIfInBounds_toArray, List.set_cons_zero, List.set_cons_succ]
          refine wpAnyH_take (i := 2) (oi := _) (v := ?_) rfl (by kernel_rfl) (by kernel_rfl) (by kernel_rfl) (fun _ _ _ h => h) (Or.inl ⟨by rfl, ?_⟩) (by assumption) ?_
          rotate_left
          · (intro W hSw; obtain ⟨⟨p0, p1, p2, p3, p4, pf⟩, g1⟩ := And.intro (PkB.cells hSw.1) hSw.2; go_simp; try with_reducible rfl)
          try simp only [Act.put, List.getElem_toArray, List.getElem_cons_succ, List.getElem_cons_zero, List.setIfInBounds_toArray, List.set_cons_zero, List.set_cons_succ]
          refine wpAnyH_take (i := 3) (oi := _) (v := ?_) rfl (by kernel_rfl) (by kernel_rfl) (by kernel_rfl) (fun _ _ _ h => h) (Or.inl ⟨by rfl, ?_⟩) (by assumption) ?_
          rotate_left
          · (intro W hSw; obtain ⟨⟨p0, p1, p2, p3, p4, pf⟩, g1⟩ := And.intro (PkB.cells hSw.1) hSw.2; go_simp; try with_reducible rfl)
          try simp only [Act.put, List.getElem_toArray, List.getElem_cons_succ, List.getElem_cons_zero, List.setIfInBounds_toArray, List.set_cons_zero, List.set_cons_succ]
          refine wpAnyH_take (i := 4) (oi := _) (v := ?_) rfl (by kernel_rfl) (by kernel_rfl) (by kernel_rfl) (fun _ _ _ h => h) (Or.inl ⟨by rfl, ?_⟩) (by assumption) ?_
          rotate_left
          · (intro W hSw; obtain ⟨⟨p0, p1, p2, p3, p4, pf⟩, g1⟩ := And.intro (PkB.cells hSw.1) hSw.2; go_simp; try with_reducible rfl)
          try simp only [Act.put, List.getElem_toArray, List.getElem_cons_succ, List.getElem_cons_zero, List.setIfInBounds_toArray, List.set_cons_zero, List.set_cons_succ]
          refine wpAnyH_take (i := 5) (oi := _) (v := ?_) rfl (by kernel_rfl) (by kernel_rfl) (by kernel_rfl) (fun _ _ _ h => h) (Or.inl ⟨by rfl, ?_⟩) (by assumption) ?_
          rotate_left
          · (intro W hSw; obtain ⟨⟨p0, p1, p2, p3, p4, pf⟩, g1⟩ := And.intro (PkB.cells hSw.1) hSw.2; go_simp; try with_reducible rfl)
          try simp only [Act.put, List.getElem_toArray, List.getElem_cons_succ, List.getElem_cons_zero, List.setIfInBounds_toArray, List.set_cons_zero, List.set_cons_succ]
          refine wpAnyH_take (i := 6) (oi := _) (v := ?_) rfl (by kernel_rfl) (by kernel_rfl) (by kernel_rfl) (fun _ _ _ h => h) (Or.inl ⟨by rfl, ?_⟩) (by assumption) ?_
          rotate_left
          · (intro W hSw; obtain ⟨⟨p0, p1, p2, p3, p4, pf⟩, g1⟩ := And.intro (PkB.cells hSw.1) hSw.2; go_simp; try with_reducible rfl)
          try simp only [Act.put, List.getElem_toArray, List.getElem_cons_succ, List.getElem_cons_zero, List.setIfInBounds_toArray, List.set_cons_zero, List.set_cons_succ]
          refine wpAnyH_ready (rs := [7]) (by kernel_rfl) (by simp) ?_
          refine AllReadyH.cons rfl (fun K hK => ?_) AllReadyH.nil
          simp only [List.getElem_toArray, List.getElem_cons_succ, List.getElem_cons_zero]
          rw [if_pos (by rfl)]
          go_simp
          refine (H7d.out.1.recv ⟨1, f, s, t, d⟩ HOK.out.1 _).mono ?_
          rintro _ w9 ⟨aa, cc, rfl, ⟨s9, got9, hp9, hc9⟩, hf9⟩
          have c9 : w9.cell? ⟨Q, j, none⟩ = some (.int .u64 hw) := (hf9.cellQ H7d.out.2.1.hq j).trans g1d
          have hrst := And.intro (Rs.ft H7d.out.2.1 hf9) (And.intro (KB.ft H7d.out.2.2.1 hf9) (PkB.ft H7d.out.2.2.2 hf9))
          have H9 := Lib.hid (And.intro hp9 hrst)
          have HX := Lib.hid c9
          have HCs := Lib.hid hc9
          clear hp9 hf9 hrst c9 hc9
          go_wp2_with fail
          refine hK.out _ _ ⟨H9.out.2.2.2, HX.out⟩ (fun hHeld => ?_)
          clear hK K
          try simp only [Act.put, List.getElem_toArray, List.getElem_cons_succ, List.getElem_cons_zero, List.setIfInBounds_toArray, List.set_cons_zero, List.set_cons_succ]
          refine wpAnyH_take (i := 8) (oi := _) (v := ?_) rfl (by kernel_rfl) (by kernel_rfl) (by kernel_rfl) (fun _ _ _ h => h) (Or.inl ⟨by rfl, ?_⟩) (by assumption) ?_
          rotate_left
          · (intro W hSw; obtain ⟨⟨p0, p1, p2, p3, p4, pf⟩, g1⟩ := And.intro (PkB.cells hSw.1) hSw.2; go_simp; try with_reducible rfl)
          try simp only [Act.put, List.getElem_toArray, List.getElem_cons_succ, List.getElem_cons_zero, List.setIfInBounds_toArray, List.set_cons_zero, List.set_cons_succ]
          refine wpAnyH_take (i := 9) (oi := _) (v := ?_) rfl (by kernel_rfl) (by kernel_rfl) (by kernel_rfl) (fun _ _ _ h => h) (Or.inl ⟨by rfl, ?_⟩) (by assumption) ?_
          rotate_left
          · (intro W hSw; obtain ⟨⟨p0, p1, p2, p3, p4, pf⟩, g1⟩ := And.intro (PkB.cells hSw.1) hSw.2; go_simp; try with_reducible rfl)
          try simp only [Act.put, List.getElem_toArray, List.getElem_cons_succ, List.getElem_cons_zero, List.setIfInBounds_toArray, List.set_cons_zero, List.set_cons_succ]
          refine wpAnyH_take (i := 10) (oi := _) (v := ?_) rfl (by kernel_rfl) (by kernel_rfl) (by kernel_rfl) (fun _ _ _ h => h) (Or.inl ⟨by rfl, ?_⟩) (by assumption) ?_
          rotate_left
          · (intro W hSw; obtain ⟨⟨p0, p1, p2, p3, p4, pf⟩, g1⟩ := And.intro (PkB.cells hSw.1) hSw.2; go_simp; try with_reducible rfl)
          try simp only [Act.put, List.getElem_toArray, List.getElem_cons_succ, List.getElem_cons_zero, List.setIfInBounds_toArray, List.set_cons_zero, List.set_cons_succ]
          refine wpAnyH_take (i := 11) (oi := _) (v := ?_) rfl (by kernel_rfl) (by kernel_rfl) (by kernel_rfl) (fun _ _ _ h => h) (Or.inl ⟨by rfl, ?_⟩) (by assumption) ?_
          rotate_left
          · (intro W hSw; obtain ⟨⟨p0, p1, p2, p3, p4, pf⟩, g1⟩ := And.intro (PkB.cells hSw.1) hSw.2; go_simp; try with_reducible rfl)
          try simp only [Act.put, List.getElem_toArray, List.getElem_cons_succ, List.getElem_cons_zero, List.setIfInBounds_toArray, List.set_cons_zero, List.set_cons_succ]
          refine wpAnyH_take (i := 12) (oi := _) (v := ?_) rfl (by kernel_rfl) (by kernel_rfl) (by kernel_rfl) (fun _ _ _ h => h) (Or.inl ⟨by rfl, ?_⟩) (by assumption) ?_
          rotate_left
          · (intro W hSw; obtain ⟨⟨p0, p1, p2, p3, p4, pf⟩, g1⟩ := And.intro (PkB.cells hSw.1) hSw.2; go_simp; try with_reducible rfl)
          try simp only [Act.put, List.getElem_toArray, List.getElem_cons_succ, List.getElem_cons_zero, List.setIfInBounds_toArray, List.set_cons_zero, List.set_cons_succ]
          refine wpAnyH_done (by kernel_rfl) ?_ _
          clear g1d q0 q0' H7 H7d
          rcases HCs.out with ⟨rfl, hgot, n1, n2, n3⟩ | ⟨hcc, hgot⟩
          · have HG := Lib.hid hgot
            have HN := Lib.hid (And.intro n1 (And.intro n2 n3))
            clear hgot n1 n2 n3 HCs
            have hin := in_any A1 m1 c1 got f s w9 (own_rd H9.out.2.1.r1) (by have := H9.out.2.1.r1.2; have := HLn.out; omega)
            rw [decide_eq_false HN.out.1] at hin
            have HI := Lib.hid hin
            clear hin
            obtain ⟨k0, k1, k2⟩ := kb_cells H9.out.2.2.1
            go_wp2_with fail
            refine HI.out.mono ?_
            rintro _ w10 ⟨rfl, bn⟩
            have H10 := Lib.hid (b4_below H9.out bn)
            clear HI bn k0 k1 k2 H9
            have hin := in_any A3 m3 c3 ex f s w10 (own_rd H10.out.2.1.r3) (by have := H10.out.2.1.r3.2; have := HLn.out; omega)
            rw [decide_eq_false HN.out.2.1] at hin
            have HI := Lib.hid hin
            clear hin
            obtain ⟨k0, k1, k2⟩ := kb_cells H10.out.2.2.1
            go_wp2_with fail
            refine HI.out.mono ?_
            rintro _ w11 ⟨rfl, bn⟩
            have H11 := Lib.hid (b4_below H10.out bn)
            clear HI bn k0 k1 k2 H10
            cases o
            · obtain ⟨k0, k1, k2⟩ := kb_cells H11.out.2.2.1
              go_upto_region 33 with fail
              clear k0 k1 k2
              have bl := (Below.refl w11.heap.size w11).alloc (Nat.le_refl _) (.cells #[.int .i64 1, .int .i64 f, .int .u64 s] TKy)
              have HA := Lib.hid (b4_below H11.out bl)
              have hmm := HA.out.2.1.r1.2
              have hrow := HA.out.2.1.r1.1
              rw [← hmm] at hrow
              have HRW := Lib.hid hrow
              have hbd : m1 ≤ 1000 := by have := HLn.out; omega
              have HBd := Lib.hid hbd
              have HC := Lib.hid (news_ky w11 f s)
              have HO1 := Lib.hid (ones_ky f s)
              have HSZ := Lib.hid HA.out.1.bel.size
              obtain ⟨i0, hinf, hz0, hz1, hz2⟩ := info_partsK infoKy
              obtain ⟨k0, k1, k2⟩ := kb_cells H11.out.2.2.1
              clear bl hmm hrow hbd H11
              go_wp2_with (at_builtin; refine wpList_append_lies _ rfl _ _ 31 rfl W.heap.size TKy i0 (.agg #[.int .i64 0, .int .i64 0, .int .u64 0]) 3 24 Tryd.underlying31 hinf hz0 hz1 hz2 rfl (by decide) _ _ _ rfl HRW.out ⟨w11.heap.size, 0, none⟩ 1 1 (#[.int .i64 1, .int .i64 f, .int .u64 s] : Array Value).toList rfl rfl HC.out HO1.out (by decide) (by have := HBd.out; unfold maxLen; omega) (by have := HBd.out; omega) HSZ.out _ rfl ?_)
              intro g cap1 w20 hown hgr hat _
              have hat' : (Value.slice A1 m1 c1).ownBlock = some g ∨ g = (w11.alloc (.cells #[.int .i64 1, .int .i64 f, .int .u64 s] TKy)).heap.size := hat.imp id fun e => e.trans (heap_alloc_size w11 _).symm
              have hpg := HA.out.1.grow HA.out.2.1.r1 hgr HT.out
              have hrg := (HA.out.2.1.push (f := f) (s := s) hown hgr hat')
              have hkg := (HA.out.2.2.1.push (n := m1 + 1) (cap := cap1) hgr hat')
              have hpk : PkB w20 P ⟨1, f, s, t, d⟩ := (hgr.block P (lt_of HA.out.2.2.2) fun e => by
                obtain ⟨cur, hc⟩ := own_cell HA.out.2.1.r1 P e.symm
                have hp := HA.out.2.2.2
                unfold PkB at hp
                rw [hp] at hc; injection hc with hc; injection hc with _ hc; exact absurd hc (by decide)).trans HA.out.2.2.2
              have H20 := Lib.hid (And.intro hpg (And.intro hrg (And.intro hkg hpk)))
              clear hown hgr hat hat' hpg hrg hkg hpk HA HRW HBd HC HO1 HSZ k0 k1 k2 hinf hz0 hz1 hz2
              obtain rfl := HG.out
              obtain ⟨hx, g1⟩ := H20.out.2.1.hq.at j HJ.out.1
              have cf := fun k => H20.out.2.1.hq.fz k
              obtain ⟨y, hy⟩ : ∃ y, IntKind.u64.wrap (hx + 1) = y := ⟨_, rfl⟩
              go_wp2
              go_roundw
              case rel =>
                obtain ⟨z0, z1, hz⟩ := HPb.out _ _ _ _ _ _ (H20.out.1.setQ H20.out.2.1.hq H20.out.2.1.lo HT.out j _)
                exact ⟨i + 1, _, _, _, A2, m2, c2, A3, m3, c3, _, gone, ex, z0, z1, rfl, rfl, rfl, by go_num, by omega, Lib.hid ⟨hz, (H20.out.2.1.setQ j HJ.out.1 _), by have := HLn.out; (try rw [List.length_append, List.length_singleton]); omega, by have := HLn.out; (try rw [List.length_append, List.length_singleton]); omega, by have := HLn.out; (try rw [List.length_append, List.length_singleton]); omega⟩⟩
              case measure => simp [intOf]; omega
            · by_cases hs2 : 1 < s
              · have hs3 : decide (1 < s) = true := decide_eq_true hs2
                obtain ⟨s2, hs4⟩ : ∃ s2, s2 = s - 1 := ⟨_, rfl⟩
                have hs5 : IntKind.u64.wrap (s - 1) = s2 := by rw [hs4]; simp [IntKind.wrap, IntKind.bits, IntKind.signed]; omega
                have hmem : (f, s2) ∈ got := by rw [hs4]; exact HN.out.2.2 rfl hs2
                have HMe := Lib.hid hmem
                clear hmem hs4
                have hin := in_any A1 m1 c1 got f s2 w11 (own_rd H11.out.2.1.r1) (by have := H11.out.2.1.r1.2; have := HLn.out; omega)
                rw [decide_eq_true HMe.out] at hin
                have HI := Lib.hid hin
                clear hin
                obtain ⟨k0, k1, k2⟩ := kb_cells H11.out.2.2.1
                go_wp2_with fail
                refine HI.out.mono ?_
                rintro _ w12 ⟨rfl, bn⟩
                have H12 := Lib.hid (b4_below H11.out bn)
                clear HI bn k0 k1 k2 H11
                go_upto_region 33 with fail
                have bl := (Below.refl w12.heap.size w12).alloc (Nat.le_refl _) (.cells #[.int .i64 1, .int .i64 f, .int .u64 s] TKy)
                have HA := Lib.hid (b4_below H12.out bl)
                have hmm := HA.out.2.1.r1.2
                have hrow := HA.out.2.1.r1.1
                rw [← hmm] at hrow
                have HRW := Lib.hid hrow
                have hbd : m1 ≤ 1000 := by have := HLn.out; omega
                have HBd := Lib.hid hbd
                have HC := Lib.hid (news_ky w12 f s)
                have HO1 := Lib.hid (ones_ky f s)
                have HSZ := Lib.hid HA.out.1.bel.size
                obtain ⟨i0, hinf, hz0, hz1, hz2⟩ := info_partsK infoKy
                obtain ⟨k0, k1, k2⟩ := kb_cells H12.out.2.2.1
                clear bl hmm hrow hbd H12
                go_wp2_with (at_builtin; refine wpList_append_lies _ rfl _ _ 31 rfl W.heap.size TKy i0 (.agg #[.int .i64 0, .int .i64 0, .int .u64 0]) 3 24 Tryd.underlying31 hinf hz0 hz1 hz2 rfl (by decide) _ _ _ rfl HRW.out ⟨w12.heap.size, 0, none⟩ 1 1 (#[.int .i64 1, .int .i64 f, .int .u64 s] : Array Value).toList rfl rfl HC.out HO1.out (by decide) (by have := HBd.out; unfold maxLen; omega) (by have := HBd.out; omega) HSZ.out _ rfl ?_)
                intro g cap1 w20 hown hgr hat _
                have hat' : (Value.slice A1 m1 c1).ownBlock = some g ∨ g = (w12.alloc (.cells #[.int .i64 1, .int .i64 f, .int .u64 s] TKy)).heap.size := hat.imp id fun e => e.trans (heap_alloc_size w12 _).symm
                have hpg := HA.out.1.grow HA.out.2.1.r1 hgr HT.out
                have hrg := (HA.out.2.1.push (f := f) (s := s) hown hgr hat')
                have hkg := (HA.out.2.2.1.push (n := m1 + 1) (cap := cap1) hgr hat')
                have hpk : PkB w20 P ⟨1, f, s, t, d⟩ := (hgr.block P (lt_of HA.out.2.2.2) fun e => by
                  obtain ⟨cur, hc⟩ := own_cell HA.out.2.1.r1 P e.symm
                  have hp := HA.out.2.2.2
                  unfold PkB at hp
                  rw [hp] at hc; injection hc with hc; injection hc with _ hc; exact absurd hc (by decide)).trans HA.out.2.2.2
                have H20 := Lib.hid (And.intro hpg (And.intro hrg (And.intro hkg hpk)))
                clear hown hgr hat hat' hpg hrg hkg hpk HA HRW HBd HC HO1 HSZ k0 k1 k2 hinf hz0 hz1 hz2
                obtain rfl := HG.out
                obtain ⟨hx, g1⟩ := H20.out.2.1.hq.at j HJ.out.1
                have cf := fun k => H20.out.2.1.hq.fz k
                obtain ⟨y, hy⟩ : ∃ y, IntKind.u64.wrap (hx + 1) = y := ⟨_, rfl⟩
                go_wp2
                go_roundw
                case rel =>
                  obtain ⟨z0, z1, hz⟩ := HPb.out _ _ _ _ _ _ (H20.out.1.setQ H20.out.2.1.hq H20.out.2.1.lo HT.out j _)
                  exact ⟨i + 1, _, _, _, A2, m2, c2, A3, m3, c3, _, gone, ex, z0, z1, rfl, rfl, rfl, by go_num, by omega, Lib.hid ⟨hz, (H20.out.2.1.setQ j HJ.out.1 _), by have := HLn.out; (try rw [List.length_append, List.length_singleton]); omega, by have := HLn.out; (try rw [List.length_append, List.length_singleton]); omega, by have := HLn.out; (try rw [List.length_append, List.length_singleton]); omega⟩⟩
                case measure => simp [intOf]; omega
              · have hs3 : decide (1 < s) = false := decide_eq_false hs2
                obtain ⟨k0, k1, k2⟩ := kb_cells H11.out.2.2.1
                go_upto_region 33 with fail
                clear k0 k1 k2
                have bl := (Below.refl w11.heap.size w11).alloc (Nat.le_refl _) (.cells #[.int .i64 1, .int .i64 f, .int .u64 s] TKy)
                have HA := Lib.hid (b4_below H11.out bl)
                have hmm := HA.out.2.1.r1.2
                have hrow := HA.out.2.1.r1.1
                rw [← hmm] at hrow
                have HRW := Lib.hid hrow
                have hbd : m1 ≤ 1000 := by have := HLn.out; omega
                have HBd := Lib.hid hbd
                have HC := Lib.hid (news_ky w11 f s)
                have HO1 := Lib.hid (ones_ky f s)
                have HSZ := Lib.hid HA.out.1.bel.size
                obtain ⟨i0, hinf, hz0, hz1, hz2⟩ := info_partsK infoKy
                obtain ⟨k0, k1, k2⟩ := kb_cells H11.out.2.2.1
                clear bl hmm hrow hbd H11
                go_wp2_with (at_builtin; refine wpList_append_lies _ rfl _ _ 31 rfl W.heap.size TKy i0 (.agg #[.int .i64 0, .int .i64 0, .int .u64 0]) 3 24 Tryd.underlying31 hinf hz0 hz1 hz2 rfl (by decide) _ _ _ rfl HRW.out ⟨w11.heap.size, 0, none⟩ 1 1 (#[.int .i64 1, .int .i64 f, .int .u64 s] : Array Value).toList rfl rfl HC.out HO1.out (by decide) (by have := HBd.out; unfold maxLen; omega) (by have := HBd.out; omega) HSZ.out _ rfl ?_)
                intro g cap1 w20 hown hgr hat _
                have hat' : (Value.slice A1 m1 c1).ownBlock = some g ∨ g = (w11.alloc (.cells #[.int .i64 1, .int .i64 f, .int .u64 s] TKy)).heap.size := hat.imp id fun e => e.trans (heap_alloc_size w11 _).symm
                have hpg := HA.out.1.grow HA.out.2.1.r1 hgr HT.out
                have hrg := (HA.out.2.1.push (f := f) (s := s) hown hgr hat')
                have hkg := (HA.out.2.2.1.push (n := m1 + 1) (cap := cap1) hgr hat')
                have hpk : PkB w20 P ⟨1, f, s, t, d⟩ := (hgr.block P (lt_of HA.out.2.2.2) fun e => by
                  obtain ⟨cur, hc⟩ := own_cell HA.out.2.1.r1 P e.symm
                  have hp := HA.out.2.2.2
                  unfold PkB at hp
                  rw [hp] at hc; injection hc with hc; injection hc with _ hc; exact absurd hc (by decide)).trans HA.out.2.2.2
                have H20 := Lib.hid (And.intro hpg (And.intro hrg (And.intro hkg hpk)))
                clear hown hgr hat hat' hpg hrg hkg hpk HA HRW HBd HC HO1 HSZ k0 k1 k2 hinf hz0 hz1 hz2
                obtain rfl := HG.out
                obtain ⟨hx, g1⟩ := H20.out.2.1.hq.at j HJ.out.1
                have cf := fun k => H20.out.2.1.hq.fz k
                obtain ⟨y, hy⟩ : ∃ y, IntKind.u64.wrap (hx + 1) = y := ⟨_, rfl⟩
                go_wp2
                go_roundw
                case rel =>
                  obtain ⟨z0, z1, hz⟩ := HPb.out _ _ _ _ _ _ (H20.out.1.setQ H20.out.2.1.hq H20.out.2.1.lo HT.out j _)
                  exact ⟨i + 1, _, _, _, A2, m2, c2, A3, m3, c3, _, gone, ex, z0, z1, rfl, rfl, rfl, by go_num, by omega, Lib.hid ⟨hz, (H20.out.2.1.setQ j HJ.out.1 _), by have := HLn.out; (try rw [List.length_append, List.length_singleton]); omega, by have := HLn.out; (try rw [List.length_append, List.length_singleton]); omega, by have := HLn.out; (try rw [List.length_append, List.length_singleton]); omega⟩⟩
                case measure => simp [intOf]; omega
          · have e1 : (cc == 0) = false := by simpa using hcc
            clear HCs hcc
            obtain rfl := hgot
            obtain ⟨hx, g1⟩ := H9.out.2.1.hq.at j HJ.out.1
            have cf := fun k => H9.out.2.1.hq.fz k
            obtain ⟨y, hy⟩ : ∃ y, IntKind.u64.wrap (hx + 1) = y := ⟨_, rfl⟩
            go_wp2
            go_roundw
            case rel =>
              obtain ⟨z0, z1, hz⟩ := HPb.out _ _ _ _ _ _ (H9.out.1.setQ H9.out.2.1.hq H9.out.2.1.lo HT.out j _)
              exact ⟨i + 1, A1, m1, c1, A2, m2, c2, A3, m3, c3, _, gone, ex, z0, z1, rfl, rfl, rfl, by go_num, by omega, Lib.hid ⟨hz, (H9.out.2.1.setQ j HJ.out.1 _), by have := HLn.out; (try rw [List.length_append, List.length_singleton]); omega, by have := HLn.out; (try rw [List.length_append, List.length_singleton]); omega, by have := HLn.out; (try rw [List.length_append, List.length_singleton]); omega⟩⟩
            case measure => simp [intOf]; omega
        have z1 : (kd.tmod 4 == 1) = false := by simp [hk1]
        have y1 : (kd % 4 == 1) = false := by rw [← Int.tmod_eq_emod_of_nonneg hkd0]; exact z1
        clear hk1
        by_cases hk2 : kd.tmod 4 = 2
        · have z2 : (kd.tmod 4 == 2) = true := by simp [hk2]
          have y2 : (kd % 4 == 2) = true := by rw [← Int.tmod_eq_emod_of_nonneg hkd0]; exact z2
          have HK := Lib.hid hk2
          clear hk2
          have q8 : w8.cell? ⟨b9, off + i * 9 + 8, none⟩ = some (.string a) := HAT.out _ H7.out.1.bel 8 (by decide)
          have q8d : w8.drew.cell? ⟨b9, off + i * 9 + 8, none⟩ = some (.string a) := q8
          clear q8
          go_upto_region 36 with fail
          refine wp_region_held_drew (S := (fun V => PkB V P ⟨1, f, s, t, d⟩ ∧ V.cell? ⟨b9, off + i * 9 + 8, none⟩ = some (.string a))) (by kernel_rfl) ⟨H7d.out.2.2.2, q8d⟩ (fun hHeld => ?_)
          refine wpAnyH_take (i := 0) (oi := _) (v := ?_) rfl (by kernel_rfl) (by kernel_rfl) (by kernel_rfl) (fun _ _ _ h => h) (Or.inl ⟨by rfl, ?_⟩) (by assumption) ?_
          rotate_left
          · (intro W hSw; obtain ⟨⟨p0, p1, p2, p3, p4, pf⟩, g1⟩ := And.intro (PkB.cells hSw.1) hSw.2; go_simp; try with_reducible rfl)
          try simp only [Act.put, List.getElem_toArray, List.getElem_cons_zero, List.setIfInBounds_toArray, List.set_cons_zero, List.set_cons_succ]
          refine wpAnyH_take (i := 1) (oi := _) (v := ?_) rfl (by kernel_rfl) (by kernel_rfl) (by kernel_rfl) (fun _ _ _ h => h) (Or.inl ⟨by rfl, ?_⟩) (by assumption) ?_
          rotate_left
          · (intro W hSw; obtain ⟨⟨p0, p1, p2, p3, p4, pf⟩, g1⟩ := And.intro (PkB.cells hSw.1) hSw.2; go_simp; try with_reducible rfl)
          try simp only [Act.put, List.getElem_toArray, List.getElem_cons_succ, List.getElem_cons_zero, List.setIfInBounds_toArray, List.set_cons_zero, List.set_cons_succ]
          refine wpAnyH_take (i := 2) (oi := _) (v := ?_) rfl (by kernel_rfl) (by kernel_rfl) (by kernel_rfl) (fun _ _ _ h => h) (Or.inl ⟨by rfl, ?_⟩) (by assumption) ?_
          rotate_left
          · (intro W hSw; obtain ⟨⟨p0, p1, p2, p3, p4, pf⟩, g1⟩ := And.intro (PkB.cells hSw.1) hSw.2; go_simp; try with_reducible rfl)
          try simp only [Act.put, List.getElem_toArray, List.getElem_cons_succ, List.getElem_cons_zero, List.setIfInBounds_toArray, List.set_cons_zero, List.set_cons_succ]
          refine wpAnyH_take (i := 3) (oi := _) (v := ?_) rfl (by kernel_rfl) (by kernel_rfl) (by kernel_rfl) (fun _ _ _ h => h) (Or.inl ⟨by rfl, ?_⟩) (by assumption) ?_
          rotate_left
          · (intro W hSw; obtain ⟨⟨p0, p1, p2, p3, p4, pf⟩, g1⟩ := And.intro (PkB.cells hSw.1) hSw.2; go_simp; try with_reducible rfl)
          try simp only [Act.put, List.getElem_toArray, List.getElem_cons_succ, List.getElem_cons_zero, List.setIfInBounds_toArray, List.set_cons_zero, List.set_cons_succ]
          refine wpAnyH_take (i := 4) (oi := _) (v := ?_) rfl (by kernel_rfl) (by kernel_rfl) (by kernel_rfl) (fun _ _ _ h => h) (Or.inl ⟨by rfl, ?_⟩) (by assumption) ?_
          rotate_left
          · (intro W hSw; obtain ⟨⟨p0, p1, p2, p3, p4, pf⟩, g1⟩ := And.intro (PkB.cells hSw.1) hSw.2; go_simp; try with_reducible rfl)
          try simp only [Act.put, List.getElem_toArray, List.getElem_cons_succ, List.getElem_cons_zero, List.setIfInBounds_toArray, List.set_cons_zero, List.set_cons_succ]
          refine wpAnyH_take (i := 5) (oi := _) (v := ?_) rfl (by kernel_rfl) (by kernel_rfl) (by kernel_rfl) (fun _ _ _ h => h) (Or.inl ⟨by rfl, ?_⟩) (by assumption) ?_
          rotate_left
          · (intro W hSw; obtain ⟨⟨p0, p1, p2, p3, p4, pf⟩, g1⟩ := And.intro (PkB.cells hSw.1) hSw.2; go_simp; try with_reducible rfl)
          try simp only [Act.put, List.getElem_toArray, List.getElem_cons_succ, List.getElem_cons_zero, List.setIfInBounds_toArray, List.set_cons_zero, List.set_cons_succ]
          refine wpAnyH_take (i := 6) (oi := _) (v := ?_) rfl (by kernel_rfl) (by kernel_rfl) (by kernel_rfl) (fun _ _ _ h => h) (Or.inl ⟨by rfl, ?_⟩) (by assumption) ?_
          rotate_left
          · (intro W hSw; obtain ⟨⟨p0, p1, p2, p3, p4, pf⟩, g1⟩ := And.intro (PkB.cells hSw.1) hSw.2; go_simp; try with_reducible rfl)
          try simp only [Act.put, List.getElem_toArray, List.getElem_cons_succ, List.getElem_cons_zero, List.setIfInBounds_toArray, List.set_cons_zero, List.set_cons_succ]
          refine wpAnyH_take (i := 7) (oi := _) (v := ?_) rfl (by kernel_rfl) (by kernel_rfl) (by kernel_rfl) (fun _ _ _ h => h) (Or.inl ⟨by rfl, ?_⟩) (by assumption) ?_
          rotate_left
          · (intro W hSw; obtain ⟨⟨p0, p1, p2, p3, p4, pf⟩, g1⟩ := And.intro (PkB.cells hSw.1) hSw.2; go_simp; try with_reducible rfl)
          try simp only [Act.put, List.getElem_toArray, List.getElem_cons_succ, List.getElem_cons_zero, List.setIfInBounds_toArray, List.set_cons_zero, List.set_cons_succ]
          refine wpAnyH_ready (rs := [8]) (by kernel_rfl) (by simp) ?_
          refine AllReadyH.cons rfl (fun K hK => ?_) AllReadyH.nil
          simp only [List.getElem_toArray, List.getElem_cons_succ, List.getElem_cons_zero]
          rw [if_pos (by rfl)]
          go_simp
          refine (H7d.out.1.ack ⟨1, f, s, t, d⟩ HOK.out.1 a HOK.out.2).mono ?_
          rintro _ w9 ⟨cc, rfl, ⟨s9, gone9, hp9, hc9⟩, hf9⟩
          have c9 : w9.cell? ⟨b9, off + i * 9 + 8, none⟩ = some (.string a) := HAT.out _ hp9.bel 8 (by decide)
          have hrst := And.intro (Rs.ft H7d.out.2.1 hf9) (And.intro (KB.ft H7d.out.2.2.1 hf9) (PkB.ft H7d.out.2.2.2 hf9))
          have H9 := Lib.hid (And.intro hp9 hrst)
          have HX := Lib.hid c9
          have HCs := Lib.hid hc9
          clear hp9 hf9 hrst c9 hc9
          go_wp2_with fail
          refine hK.out _ _ ⟨H9.out.2.2.2, HX.out⟩ (fun hHeld => ?_)
          clear hK K
          try simp only [Act.put, List.getElem_toArray, List.getElem_cons_succ, List.getElem_cons_zero, List.setIfInBounds_toArray, List.set_cons_zero, List.set_cons_succ]
          refine wpAnyH_take (i := 9) (oi := _) (v := ?_) rfl (by kernel_rfl) (by kernel_rfl) (by kernel_rfl) (fun _ _ _ h => h) (Or.inl ⟨by rfl, ?_⟩) (by assumption) ?_
          rotate_left
          · (intro W hSw; obtain ⟨⟨p0, p1, p2, p3, p4, pf⟩, g1⟩ := And.intro (PkB.cells hSw.1) hSw.2; go_simp; try with_reducible rfl)
          try simp only [Act.put, List.getElem_toArray, List.getElem_cons_succ, List.getElem_cons_zero, List.setIfInBounds_toArray, List.set_cons_zero, List.set_cons_succ]
          refine wpAnyH_done (by kernel_rfl) ?_ _
          clear q8d q0 q0' H7 H7d
          rcases HCs.out with ⟨rfl, hgot, n1, n2⟩ | ⟨hcc, hgot⟩
          · have HG := Lib.hid hgot
            have HN := Lib.hid (And.intro n1 n2)
            clear hgot n1 n2 HCs
            have hin := in_any A2 m2 c2 gone f s w9 (own_rd H9.out.2.1.r2) (by have := H9.out.2.1.r2.2; have := HLn.out; omega)
            rw [decide_eq_false HN.out.1] at hin
            have HI := Lib.hid hin
            clear hin
            obtain ⟨k0, k1, k2⟩ := kb_cells H9.out.2.2.1
            go_wp2_with fail
            refine HI.out.mono ?_
            rintro _ w10 ⟨rfl, bn⟩
            have H10 := Lib.hid (b4_below H9.out bn)
            clear HI bn k0 k1 k2 H9
            have hin := in_any A1 m1 c1 got f s w10 (own_rd H10.out.2.1.r1) (by have := H10.out.2.1.r1.2; have := HLn.out; omega)
            rw [decide_eq_true HN.out.2] at hin
            have HI := Lib.hid hin
            clear hin
            obtain ⟨k0, k1, k2⟩ := kb_cells H10.out.2.2.1
            go_wp2_with fail
            refine HI.out.mono ?_
            rintro _ w11 ⟨rfl, bn⟩
            have H11 := Lib.hid (b4_below H10.out bn)
            clear HI bn k0 k1 k2 H10
            go_upto_region 39 with fail
            have bl := (Below.refl w11.heap.size w11).alloc (Nat.le_refl _) (.cells #[.int .i64 1, .int .i64 f, .int .u64 s] TKy)
            have HA := Lib.hid (b4_below H11.out bl)
            have hmm := HA.out.2.1.r2.2
            have hrow := HA.out.2.1.r2.1
            rw [← hmm] at hrow
            have HRW := Lib.hid hrow
            have hbd : m2 ≤ 1000 := by have := HLn.out; omega
            have HBd := Lib.hid hbd
            have HC := Lib.hid (news_ky w11 f s)
            have HO1 := Lib.hid (ones_ky f s)
            have HSZ := Lib.hid HA.out.1.bel.size
            obtain ⟨i0, hinf, hz0, hz1, hz2⟩ := info_partsK infoKy
            obtain ⟨k0, k1, k2⟩ := kb_cells H11.out.2.2.1
            clear bl hmm hrow hbd H11
            go_wp2_with (at_builtin; refine wpList_append_lies _ rfl _ _ 31 rfl W.heap.size TKy i0 (.agg #[.int .i64 0, .int .i64 0, .int .u64 0]) 3 24 Tryd.underlying31 hinf hz0 hz1 hz2 rfl (by decide) _ _ _ rfl HRW.out ⟨w11.heap.size, 0, none⟩ 1 1 (#[.int .i64 1, .int .i64 f, .int .u64 s] : Array Value).toList rfl rfl HC.out HO1.out (by decide) (by have := HBd.out; unfold maxLen; omega) (by have := HBd.out; omega) HSZ.out _ rfl ?_)
            intro g cap1 w20 hown hgr hat _
            have hat' : (Value.slice A2 m2 c2).ownBlock = some g ∨ g = (w11.alloc (.cells #[.int .i64 1, .int .i64 f, .int .u64 s] TKy)).heap.size := hat.imp id fun e => e.trans (heap_alloc_size w11 _).symm
            have hpg := HA.out.1.grow HA.out.2.1.r2 hgr HT.out
            have hrg := (HA.out.2.1.rot.push (f := f) (s := s) hown hgr hat').rot.rot
            have hkg := (HA.out.2.2.1.rot.push (n := m2 + 1) (cap := cap1) hgr hat').rot.rot
            have hpk : PkB w20 P ⟨1, f, s, t, d⟩ := (hgr.block P (lt_of HA.out.2.2.2) fun e => by
              obtain ⟨cur, hc⟩ := own_cell HA.out.2.1.r2 P e.symm
              have hp := HA.out.2.2.2
              unfold PkB at hp
              rw [hp] at hc; injection hc with hc; injection hc with _ hc; exact absurd hc (by decide)).trans HA.out.2.2.2
            have H20 := Lib.hid (And.intro hpg (And.intro hrg (And.intro hkg hpk)))
            clear hown hgr hat hat' hpg hrg hkg hpk HA HRW HBd HC HO1 HSZ k0 k1 k2 hinf hz0 hz1 hz2
            obtain rfl := HG.out
            go_wp2
            go_roundw
            case rel =>
              obtain ⟨z0, z1, hz⟩ := HPb.out _ _ _ _ _ _ H20.out.1
              exact ⟨i + 1, A1, m1, c1, _, _, _, A3, m3, c3, got, _, ex, z0, z1, rfl, rfl, rfl, by go_num, by omega, Lib.hid ⟨hz, H20.out.2.1, by have := HLn.out; (try rw [List.length_append, List.length_singleton]); omega, by have := HLn.out; (try rw [List.length_append, List.length_singleton]); omega, by have := HLn.out; (try rw [List.length_append, List.length_singleton]); omega⟩⟩
            case measure => simp [intOf]; omega
          · have e1 : (cc == 0) = false := by simpa using hcc
            clear HCs hcc
            obtain rfl := hgot
            go_wp2
            go_roundw
            case rel =>
              obtain ⟨z0, z1, hz⟩ := HPb.out _ _ _ _ _ _ H9.out.1
              exact ⟨i + 1, A1, m1, c1, A2, m2, c2, A3, m3, c3, got, _, ex, z0, z1, rfl, rfl, rfl, by go_num, by omega, Lib.hid ⟨hz, H9.out.2.1, by have := HLn.out; (try rw [List.length_append, List.length_singleton]); omega, by have := HLn.out; (try rw [List.length_append, List.length_singleton]); omega, by have := HLn.out; (try rw [List.length_append, List.length_singleton]); omega⟩⟩
            case measure => simp [intOf]; omega
        have z2 : (kd.tmod 4 == 2) = false := by simp [hk2]
        have y2 : (kd % 4 == 2) = false := by rw [← Int.tmod_eq_emod_of_nonneg hkd0]; exact z2
        clear hk2
        obtain ⟨hw, g1⟩ := H7.out.2.1.hq.at j' (by have := HJ.out.2; omega)
        have g1d : w8.drew.cell? ⟨Q, j', none⟩ = some (.int .u64 hw) := g1
        clear g1
        go_upto_region 21 with fail
        refine wp_region_held_drew (S := (fun V => PkB V P ⟨1, f, s, t, d⟩ ∧ V.cell? ⟨Q, j', none⟩ = some (.int .u64 hw))) (by kernel_rfl) ⟨H7d.out.2.2.2, g1d⟩ (fun hHeld => ?_)
        refine wpAnyH_take (i := 0) (oi := _) (v := ?_) rfl (by kernel_rfl) (by kernel_rfl) (by kernel_rfl) (fun _ _ _ h => h) (Or.inl ⟨by rfl, ?_⟩) (by assumption) ?_
        rotate_left
        · (intro W hSw; obtain ⟨⟨p0, p1, p2, p3, p4, pf⟩, g1⟩ := And.intro (PkB.cells hSw.1) hSw.2; go_simp; try with_reducible rfl)
        try simp only [Act.put, List.getElem_toArray, List.getElem_cons_zero, List.setIfInBounds_toArray, List.set_cons_zero, List.set_cons_succ]
        refine wpAnyH_take (i := 1) (oi := _) (v := ?_) rfl (by kernel_rfl) (by kernel_rfl) (by kernel_rfl) (fun _ _ _ h => h) (Or.inl ⟨by rfl, ?_⟩) (by assumption) ?_
        rotate_left
        · (intro W hSw; obtain ⟨⟨p0, p1, p2, p3, p4, pf⟩, g1⟩ := And.intro (PkB.cells hSw.1) hSw.2; go_simp; try with_reducible rfl)
        try simp only [Act.put, List.getElem_toArray, List.getElem_cons_succ, List.getElem_cons_zero, List.setIfInBounds_toArray, List.set_cons_zero, List.set_cons_succ]
        refine wpAnyH_take (i := 2) (oi := _) (v := ?_) rfl (by kernel_rfl) (by kernel_rfl) (by kernel_rfl) (fun _ _ _ h => h) (Or.inl ⟨by rfl, ?_⟩) (by assumption) ?_
        rotate_left
        · (intro W hSw; obtain ⟨⟨p0, p1, p2, p3, p4, pf⟩, g1⟩ := And.intro (PkB.cells hSw.1) hSw.2; go_simp; try with_reducible rfl)
        try simp only [Act.put, List.getElem_toArray, List.getElem_cons_succ, List.getElem_cons_zero, List.setIfInBounds_toArray, List.set_cons_zero, List.set_cons_succ]
        refine wpAnyH_take (i := 3) (oi := _) (v := ?_) rfl (by kernel_rfl) (by kernel_rfl) (by kernel_rfl) (fun _ _ _ h => h) (Or.inl ⟨by rfl, ?_⟩) (by assumption) ?_
        rotate_left
        · (intro W hSw; obtain ⟨⟨p0, p1, p2, p3, p4, pf⟩, g1⟩ := And.intro (PkB.cells hSw.1) hSw.2; go_simp; try with_reducible rfl)
        try simp only [Act.put, List.getElem_toArray, List.getElem_cons_succ, List.getElem_cons_zero, List.setIfInBounds_toArray, List.set_cons_zero, List.set_cons_succ]
        refine wpAnyH_take (i := 4) (oi := _) (v := ?_) rfl (by kernel_rfl) (by kernel_rfl) (by kernel_rfl) (fun _ _ _ h => h) (Or.inl ⟨by rfl, ?_⟩) (by assumption) ?_
        rotate_left
        · (intro W hSw; obtain ⟨⟨p0, p1, p2, p3, p4, pf⟩, g1⟩ := And.intro (PkB.cells hSw.1) hSw.2; go_simp; try with_reducible rfl)
        try simp only [Act.put, List.getElem_toArray, List.getElem_cons_succ, List.getElem_cons_zero, List.setIfInBounds_toArray, List.set_cons_zero, List.set_cons_succ]
        refine wpAnyH_take (i := 5) (oi := _) (v := ?_) rfl (by kernel_rfl) (by kernel_rfl) (by kernel_rfl) (fun _ _ _ h => h) (Or.inl ⟨by rfl, ?_⟩) (by assumption) ?_
        rotate_left
        · (intro W hSw; obtain ⟨⟨p0, p1, p2, p3, p4, pf⟩, g1⟩ := And.intro (PkB.cells hSw.1) hSw.2; go_simp; try with_reducible rfl)
        try simp only [Act.put, List.getElem_toArray, List.getElem_cons_succ, List.getElem_cons_zero, List.setIfInBounds_toArray, List.set_cons_zero, List.set_cons_succ]
        refine wpAnyH_take (i := 6) (oi := _) (v := ?_) rfl (by kernel_rfl) (by kernel_rfl) (by kernel_rfl) (fun _ _ _ h => h) (Or.inl ⟨by rfl, ?_⟩) (by assumption) ?_
        rotate_left
        · (intro W hSw; obtain ⟨⟨p0, p1, p2, p3, p4, pf⟩, g1⟩ := And.intro (PkB.cells hSw.1) hSw.2; go_simp; try with_reducible rfl)
        try simp only [Act.put, List.getElem_toArray, List.getElem_cons_succ, List.getElem_cons_zero, List.setIfInBounds_toArray, List.set_cons_zero, List.set_cons_succ]
        refine wpAnyH_ready (rs := [7]) (by kernel_rfl) (by simp) ?_
        refine AllReadyH.cons rfl (fun K hK => ?_) AllReadyH.nil
        simp only [List.getElem_toArray, List.getElem_cons_succ, List.getElem_cons_zero]
        rw [if_pos (by rfl)]
        go_simp
        refine (H7d.out.1.tmo ⟨1, f, s, t, d⟩ HOK.out.1 _).mono ?_
        rintro _ w9 ⟨cc, rfl, ⟨s9, gone9, ex9, hp9, hc9⟩, hf9⟩
        have c9 : w9.cell? ⟨Q, j', none⟩ = some (.int .u64 hw) := (hf9.cellQ H7d.out.2.1.hq j').trans g1d
        have hrst := And.intro (Rs.ft H7d.out.2.1 hf9) (And.intro (KB.ft H7d.out.2.2.1 hf9) (PkB.ft H7d.out.2.2.2 hf9))
        have H9 := Lib.hid (And.intro hp9 hrst)
        have HX := Lib.hid c9
        have HCs := Lib.hid hc9
        clear hp9 hf9 hrst c9 hc9
        go_wp2_with fail
        refine hK.out _ _ ⟨H9.out.2.2.2, HX.out⟩ (fun hHeld => ?_)
        clear hK K
        try simp only [Act.put, List.getElem_toArray, List.getElem_cons_succ, List.getElem_cons_zero, List.setIfInBounds_toArray, List.set_cons_zero, List.set_cons_succ]
        refine wpAnyH_take (i := 8) (oi := _) (v := ?_) rfl (by kernel_rfl) (by kernel_rfl) (by kernel_rfl) (fun _ _ _ h => h) (Or.inl ⟨by rfl, ?_⟩) (by assumption) ?_
        rotate_left
        · (intro W hSw; obtain ⟨⟨p0, p1, p2, p3, p4, pf⟩, g1⟩ := And.intro (PkB.cells hSw.1) hSw.2; go_simp; try with_reducible rfl)
        try simp only [Act.put, List.getElem_toArray, List.getElem_cons_succ, List.getElem_cons_zero, List.setIfInBounds_toArray, List.set_cons_zero, List.set_cons_succ]
        refine wpAnyH_done (by kernel_rfl) ?_ _
        clear g1d q0 q0' H7 H7d
        rcases HCs.out with ⟨rfl, hgone, hex, n1, n2⟩ | ⟨hcc, hgone, hex⟩
        · have HG := Lib.hid (And.intro hgone hex)
          have HN := Lib.hid (And.intro n1 n2)
          clear hgone hex n1 n2 HCs
          have hin := in_any A2 m2 c2 gone f s w9 (own_rd H9.out.2.1.r2) (by have := H9.out.2.1.r2.2; have := HLn.out; omega)
          rw [decide_eq_false HN.out.1] at hin
          have HI := Lib.hid hin
          clear hin
          obtain ⟨k0, k1, k2⟩ := kb_cells H9.out.2.2.1
          go_wp2_with fail
          refine HI.out.mono ?_
          rintro _ w10 ⟨rfl, bn⟩
          have H10 := Lib.hid (b4_below H9.out bn)
          clear HI bn k0 k1 k2 H9
          have hin := in_any A1 m1 c1 got f s w10 (own_rd H10.out.2.1.r1) (by have := H10.out.2.1.r1.2; have := HLn.out; omega)
          rw [decide_eq_false HN.out.2] at hin
          have HI := Lib.hid hin
          clear hin
          obtain ⟨k0, k1, k2⟩ := kb_cells H10.out.2.2.1
          go_wp2_with fail
          refine HI.out.mono ?_
          rintro _ w11 ⟨rfl, bn⟩
          have H11 := Lib.hid (b4_below H10.out bn)
          clear HI bn k0 k1 k2 H10
          go_upto_region 24 with fail
          have bl := (Below.refl w11.heap.size w11).alloc (Nat.le_refl _) (.cells #[.int .i64 1, .int .i64 f, .int .u64 s] TKy)
          have HA := Lib.hid (b4_below H11.out bl)
          have hmm := HA.out.2.1.r2.2
          have hrow := HA.out.2.1.r2.1
          rw [← hmm] at hrow
          have HRW := Lib.hid hrow
          have hbd : m2 ≤ 1000 := by have := HLn.out; omega
          have HBd := Lib.hid hbd
          have HC := Lib.hid (news_ky w11 f s)
          have HO1 := Lib.hid (ones_ky f s)
          have HSZ := Lib.hid HA.out.1.bel.size
          obtain ⟨i0, hinf, hz0, hz1, hz2⟩ := info_partsK infoKy
          obtain ⟨k0, k1, k2⟩ := kb_cells H11.out.2.2.1
          clear bl hmm hrow hbd H11
          go_wp2_with (at_builtin; refine wpList_append_lies _ rfl _ _ 31 rfl W.heap.size TKy i0 (.agg #[.int .i64 0, .int .i64 0, .int .u64 0]) 3 24 Tryd.underlying31 hinf hz0 hz1 hz2 rfl (by decide) _ _ _ rfl HRW.out ⟨w11.heap.size, 0, none⟩ 1 1 (#[.int .i64 1, .int .i64 f, .int .u64 s] : Array Value).toList rfl rfl HC.out HO1.out (by decide) (by have := HBd.out; unfold maxLen; omega) (by have := HBd.out; omega) HSZ.out _ rfl ?_)
          intro g cap1 w20 hown hgr hat _
          have hat' : (Value.slice A2 m2 c2).ownBlock = some g ∨ g = (w11.alloc (.cells #[.int .i64 1, .int .i64 f, .int .u64 s] TKy)).heap.size := hat.imp id fun e => e.trans (heap_alloc_size w11 _).symm
          have hpg := HA.out.1.grow HA.out.2.1.r2 hgr HT.out
          have hrg := (HA.out.2.1.rot.push (f := f) (s := s) hown hgr hat').rot.rot
          have hkg := (HA.out.2.2.1.rot.push (n := m2 + 1) (cap := cap1) hgr hat').rot.rot
          have hpk : PkB w20 P ⟨1, f, s, t, d⟩ := (hgr.block P (lt_of HA.out.2.2.2) fun e => by
            obtain ⟨cur, hc⟩ := own_cell HA.out.2.1.r2 P e.symm
            have hp := HA.out.2.2.2
            unfold PkB at hp
            rw [hp] at hc; injection hc with hc; injection hc with _ hc; exact absurd hc (by decide)).trans HA.out.2.2.2
          have H20 := Lib.hid (And.intro hpg (And.intro hrg (And.intro hkg hpk)))
          clear hown hgr hat hat' hpg hrg hkg hpk HA HRW HBd HC HO1 HSZ k0 k1 k2 hinf hz0 hz1 hz2
          go_upto_region 25 with fail
          have bl := (Below.refl w20.heap.size w20).alloc (Nat.le_refl _) (.cells #[.int .i64 1, .int .i64 f, .int .u64 s] TKy)
          have HA := Lib.hid (b4_below H20.out bl)
          have hmm := HA.out.2.1.r3.2
          have hrow := HA.out.2.1.r3.1
          rw [← hmm] at hrow
          have HRW := Lib.hid hrow
          have hbd : m3 ≤ 1000 := by have := HLn.out; omega
          have HBd := Lib.hid hbd
          have HC := Lib.hid (news_ky w20 f s)
          have HO1 := Lib.hid (ones_ky f s)
          have HSZ := Lib.hid HA.out.1.bel.size
          obtain ⟨i0, hinf, hz0, hz1, hz2⟩ := info_partsK infoKy
          obtain ⟨k0, k1, k2⟩ := kb_cells H20.out.2.2.1
          clear bl hmm hrow hbd H20
          go_wp2_with (at_builtin; refine wpList_append_lies _ rfl _ _ 31 rfl W.heap.size TKy i0 (.agg #[.int .i64 0, .int .i64 0, .int .u64 0]) 3 24 Tryd.underlying31 hinf hz0 hz1 hz2 rfl (by decide) _ _ _ rfl HRW.out ⟨w20.heap.size, 0, none⟩ 1 1 (#[.int .i64 1, .int .i64 f, .int .u64 s] : Array Value).toList rfl rfl HC.out HO1.out (by decide) (by have := HBd.out; unfold maxLen; omega) (by have := HBd.out; omega) HSZ.out _ rfl ?_)
          intro g cap1 w30 hown hgr hat _
          have hat' : (Value.slice A3 m3 c3).ownBlock = some g ∨ g = (w20.alloc (.cells #[.int .i64 1, .int .i64 f, .int .u64 s] TKy)).heap.size := hat.imp id fun e => e.trans (heap_alloc_size w20 _).symm
          have hpg := HA.out.1.grow HA.out.2.1.r3 hgr HT.out
          have hrg := (HA.out.2.1.rot.rot.push (f := f) (s := s) hown hgr hat').rot
          have hkg := (HA.out.2.2.1.rot.rot.push (n := m3 + 1) (cap := cap1) hgr hat').rot
          have hpk : PkB w30 P ⟨1, f, s, t, d⟩ := (hgr.block P (lt_of HA.out.2.2.2) fun e => by
            obtain ⟨cur, hc⟩ := own_cell HA.out.2.1.r3 P e.symm
            have hp := HA.out.2.2.2
            unfold PkB at hp
            rw [hp] at hc; injection hc with hc; injection hc with _ hc; exact absurd hc (by decide)).trans HA.out.2.2.2
          have H30 := Lib.hid (And.intro hpg (And.intro hrg (And.intro hkg hpk)))
          clear hown hgr hat hat' hpg hrg hkg hpk HA HRW HBd HC HO1 HSZ k0 k1 k2 hinf hz0 hz1 hz2
          obtain ⟨rfl, rfl⟩ := HG.out
          go_wp2
          go_roundw
          case rel =>
            obtain ⟨z0, z1, hz⟩ := HPb.out _ _ _ _ _ _ H30.out.1
            exact ⟨i + 1, A1, m1, c1, _, _, _, _, _, _, got, _, _, z0, z1, rfl, rfl, rfl, by go_num, by omega, Lib.hid ⟨hz, H30.out.2.1, by have := HLn.out; (try rw [List.length_append, List.length_singleton]); omega, by have := HLn.out; (try rw [List.length_append, List.length_singleton]); omega, by have := HLn.out; (try rw [List.length_append, List.length_singleton]); omega⟩⟩
          case measure => simp [intOf]; omega
        · have e1 : (cc == 0) = false := by simpa using hcc
          clear HCs hcc
          obtain rfl := hgone
          obtain rfl := hex
          go_wp2
          go_roundw
          case rel =>
            obtain ⟨z0, z1, hz⟩ := HPb.out _ _ _ _ _ _ H9.out.1
            exact ⟨i + 1, A1, m1, c1, A2, m2, c2, A3, m3, c3, got, _, _, z0, z1, rfl, rfl, rfl, by go_num, by omega, Lib.hid ⟨hz, H9.out.2.1, by have := HLn.out; (try rw [List.length_append, List.length_singleton]); omega, by have := HLn.out; (try rw [List.length_append, List.length_singleton]); omega, by have := HLn.out; (try rw [List.length_append, List.length_singleton]); omega⟩⟩
          case measure => simp [intOf]; omega
    · obtain rfl : i = len := by omega
      have hii : ¬ ((i : Int) < (i : Int)) := by omega
      clear HQ
      go_wp2_with fail
      refine (awake_any _ (Sha.tab_below HT.out HS.out.1.bel)).mono ?_
      rintro _ w9 ⟨rfl, b9⟩
      have hbe := HS.out.1.bel.trans (b9.mono HS.out.1.bel.size)
      clear b9
      go_wp2
      go_ret
      exact ⟨rfl, hbe⟩
end Go.Proofs.YtdljphbfbiganaaDoor.Lo
