/- 'PoolPlays' holds for every input, with no condition: what waits, behind whatever is added and taken. -/
import Derived.Test.YtjjomlideieofaaPoolLQ2
namespace Go.Proofs.Ytjjomlideieofaa.poolPlays
open Go Go.RowKit Msg

set_option maxRecDepth 100000 in
set_option maxHeartbeats 1000000 in
theorem law_long (most : Int) (A : Option Addr) (len cap : Nat) (x : M7) (w : World) (hl : 60 < len) (hm : len ≤ 9223372036854775807) :
    Calls Try.prog 3 #[.int .i64 most, .slice A len cap, .agg #[.int .i64 x.k, .int .i64 x.c, .int .i64 x.f, .int .u64 x.s, .int .u64 x.t, .string x.d, .string x.a]] w fun e w' => e = .returned (.bool true) ∧ Below w.heap.size w w' := by
  have hp : (60 : Int) < (len : Int) := by omega
  go_enter Try.func3, Try.ntmps3
  go_wp2_with fail
  refine (awake10_any _).mono ?_
  rintro e w2 ⟨rfl, hb2⟩
  have HB2 := Lib.hid (((Below.refl _ w).alloc (Nat.le_refl _) _).trans (hb2.mono (by simp)))
  clear hb2
  go_wp2
  go_ret
  exact ⟨rfl, HB2.out⟩

set_option maxRecDepth 100000 in
set_option maxHeartbeats 1000000 in
theorem law_bad (most : Int) (A : Option Addr) (len cap : Nat) (x : M7) (w : World) (hl : len ≤ 60) (h : most < 1 ∨ 32 < most) :
    Calls Try.prog 3 #[.int .i64 most, .slice A len cap, .agg #[.int .i64 x.k, .int .i64 x.c, .int .i64 x.f, .int .u64 x.s, .int .u64 x.t, .string x.d, .string x.a]] w fun e w' => e = .returned (.bool true) ∧ Below w.heap.size w w' := by
  have hp : ¬ (60 : Int) < (len : Int) := by omega
  have hp2 : (len : Int) ≤ 60 := by omega
  have hnew := Lib.hid fun W => pnew_bad most W h
  rcases (by omega : most < 1 ∨ (1 ≤ most ∧ 32 < most)) with h | ⟨h0, h⟩
  all_goals
    go_enter Try.func3, Try.ntmps3
    go_wp2_with fail
    refine (hnew.out _).mono ?_
    rintro e w' ⟨rfl, hw'⟩
    have HW := Lib.hid (show Below w.heap.size w w' by rw [hw']; exact (Below.refl _ _).alloc (Nat.le_refl _) _)
    clear hw'
    go_wp2_with fail
    refine (awake10_any _).mono ?_
    rintro e w2 ⟨rfl, hb2⟩
    have HB2 := Lib.hid (HW.out.trans (hb2.mono HW.out.size))
    clear hb2
    go_wp2
    go_ret
    exact ⟨rfl, HB2.out⟩

theorem LQ.new (w : World) (x : M7) (most : Int) (h0 : 1 ≤ most) : LQ w (((w.alloc (.cells #[.int .i64 x.k, .int .i64 x.c, .int .i64 x.f, .int .u64 x.s, .int .u64 x.t, .string x.d, .string x.a] TM)).alloc (.cells (p0 most) TP)).alloc (.cells #[.slice none 0 0, .int .i64 most] TR1)) x (w.alloc (.cells #[.int .i64 x.k, .int .i64 x.c, .int .i64 x.f, .int .u64 x.s, .int .u64 x.t, .string x.d, .string x.a] TM)).heap.size ((w.alloc (.cells #[.int .i64 x.k, .int .i64 x.c, .int .i64 x.f, .int .u64 x.s, .int .u64 x.t, .string x.d, .string x.a] TM)).alloc (.cells (p0 most) TP)).heap.size most [] [] := by
  have b1 : Below w.heap.size w (w.alloc (.cells #[.int .i64 x.k, .int .i64 x.c, .int .i64 x.f, .int .u64 x.s, .int .u64 x.t, .string x.d, .string x.a] TM)) := (Below.refl _ _).alloc (Nat.le_refl _) _
  have b2 : Below (w.alloc (.cells #[.int .i64 x.k, .int .i64 x.c, .int .i64 x.f, .int .u64 x.s, .int .u64 x.t, .string x.d, .string x.a] TM)).heap.size (w.alloc (.cells #[.int .i64 x.k, .int .i64 x.c, .int .i64 x.f, .int .u64 x.s, .int .u64 x.t, .string x.d, .string x.a] TM)) ((w.alloc (.cells #[.int .i64 x.k, .int .i64 x.c, .int .i64 x.f, .int .u64 x.s, .int .u64 x.t, .string x.d, .string x.a] TM)).alloc (.cells (p0 most) TP)) := (Below.refl _ _).alloc (Nat.le_refl _) _
  have b3 : Below ((w.alloc (.cells #[.int .i64 x.k, .int .i64 x.c, .int .i64 x.f, .int .u64 x.s, .int .u64 x.t, .string x.d, .string x.a] TM)).alloc (.cells (p0 most) TP)).heap.size ((w.alloc (.cells #[.int .i64 x.k, .int .i64 x.c, .int .i64 x.f, .int .u64 x.s, .int .u64 x.t, .string x.d, .string x.a] TM)).alloc (.cells (p0 most) TP)) (((w.alloc (.cells #[.int .i64 x.k, .int .i64 x.c, .int .i64 x.f, .int .u64 x.s, .int .u64 x.t, .string x.d, .string x.a] TM)).alloc (.cells (p0 most) TP)).alloc (.cells #[.slice none 0 0, .int .i64 most] TR1)) := (Below.refl _ _).alloc (Nat.le_refl _) _
  have hx : BoxM (w.alloc (.cells #[.int .i64 x.k, .int .i64 x.c, .int .i64 x.f, .int .u64 x.s, .int .u64 x.t, .string x.d, .string x.a] TM)) w.heap.size x := heap_alloc_new w _
  refine ⟨⟨0, (Pl.new (w.alloc (.cells #[.int .i64 x.k, .int .i64 x.c, .int .i64 x.f, .int .u64 x.s, .int .u64 x.t, .string x.d, .string x.a] TM)) w.heap.size b1.size most).below b3⟩, ⟨none, 0, by have := b1.size; have := b2.size; omega, heap_alloc_new _ _, World.ownsRow_nil _ _ _ _⟩, by simp; omega, by simp; omega, fun q hq => by simp at hq, ?_, b1.trans ((b2.trans (b3.mono b2.size)).mono b1.size)⟩
  exact (b3.block _ (by have := lt_blk hx; have := b2.size; omega)).trans ((b2.block _ (lt_blk hx)).trans hx)

set_option maxRecDepth 100000 in
set_option maxHeartbeats 8000000 in
theorem law_main (most : Int) (A : Option Addr) (len cap : Nat) (al : List A6) (x : M7) (w : World) (hr : RdA w A len al) (hl : len ≤ 60) (h0 : 1 ≤ most) (h32 : most ≤ 32) :
    Calls Try.prog 3 #[.int .i64 most, .slice A len cap, .agg #[.int .i64 x.k, .int .i64 x.c, .int .i64 x.f, .int .u64 x.s, .int .u64 x.t, .string x.d, .string x.a]] w fun e w' => e = .returned (.bool true) ∧ Below w.heap.size w w' := by
  have hp : ¬ (60 : Int) < (len : Int) := by omega
  have hp2 : (len : Int) ≤ 60 := by omega
  have HR := Lib.hid hr
  clear hr
  have HN0 := Lib.hid (LQ.new w x most h0)
  go_enter Try.func3, Try.ntmps3
  go_wp2_with fail
  obtain ⟨w0, hw0⟩ : ∃ W : World, W = w.alloc (.cells #[.int .i64 x.k, .int .i64 x.c, .int .i64 x.f, .int .u64 x.s, .int .u64 x.t, .string x.d, .string x.a] TM) := ⟨_, rfl⟩
  rw [← hw0]
  rw [← hw0] at HN0
  clear hw0
  refine (pnew_ok most w0 h0 h32).mono ?_
  rintro e w1 ⟨rfl, hw1⟩
  obtain ⟨gp, hgp⟩ : ∃ gp, gp = w0.heap.size := ⟨_, rfl⟩
  rw [← hgp]
  rw [← hgp, ← hw1] at HN0
  clear hgp hw1
  go_wp2_with fail
  obtain ⟨gq, hgq⟩ : ∃ gq, gq = w1.heap.size := ⟨_, rfl⟩
  rw [← hgq]
  rw [← hgq] at HN0
  clear hgq
  go_loopw [10] (fun i wr => ∃ (k : Nat) (ts qs : List T4), i = .int .i64 (k : Int) ∧ k ≤ len ∧ Hid (ts.map W5 = qs.map W5) ∧ Hid (LQ w wr x gp gq most ts qs)) (fun i _ => len - (intOf i).toNat)
  case atStart => exact ⟨0, [], [], rfl, Nat.zero_le _, Lib.hid rfl, HN0⟩
  case round =>
    obtain ⟨k, ts, qs, rfl, hk, hws, HI⟩ := hrel
    by_cases hlt : k < len
    · skip
      have hka : k < al.length := by rw [HR.out.1]; exact hlt
      obtain ⟨b, off, rfl, has⟩ := HR.out.at HI.out.bel hka
      have hwf := HR.out.2.1 _ (List.getElem_mem hka)
      generalize al[k] = a at has hwf
      obtain ⟨kd, t, n⟩ := a
      obtain ⟨htok, hk0, hk1⟩ := hwf
      simp only at htok hk0 hk1
      clear hka
      have hrd := Lib.hid htok.2.2.1
      have htl : t.len ≤ 9223372036854775807 := by have := htok.1; have := htok.2.1; unfold maxLen at this; omega
      clear htok
      have HAS := Lib.hid has
      obtain ⟨⟨_, hbw⟩, c0, c1, c2, c3, c4, c5⟩ := has
      have hi0 : (0 : Int) ≤ (k : Int) := by omega
      have hkn : (k : Int) < (len : Int) := by omega
      simp only at c0 c1 c2 c3 c4 c5
      go_wp2_with fail
      refine (few05_any t.side t.acc t.n t.A t.len t.cap t.ms wr (hrd.out.below HI.out.bel) htl).mono ?_
      rintro e w2 ⟨fb, rfl, hf12, hb2⟩
      have HI1 := Lib.hid (HI.out.below hb2)
      have HAS1 := Lib.hid (HAS.out.to HI1.out.bel)
      clear hb2 c0 c1 c2 c3 c4 c5
      cases fb
      · go_wp2_with fail
        refine (awake10_any _).mono ?_
        rintro e w3 ⟨rfl, hb3⟩
        have HB3 := Lib.hid (HI1.out.bel.trans (hb3.mono HI1.out.bel.size))
        clear hb3
        go_wp2
        go_ret
        exact ⟨rfl, HB3.out⟩
      · have h12 : t.len ≤ 12 := hf12 rfl
        clear hf12
        have hAS1 : AS w b (off + k * 6) ⟨kd, t, n⟩ w2 := HAS1.out
        obtain ⟨_, c0, c1, c2, c3, c4, c5⟩ := HAS1.out
        simp only at c0 c1 c2 c3 c4 c5
        by_cases hk2 : kd % 2 = 0
        · have hkA : (kd % 2 == 0) = true := by simpa using hk2
          have hkB : (kd.tmod 2 == 0) = true := by rw [Int.tmod_eq_emod_of_nonneg hk0]; exact hkA
          obtain ⟨l, hl⟩ : ∃ l, ts.map W5 = l := ⟨_, rfl⟩
          obtain ⟨z, hz⟩ : ∃ z, z = ac l most t := ⟨_, rfl⟩
          have C1 := Lib.hid (padd_law HI1.out.drew h32 t hrd.out h12 hl)
          have C2 := Lib.hid (fun W ts' (h : LQ w W x gp gq most ts' qs) => radd_law h h32 t hrd.out h12 (hws.out.symm.trans hl))
          rw [← hz] at C1 C2
          have hzz : (z != z) = false := by simp
          clear hz hl
          go_wp2
          go_region_held3 (fun W => (Below w.heap.size w W ∧ b < w.heap.size) ∧ W.cell? ⟨b, off + k * 6, none⟩ = some (.int .u8 kd) ∧ W.cell? ⟨b, off + k * 6 + 1, none⟩ = some (.int .i64 t.side) ∧ W.cell? ⟨b, off + k * 6 + 2, none⟩ = some (.int .i64 t.acc) ∧ W.cell? ⟨b, off + k * 6 + 3, none⟩ = some (.int .u64 t.n) ∧ W.cell? ⟨b, off + k * 6 + 4, none⟩ = some (.slice t.A t.len t.cap) ∧ W.cell? ⟨b, off + k * 6 + 5, none⟩ = some (.int .i64 n))
            (with_reducible first | assumption | exact hAS1 | exact AS.drew hAS1 | exact hASA | exact hASR)
            (first
              | (go_at_call 12; ((with_reducible refine C1.out.mono ?_); rintro e wA ⟨rfl, ts', hts', hLA⟩; have hASA := AS.to hAS1 hLA.bel))
              | (go_at_call 13; ((with_reducible refine (C2.out _ _ hLA).mono ?_); rintro e wR ⟨rfl, qs', hqs', hLR⟩; have hASR := AS.to hAS1 hLR.bel)))
          have HL := Lib.hid hLR
          have HWS := Lib.hid (hts'.trans hqs'.symm)
          have hAS0 := hASR
          clear hLR hLA hASA hASR hts' hqs' hAS1
          obtain ⟨l2, hl2⟩ : ∃ l2, ts'.map W5 = l2 := ⟨_, rfl⟩
          have HPW := Lib.hid (fun W (hb : Below wR.heap.size wR W) => pwait_law (HL.out.below hb) hl2 t.acc)
          have HRW := Lib.hid (fun W (hb : Below wR.heap.size wR W) => rwait_law (HL.out.below hb) h32 (HWS.out.symm.trans hl2) t.acc)
          have HLE := Lib.hid (fun W (hb : Below wR.heap.size wR W) => plen_law (HL.out.below hb))
          obtain ⟨Aq, cq, hq0, _, hgq⟩ := HL.out.page' HWS.out
          have hn2 := HL.out.lp
          obtain ⟨n2, hn2e⟩ : ∃ n2, n2 = ts'.length := ⟨_, rfl⟩
          rw [← hn2e] at HLE hq0 hn2
          obtain ⟨cw, hcw⟩ : ∃ cw : Int, cw = (cnt t.acc l2 : Int) := ⟨_, rfl⟩
          rw [← hcw] at HPW HRW
          have hAQ : AQ6 wR b (off + k * 6) gq t.acc (.slice Aq n2 cq) wR := ⟨⟨Below.refl _ _, hgq, Nat.lt_of_lt_of_le hAS0.1.2 HL.out.bel.size⟩, hq0, hAS0.2.2.2.1⟩
          have hdg : decide (most < (n2 : Int)) = false := decide_eq_false (by omega)
          have hnn : ((n2 : Int) != (n2 : Int)) = false := by simp
          have hcc : (cw != cw) = false := by simp
          clear hl2 hq0 hgq hn2e hcw hAS0
          go_wp2
          go_region_held3 (fun W => (Below wR.heap.size wR W ∧ gq < wR.heap.size ∧ b < wR.heap.size) ∧ W.cell? ⟨gq, 0, none⟩ = some (.slice Aq n2 cq) ∧ W.cell? ⟨b, off + k * 6 + 2, none⟩ = some (.int .i64 t.acc))
            (with_reducible first | assumption | exact hAQ | exact AQ6.drew hAQ | exact hAQ1 | exact hAQ2)
            (first
              | (go_at_call 17; ((with_reducible refine (HLE.out _ (And.left (And.left (by assumption)))).mono ?_); rintro e w1 ⟨rfl, rfl⟩))
              | (go_at_call 18; ((with_reducible refine (HPW.out _ (And.left (And.left (AQ6.drew hAQ)))).mono ?_); rintro e wP ⟨rfl, hbP⟩; have hAQ1 := AQ6.call (AQ6.drew hAQ) hbP))
              | (go_at_call 19; ((with_reducible refine (HRW.out _ (And.left (And.left hAQ1))).mono ?_); rintro e wQ ⟨rfl, hbQ⟩; have hAQ2 := AQ6.call hAQ1 hbQ)))
          have HLF := Lib.hid (HL.out.below hAQ2.1.1)
          clear hAQ2
          go_wp2
          go_roundw
          case rel => exact ⟨k + 1, ts', qs', by go_num, by omega, HWS, HLF⟩
          case measure => simp [intOf]; omega

        · have hkA : (kd % 2 == 0) = false := by simpa using hk2
          have hkB : (kd.tmod 2 == 0) = false := by rw [Int.tmod_eq_emod_of_nonneg hk0]; exact hkA
          obtain ⟨m, hm⟩ : ∃ m, m = min n.toNat ts.length := ⟨_, rfl⟩
          have hlen : ts.length = qs.length := by have := congrArg List.length hws.out; simpa using this
          have C1 := Lib.hid (ptake_law HI1.out.drew n m hm)
          have C2 := Lib.hid (fun W ts' (h : LQ w W x gp gq most ts' qs) => rtake_law h h32 n m (by rw [← hlen]; exact hm))
          have hmt : m ≤ ts.length := by omega
          have HDS := Lib.hid (drops_same hws.out m)
          clear hm hlen
          go_wp2
          go_region_held3 (fun W => (Below w.heap.size w W ∧ b < w.heap.size) ∧ W.cell? ⟨b, off + k * 6, none⟩ = some (.int .u8 kd) ∧ W.cell? ⟨b, off + k * 6 + 1, none⟩ = some (.int .i64 t.side) ∧ W.cell? ⟨b, off + k * 6 + 2, none⟩ = some (.int .i64 t.acc) ∧ W.cell? ⟨b, off + k * 6 + 3, none⟩ = some (.int .u64 t.n) ∧ W.cell? ⟨b, off + k * 6 + 4, none⟩ = some (.slice t.A t.len t.cap) ∧ W.cell? ⟨b, off + k * 6 + 5, none⟩ = some (.int .i64 n))
            (with_reducible first | assumption | exact hAS1 | exact AS.drew hAS1 | exact hASA | exact hASR | exact hASS)
            (first
              | (go_at_call 15; ((with_reducible refine C1.out.mono ?_); rintro e wA ⟨Ap, cp, rfl, hrA, hkA1, hLA⟩; have hASA := AS.to hAS1 hLA.bel))
              | (go_at_call 16; ((with_reducible refine (C2.out _ _ hLA).mono ?_); rintro e wR ⟨Ar, cr, rfl, hrR, hoR, hkR, hLR⟩; have hASR := AS.to hAS1 hLR.bel))
              | (go_at_call 14; ((with_reducible refine (takes_same HI1.out.drew hws.out h32 hLA hkA1 hrA hmt hoR hkR hrR hLR).mono ?_); rintro e wS ⟨rfl, hbS⟩; have hLS := hLR.below hbS; have hASS := AS.to hAS1 hLS.bel)))
          have HL := Lib.hid hLS
          have HWS := HDS
          have hAS0 := hASS
          clear hLR hLA hLS hASA hASR hASS hrA hkA1 hrR hoR hkR hAS1
          obtain ⟨l2, hl2⟩ : ∃ l2, (ts.drop m).map W5 = l2 := ⟨_, rfl⟩
          have HPW := Lib.hid (fun W (hb : Below wS.heap.size wS W) => pwait_law (HL.out.below hb) hl2 t.acc)
          have HRW := Lib.hid (fun W (hb : Below wS.heap.size wS W) => rwait_law (HL.out.below hb) h32 (HWS.out.symm.trans hl2) t.acc)
          have HLE := Lib.hid (fun W (hb : Below wS.heap.size wS W) => plen_law (HL.out.below hb))
          obtain ⟨Aq, cq, hq0, _, hgq⟩ := HL.out.page' HWS.out
          have hn2 := HL.out.lp
          obtain ⟨n2, hn2e⟩ : ∃ n2, n2 = (ts.drop m).length := ⟨_, rfl⟩
          rw [← hn2e] at HLE hq0 hn2
          obtain ⟨cw, hcw⟩ : ∃ cw : Int, cw = (cnt t.acc l2 : Int) := ⟨_, rfl⟩
          rw [← hcw] at HPW HRW
          have hAQ : AQ6 wS b (off + k * 6) gq t.acc (.slice Aq n2 cq) wS := ⟨⟨Below.refl _ _, hgq, Nat.lt_of_lt_of_le hAS0.1.2 HL.out.bel.size⟩, hq0, hAS0.2.2.2.1⟩
          have hdg : decide (most < (n2 : Int)) = false := decide_eq_false (by omega)
          have hnn : ((n2 : Int) != (n2 : Int)) = false := by simp
          have hcc : (cw != cw) = false := by simp
          clear hl2 hq0 hgq hn2e hcw hAS0
          go_wp2
          go_region_held3 (fun W => (Below wS.heap.size wS W ∧ gq < wS.heap.size ∧ b < wS.heap.size) ∧ W.cell? ⟨gq, 0, none⟩ = some (.slice Aq n2 cq) ∧ W.cell? ⟨b, off + k * 6 + 2, none⟩ = some (.int .i64 t.acc))
            (with_reducible first | assumption | exact hAQ | exact AQ6.drew hAQ | exact hAQ1 | exact hAQ2)
            (first
              | (go_at_call 17; ((with_reducible refine (HLE.out _ (And.left (And.left (by assumption)))).mono ?_); rintro e w1 ⟨rfl, rfl⟩))
              | (go_at_call 18; ((with_reducible refine (HPW.out _ (And.left (And.left (AQ6.drew hAQ)))).mono ?_); rintro e wP ⟨rfl, hbP⟩; have hAQ1 := AQ6.call (AQ6.drew hAQ) hbP))
              | (go_at_call 19; ((with_reducible refine (HRW.out _ (And.left (And.left hAQ1))).mono ?_); rintro e wQ ⟨rfl, hbQ⟩; have hAQ2 := AQ6.call hAQ1 hbQ)))
          have HLF := Lib.hid (HL.out.below hAQ2.1.1)
          clear hAQ2
          go_wp2
          go_roundw
          case rel => exact ⟨k + 1, (ts.drop m), (qs.drop m), by go_num, by omega, HWS, HLF⟩
          case measure => simp [intOf]; omega
    · obtain rfl : k = len := by omega
      obtain ⟨l2, hl2⟩ : ∃ l2, ts.map W5 = l2 := ⟨_, rfl⟩
      have HPH := Lib.hid (fun W (hb : Below wr.heap.size wr W) => phas_law (HI.out.below hb) hws.out hl2)
      have HRH := Lib.hid (fun W (hb : Below wr.heap.size wr W) => rhas_law (HI.out.below hb) h32 (hws.out.symm.trans hl2))
      have HAL := Lib.hid (fun W (hb : Below wr.heap.size wr W) => pall_law (HI.out.below hb) hws.out)
      obtain ⟨Aq, cq, hq0, hrx, hgq⟩ := HI.out.page' hws.out
      have hn2 := HI.out.lp
      obtain ⟨n2, hn2e⟩ : ∃ n2, n2 = ts.length := ⟨_, rfl⟩
      rw [← hn2e] at HAL hq0 hn2 hrx
      obtain ⟨hb1, hhb⟩ : ∃ hb1, hb1 = hasW x l2 := ⟨_, rfl⟩
      rw [← hhb] at HPH HRH
      have hAB : AB wr w.heap.size gq x (.slice Aq n2 cq) wr := ⟨⟨Below.refl _ _, hgq, lt_blk HI.out.box⟩, hq0, HI.out.box.cells⟩
      have HRX := Lib.hid hrx
      have hbe : (hb1 == hb1) = true := by simp
      have h2n : n2 ≤ 32 := by omega
      clear hl2 hq0 hgq hn2e hhb hrx
      go_wp2
      go_region_held3 (fun W => (Below wr.heap.size wr W ∧ gq < wr.heap.size ∧ w.heap.size < wr.heap.size) ∧ W.cell? ⟨gq, 0, none⟩ = some (.slice Aq n2 cq) ∧ W.cell? ⟨w.heap.size, 0, none⟩ = some (.int .i64 x.k) ∧ W.cell? ⟨w.heap.size, 1, none⟩ = some (.int .i64 x.c) ∧ W.cell? ⟨w.heap.size, 2, none⟩ = some (.int .i64 x.f) ∧ W.cell? ⟨w.heap.size, 3, none⟩ = some (.int .u64 x.s) ∧ W.cell? ⟨w.heap.size, 4, none⟩ = some (.int .u64 x.t) ∧ W.cell? ⟨w.heap.size, 5, none⟩ = some (.string x.d) ∧ W.cell? ⟨w.heap.size, 6, none⟩ = some (.string x.a))
        (with_reducible first | assumption | exact hAB | exact AB.drew hAB | exact hABA | exact hABL | exact hABS | exact hABH | exact hABR)
        (first
          | (go_at_call 9; ((with_reducible refine (awake10_any _).mono ?_); rintro e wA ⟨rfl, hbA⟩; have hABA := AB.call (AB.drew hAB) hbA))
          | (go_at_call 20; ((with_reducible refine (HAL.out _ (And.left (And.left hABA))).mono ?_); rintro e wL ⟨Al, cl, rfl, hcop, hbL⟩; have hABL := AB.call hABA hbL))
          | (go_at_call 14; ((with_reducible refine (alls_same (HI.out.below (And.left (And.left hABL))) hcop (HRX.out.below (And.left (And.left hABL))) h2n).mono ?_); rintro e wS ⟨rfl, hbS⟩; have hABS := AB.call hABL hbS))
          | (go_at_call 21; ((with_reducible refine (HPH.out _ (And.left (And.left hABS))).mono ?_); rintro e wH ⟨rfl, hbH⟩; have hABH := AB.call hABS hbH))
          | (go_at_call 22; ((with_reducible refine (HRH.out _ (And.left (And.left hABH))).mono ?_); rintro e wQ ⟨rfl, hbQ⟩; have hABR := AB.call hABH hbQ)))
      have HZ := Lib.hid (HI.out.bel.trans (hABR.1.1.mono HI.out.bel.size))
      clear hABR
      go_wp2
      go_ret
      exact ⟨rfl, HZ.out⟩
end Go.Proofs.Ytjjomlideieofaa.poolPlays
