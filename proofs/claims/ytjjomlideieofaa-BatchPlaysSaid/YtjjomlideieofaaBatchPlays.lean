/- 'BatchPlays' holds for every input, with no condition: which messages are gathered, and when they are to be sent. -/
import Derived.Test.YtjjomlideieofaaBatchBoth
import Derived.Test.YtjjomlideieofaaBatchAwake
import Derived.Test.YtjjomlideieofaaFew27
namespace Go.Proofs.Ytjjomlideieofaa.batchPlays
open Go Go.RowKit Msg

set_option maxRecDepth 100000 in
set_option maxHeartbeats 1000000 in
theorem law_bad (A : Option Addr) (len cap : Nat) (sz wt : Int) (w : World) (h : sz < 1 ∨ 32 < sz ∨ wt < 0 ∨ 8 < wt) :
    Calls Try.prog 6 #[.int .i64 sz, .int .i64 wt, .slice A len cap] w fun e w' => e = .returned (.bool true) ∧ Below w.heap.size w w' := by
  have hnew := Lib.hid (new_bad sz wt w h)
  rcases (by omega : sz < 1 ∨ (1 ≤ sz ∧ 32 < sz) ∨ (1 ≤ sz ∧ sz ≤ 32 ∧ wt < 0) ∨ (1 ≤ sz ∧ sz ≤ 32 ∧ 0 ≤ wt ∧ 8 < wt)) with h | ⟨h0, h⟩ | ⟨h0, h1, h⟩ | ⟨h0, h1, h2, h⟩
  all_goals
    go_enter Try.func6, Try.ntmps6
    go_wp2_with fail
    refine hnew.out.mono ?_
    rintro e w' ⟨rfl, rfl⟩
    go_wp2_with fail
    refine (awake27_any _).mono ?_
    rintro e w2 ⟨rfl, hb2⟩
    go_wp2
    go_ret
    exact ⟨rfl, hb2⟩

set_option maxRecDepth 100000 in
set_option maxHeartbeats 1000000 in
theorem law_long (A : Option Addr) (len cap : Nat) (sz wt : Int) (w : World) (h0 : 1 ≤ sz) (h1 : sz ≤ 32) (h2 : 0 ≤ wt) (h3 : wt ≤ 8) (hl : 60 < len) (hm : len ≤ 9223372036854775807) :
    Calls Try.prog 6 #[.int .i64 sz, .int .i64 wt, .slice A len cap] w fun e w' => e = .returned (.bool true) ∧ Below w.heap.size w w' := by
  have hp : (60 : Int) < (len : Int) := by omega
  have hnew := Lib.hid (new_ok sz wt w h0 h1 h2 h3)
  go_enter Try.func6, Try.ntmps6
  go_wp2_with fail
  refine hnew.out.mono ?_
  rintro e w1 ⟨rfl, rfl⟩
  go_wp2_with fail
  refine (awake27_any _).mono ?_
  rintro e w2 ⟨rfl, hb2⟩
  have HB2 := Lib.hid (((Below.refl _ w).alloc (Nat.le_refl _) _).trans (hb2.mono (by simp)))
  clear hb2
  go_wp2
  go_ret
  exact ⟨rfl, HB2.out⟩

def LI (w : World) (sz wt : Int) (k : Nat) (W : World) : Prop := ∃ v u since ms, Both w W sz wt v u since ms ∧ ms.length ≤ k

set_option maxRecDepth 100000 in
set_option maxHeartbeats 4000000 in
theorem law_main (A : Option Addr) (len cap : Nat) (qs : List A9) (sz wt : Int) (w : World) (hr : RdA w A len qs) (h0 : 1 ≤ sz) (h1 : sz ≤ 32) (h2 : 0 ≤ wt) (h3 : wt ≤ 8) (hl : len ≤ 60) :
    Calls Try.prog 6 #[.int .i64 sz, .int .i64 wt, .slice A len cap] w fun e w' => e = .returned (.bool true) ∧ Below w.heap.size w w' := by
  have hp : ¬ (60 : Int) < (len : Int) := by omega
  have hp2 : (len : Int) ≤ 60 := by omega
  have hnew := Lib.hid (new_ok sz wt w h0 h1 h2 h3)
  have HR := Lib.hid hr
  clear hr
  go_enter Try.func6, Try.ntmps6
  go_wp2_with fail
  refine hnew.out.mono ?_
  rintro e w1 ⟨rfl, rfl⟩
  go_wp2
  have HI0 := Lib.hid (Both.new w sz wt)
  go_loopw [10] (fun i wr => ∃ k : Nat, i = .int .i64 (k : Int) ∧ k ≤ len ∧ LI w sz wt k wr) (fun i _ => len - (intOf i).toNat)
  case atStart => exact ⟨0, rfl, Nat.zero_le _, _, _, _, _, HI0.out, Nat.le_refl _⟩
  case round =>
    obtain ⟨k, rfl, hk, v, u, since, ms, hbo, hmk⟩ := hrel
    have HI := Lib.hid hbo
    clear hbo
    by_cases hlt : k < len
    · obtain ⟨b, off, rfl, has⟩ := HR.out.at HI.out.bel hlt
      have hwf := HR.out.2.1 (qs.getD k a90) (by rw [List.getD_eq_getElem?_getD, List.getElem?_eq_getElem (by rw [HR.out.1]; exact hlt)]; exact List.getElem_mem _)
      generalize qs.getD k a90 = a at has hwf
      obtain ⟨hk0, hk1, hn0, hn1⟩ := hwf
      have HAS := Lib.hid has
      obtain ⟨_, hbw, c0, c1, c2, c3, c4, c5, c6, c7, c8⟩ := has
      have hi0 : (0 : Int) ≤ (k : Int) := by omega
      have hkn : (k : Int) < (len : Int) := by omega
      have hbz : b < wr.heap.size := Nat.lt_of_lt_of_le hbw HI.out.bel.size
      have hrd : Rd (wr.alloc (.cells #[.int .i64 a.m.k, .int .i64 a.m.c, .int .i64 a.m.f, .int .u64 a.m.s, .int .u64 a.m.t, .string a.m.d, .string a.m.a] TM)) (some ⟨wr.heap.size, 0, none⟩) 1 [a.m] := new_rd (heap_alloc_new wr _) (by simp [mevs, M7.cells])
      have HRD := Lib.hid hrd
      clear hrd
      go_wp2_with fail
      refine (few27_any _ 1 1 [a.m] _ HRD.out (by decide)).mono ?_
      rintro e w1 ⟨fb, rfl, -, hbf⟩
      have hall : Below wr.heap.size wr w1 := ((Below.refl _ _).alloc (Nat.le_refl _) _).trans (hbf.mono (by simp))
      have HI1 := Lib.hid (HI.out.below hall)
      have HAS1 := Lib.hid (HAS.out.to (hall.mono HI.out.bel.size))
      clear hall hbf c0 c1 c2 c3 c4 c5 c6 c7 c8 hbz
      cases fb
      · go_wp2_with fail
        refine (awake27_any _).mono ?_
        rintro e w2 ⟨rfl, hb2⟩
        have HB2 := Lib.hid (HI1.out.bel.trans (hb2.mono HI1.out.bel.size))
        clear hb2
        go_wp2
        go_ret
        exact ⟨rfl, HB2.out⟩
      · obtain ⟨_, _, c0, c1, c2, c3, c4, c5, c6, c7, c8⟩ := HAS1.out
        by_cases hk3 : a.kd % 4 = 3
        · have hkA : (a.kd % 4 == 3) = true := by simpa using hk3
          have hkB : (a.kd.tmod 4 == 3) = true := by rw [Int.tmod_eq_emod_of_nonneg hk0]; exact hkA
          clear hk3
          go_wp2_with fail
          refine (clear_any HI1.out.b).mono ?_
          rintro e w2 ⟨rfl, hw2⟩
          have hq3 := HI1.out.q.cells.2.2.2
          have fq3 := HI1.out.q.free 3
          have hw2h := Lib.hid hw2
          have hq3' : w2.cell? ⟨w.heap.size + 1, 3, none⟩ = some u := by rw [hw2, World.cell?_setCell_far _ _ _ _ (by simp)]; exact hq3
          have fq3' : w2.frozen? ⟨w.heap.size + 1, 3, none⟩ = false := by rw [hw2]; simpa using fq3
          have HBW := Lib.hid (show Both w (w2.setCell ⟨w.heap.size + 1, 3, none⟩ (.slice none 0 0)) sz wt (.slice none 0 0) (.slice none 0 0) since [] ∧ Below w.heap.size w1 (w2.setCell ⟨w.heap.size + 1, 3, none⟩ (.slice none 0 0)) from by
            rw [hw2]
            exact ⟨HI1.out.wipes, ((Below.refl _ _).setCell (p := ⟨w.heap.size, 2, none⟩) (Nat.le_refl _) _).setCell (p := ⟨w.heap.size + 1, 3, none⟩) (Nat.le_succ _) _⟩)
          clear hw2 hq3 fq3 c0 c1 c2 c3 c4 c5 c6 c7 c8
          go_wp2
          generalize w2.setCell ⟨w.heap.size + 1, 3, none⟩ (.slice none 0 0) = W0 at HBW ⊢
          have HAS2 := Lib.hid (HAS1.out.to HBW.out.2)
          obtain ⟨v9, u9, ms9, HB9, hlk⟩ : ∃ v9 u9, ∃ ms9 : List M7, Both w W0 sz wt v9 u9 since ms9 ∧ ms9.length ≤ k + 1 := ⟨_, _, [], HBW.out.1, Nat.zero_le _⟩
          obtain ⟨n, hn⟩ : ∃ n, n = ms9.length := ⟨_, rfl⟩
          have HBo := Lib.hid HB9
          obtain ⟨Au, cu, hu⟩ := own_formN HBo.out.q.2.2
          subst hu
          have hq3 : W0.cell? ⟨w.heap.size + 1, 3, none⟩ = some (.slice Au n cu) := by rw [hn]; exact HBo.out.q.cells.2.2.2
          have hAQ : AQ w W0 b (off + k * 9) a (.slice Au n cu) W0 := ⟨Below.refl _ _, lt_blk HBo.out.q.2.1, hq3, HAS2.out⟩
          have hnl : n ≤ 60 := by omega
          obtain ⟨now2, hnow2⟩ : ∃ x, x = IntKind.u64.wrap (a.now + wt) := ⟨_, rfl⟩
          have hn2 : 0 ≤ now2 ∧ now2 < 18446744073709551616 := by rw [hnow2, IntKind.wrap_u64]; omega
          obtain ⟨d1, hd1⟩ : ∃ d, d = Msg.due sz wt since a.now ms9.length := ⟨_, rfl⟩
          obtain ⟨d2, hd2⟩ : ∃ d, d = Msg.due sz wt since now2 ms9.length := ⟨_, rfl⟩
          obtain ⟨d3, hd3⟩ : ∃ d, d = decide (place ms9 a.m ms9.length 0 ≠ -1) := ⟨_, rfl⟩
          have D1 : Hid (∀ W, Below W0.heap.size W0 W → Calls Try.prog 31 #[.pointer (some ⟨w.heap.size, 0, none⟩), .int .u64 a.now] W fun e w' => e = .returned (.bool d1) ∧ ∃ q, w' = W.drewN q) := Lib.hid fun W hb => by rw [hd1]; exact due_any (HBo.out.b.below hb) (by omega) (by omega) HBo.out.s0 HBo.out.s1 (by omega) (by omega)
          have D2 : Hid (∀ W, Below W0.heap.size W0 W → Calls Try.prog 31 #[.pointer (some ⟨w.heap.size, 0, none⟩), .int .u64 now2] W fun e w' => e = .returned (.bool d2) ∧ ∃ q, w' = W.drewN q) := Lib.hid fun W hb => by rw [hd2]; exact due_any (HBo.out.b.below hb) (by omega) (by omega) HBo.out.s0 HBo.out.s1 hn2.1 hn2.2
          have Q1 : Hid (∀ W, Below W0.heap.size W0 W → Calls Try.prog 32 #[.pointer (some ⟨w.heap.size + 1, 0, none⟩), .int .u64 a.now] W fun e w' => e = .returned (.bool d1) ∧ ∃ q, w' = W.drewN q) := Lib.hid fun W hb => by rw [hd1]; exact qdue_any (HBo.out.q.below hb) (by omega) (by omega) HBo.out.s0 HBo.out.s1 (by omega) (by omega)
          have Q2 : Hid (∀ W, Below W0.heap.size W0 W → Calls Try.prog 32 #[.pointer (some ⟨w.heap.size + 1, 0, none⟩), .int .u64 now2] W fun e w' => e = .returned (.bool d2) ∧ ∃ q, w' = W.drewN q) := Lib.hid fun W hb => by rw [hd2]; exact qdue_any (HBo.out.q.below hb) (by omega) (by omega) HBo.out.s0 HBo.out.s1 hn2.1 hn2.2
          have L1 : Hid (∀ W, Below W0.heap.size W0 W → Calls Try.prog 33 #[.pointer (some ⟨w.heap.size, 0, none⟩)] W fun e w' => e = .returned (.int .i64 (n : Int)) ∧ w' = W) := Lib.hid fun W hb => by rw [hn]; exact len_any (HBo.out.b.below hb)
          have H1 : Hid (∀ W, Below W0.heap.size W0 W → Calls Try.prog 34 #[.pointer (some ⟨w.heap.size, 0, none⟩), .agg #[.int .i64 a.m.k, .int .i64 a.m.c, .int .i64 a.m.f, .int .u64 a.m.s, .int .u64 a.m.t, .string a.m.d, .string a.m.a]] W fun e w' => e = .returned (.bool d3) ∧ Below W.heap.size W w') := Lib.hid fun W hb => by rw [hd3]; exact has_any (HBo.out.b.below hb) a.m (by omega)
          have H2 : Hid (∀ W, Below W0.heap.size W0 W → Calls Try.prog 35 #[.pointer (some ⟨w.heap.size + 1, 0, none⟩), .agg #[.int .i64 a.m.k, .int .i64 a.m.c, .int .i64 a.m.f, .int .u64 a.m.s, .int .u64 a.m.t, .string a.m.d, .string a.m.a]] W fun e w' => e = .returned (.bool d3) ∧ Below W.heap.size W w') := Lib.hid fun W hb => by rw [hd3]; exact qhas_any (HBo.out.q.below hb) a.m (by omega)
          have hsum : IntKind.u64.wrap (a.now + wt) = now2 := hnow2.symm
          have hww : IntKind.u64.wrap wt = wt := wrap_u64 (by omega) (by omega)
          have HNN := Lib.hid (And.intro hn hlk)
          clear hnow2 hd1 hd2 hd3 hn hlk hq3 hn2
          go_wp2
          simp only [List.append_eq, List.cons_append, List.nil_append]
          go_region_held3 (fun W => Below W0.heap.size W0 W ∧ w.heap.size + 1 < W0.heap.size ∧ W.cell? ⟨w.heap.size + 1, 3, none⟩ = some (.slice Au n cu) ∧ (Below w.heap.size w W ∧ b < w.heap.size ∧ W.cell? ⟨b, off + k * 9, none⟩ = some (.int .u8 a.kd) ∧ W.cell? ⟨b, off + k * 9 + 1, none⟩ = some (.int .i64 a.m.k) ∧ W.cell? ⟨b, off + k * 9 + 2, none⟩ = some (.int .i64 a.m.c) ∧ W.cell? ⟨b, off + k * 9 + 3, none⟩ = some (.int .i64 a.m.f) ∧ W.cell? ⟨b, off + k * 9 + 4, none⟩ = some (.int .u64 a.m.s) ∧ W.cell? ⟨b, off + k * 9 + 5, none⟩ = some (.int .u64 a.m.t) ∧ W.cell? ⟨b, off + k * 9 + 6, none⟩ = some (.string a.m.d) ∧ W.cell? ⟨b, off + k * 9 + 7, none⟩ = some (.string a.m.a) ∧ W.cell? ⟨b, off + k * 9 + 8, none⟩ = some (.int .u64 a.now)))
            (first | assumption | exact hAQ | exact AQ.drew hAQ | exact AQ.drewN (by assumption) _ | exact AQ.drewN hAQ _ | exact AQ.drewN (AQ.drew hAQ) _ | exact AQ.call (by assumption) hbH | exact AQ.call (by assumption) hbQ)
            (first
              | (go_at_call 31; ((with_reducible refine (D1.out _ (And.left (by assumption))).mono ?_); rintro e w1 ⟨rfl, q1, rfl⟩))
              | (go_at_call 31; ((with_reducible refine (D2.out _ (And.left (by assumption))).mono ?_); rintro e w1 ⟨rfl, q1, rfl⟩))
              | (go_at_call 32; ((with_reducible refine (Q1.out _ (And.left (by assumption))).mono ?_); rintro e w1 ⟨rfl, q1, rfl⟩))
              | (go_at_call 32; ((with_reducible refine (Q2.out _ (And.left (by assumption))).mono ?_); rintro e w1 ⟨rfl, q1, rfl⟩))
              | (go_at_call 33; ((with_reducible refine (L1.out _ (And.left (by assumption))).mono ?_); rintro e w1 ⟨rfl, rfl⟩))
              | (go_at_call 34; ((with_reducible refine (H1.out _ (And.left (by assumption))).mono ?_); rintro e wH ⟨rfl, hbH⟩))
              | (go_at_call 35; ((with_reducible refine (H2.out _ (And.left (by assumption))).mono ?_); rintro e wQ ⟨rfl, hbQ⟩)))
          go_wp2
          obtain ⟨hBF, _⟩ : Below W0.heap.size W0 wQ ∧ w.heap.size + 1 < W0.heap.size ∧ wQ.cell? ⟨w.heap.size + 1, 3, none⟩ = some (.slice Au n cu) ∧ _ := by assumption
          go_roundw
          case rel => exact ⟨k + 1, by go_num, by omega, _, _, _, _, HBo.out.below hBF, HNN.out.2⟩
          case measure => simp [intOf]; omega
        · have hkA : (a.kd % 4 == 3) = false := by simpa using hk3
          have hkB : (a.kd.tmod 4 == 3) = false := by rw [Int.tmod_eq_emod_of_nonneg hk0]; exact hkA
          clear hk3
          have hm60 : ms.length ≤ 1000000 := by omega
          have HA := Lib.hid (add_any (w := w1.drew) (show Bt w1.drew w.heap.size w.heap.size sz wt v since ms from HI1.out.b) a.m a.now hm60)
          go_wp2
          go_region_held3 (fun W => Below w.heap.size w W ∧ b < w.heap.size ∧ W.cell? ⟨b, off + k * 9, none⟩ = some (.int .u8 a.kd) ∧ W.cell? ⟨b, off + k * 9 + 1, none⟩ = some (.int .i64 a.m.k) ∧ W.cell? ⟨b, off + k * 9 + 2, none⟩ = some (.int .i64 a.m.c) ∧ W.cell? ⟨b, off + k * 9 + 3, none⟩ = some (.int .i64 a.m.f) ∧ W.cell? ⟨b, off + k * 9 + 4, none⟩ = some (.int .u64 a.m.s) ∧ W.cell? ⟨b, off + k * 9 + 5, none⟩ = some (.int .u64 a.m.t) ∧ W.cell? ⟨b, off + k * 9 + 6, none⟩ = some (.string a.m.d) ∧ W.cell? ⟨b, off + k * 9 + 7, none⟩ = some (.string a.m.a) ∧ W.cell? ⟨b, off + k * 9 + 8, none⟩ = some (.int .u64 a.now))
            (first | assumption | exact HAS1.out | exact AS.drew HAS1.out | exact AS.to (by assumption) hl2 | exact AS.to (AS.drew HAS1.out) hl2 | exact AS.to (by assumption) hl3)
            (first
              | (go_at_call 29; ((with_reducible refine HA.out.mono ?_); rintro e w2 ⟨rfl, v2, hb2, hf2, hn2, hl2⟩; have HQA := Lib.hid (qadd_any (HI1.out.q.kept HI1.out.b (by omega) HI1.out.ap.symm (show Fr w.heap.size v.ownBlock w1 w2 from hf2)) a.m a.now hm60)))
              | (go_at_call 30; ((with_reducible refine HQA.out.mono ?_); rintro e W0 ⟨rfl, u2, hq3, hf3, hn3, hl3⟩)))
          obtain ⟨ms1, hlk, since1, hbo2⟩ : ∃ ms1 : List M7, ms1.length ≤ k + 1 ∧ ∃ since1, Both w W0 sz wt v2 u2 since1 ms1 := ⟨_, Nat.le_trans (addMs_len sz ms a.m) (by omega), _, Both.adds HI1.out hn0 hn1 (show Fr w.heap.size v.ownBlock w1 w2 from hf2) (show New w1 v.ownBlock v2.ownBlock from hn2) (show Below w.heap.size w1 w2 from ((Below.refl _ w1).drew).trans hl2) hb2 hq3 hf3 hn3 hl3⟩
          have HAS2 := Lib.hid (HAS1.out.to (show Below w.heap.size w1 W0 from (((Below.refl _ w1).drew).trans hl2).trans hl3))
          clear hb2 hf2 hn2 hl2 hq3 hf3 hn3 hl3 c0 c1 c2 c3 c4 c5 c6 c7 c8
          obtain ⟨n, hn⟩ : ∃ n, n = ms1.length := ⟨_, rfl⟩
          have HBo := Lib.hid hbo2
          obtain ⟨Au, cu, hu⟩ := own_formN HBo.out.q.2.2
          subst hu
          have hq3 : W0.cell? ⟨w.heap.size + 1, 3, none⟩ = some (.slice Au n cu) := by rw [hn]; exact HBo.out.q.cells.2.2.2
          have hAQ : AQ w W0 b (off + k * 9) a (.slice Au n cu) W0 := ⟨Below.refl _ _, lt_blk HBo.out.q.2.1, hq3, HAS2.out⟩
          have hnl : n ≤ 60 := by omega
          obtain ⟨now2, hnow2⟩ : ∃ x, x = IntKind.u64.wrap (a.now + wt) := ⟨_, rfl⟩
          have hn2 : 0 ≤ now2 ∧ now2 < 18446744073709551616 := by rw [hnow2, IntKind.wrap_u64]; omega
          obtain ⟨d1, hd1⟩ : ∃ d, d = Msg.due sz wt since1 a.now ms1.length := ⟨_, rfl⟩
          obtain ⟨d2, hd2⟩ : ∃ d, d = Msg.due sz wt since1 now2 ms1.length := ⟨_, rfl⟩
          obtain ⟨d3, hd3⟩ : ∃ d, d = decide (place ms1 a.m ms1.length 0 ≠ -1) := ⟨_, rfl⟩
          have D1 : Hid (∀ W, Below W0.heap.size W0 W → Calls Try.prog 31 #[.pointer (some ⟨w.heap.size, 0, none⟩), .int .u64 a.now] W fun e w' => e = .returned (.bool d1) ∧ ∃ q, w' = W.drewN q) := Lib.hid fun W hb => by rw [hd1]; exact due_any (HBo.out.b.below hb) (by omega) (by omega) HBo.out.s0 HBo.out.s1 (by omega) (by omega)
          have D2 : Hid (∀ W, Below W0.heap.size W0 W → Calls Try.prog 31 #[.pointer (some ⟨w.heap.size, 0, none⟩), .int .u64 now2] W fun e w' => e = .returned (.bool d2) ∧ ∃ q, w' = W.drewN q) := Lib.hid fun W hb => by rw [hd2]; exact due_any (HBo.out.b.below hb) (by omega) (by omega) HBo.out.s0 HBo.out.s1 hn2.1 hn2.2
          have Q1 : Hid (∀ W, Below W0.heap.size W0 W → Calls Try.prog 32 #[.pointer (some ⟨w.heap.size + 1, 0, none⟩), .int .u64 a.now] W fun e w' => e = .returned (.bool d1) ∧ ∃ q, w' = W.drewN q) := Lib.hid fun W hb => by rw [hd1]; exact qdue_any (HBo.out.q.below hb) (by omega) (by omega) HBo.out.s0 HBo.out.s1 (by omega) (by omega)
          have Q2 : Hid (∀ W, Below W0.heap.size W0 W → Calls Try.prog 32 #[.pointer (some ⟨w.heap.size + 1, 0, none⟩), .int .u64 now2] W fun e w' => e = .returned (.bool d2) ∧ ∃ q, w' = W.drewN q) := Lib.hid fun W hb => by rw [hd2]; exact qdue_any (HBo.out.q.below hb) (by omega) (by omega) HBo.out.s0 HBo.out.s1 hn2.1 hn2.2
          have L1 : Hid (∀ W, Below W0.heap.size W0 W → Calls Try.prog 33 #[.pointer (some ⟨w.heap.size, 0, none⟩)] W fun e w' => e = .returned (.int .i64 (n : Int)) ∧ w' = W) := Lib.hid fun W hb => by rw [hn]; exact len_any (HBo.out.b.below hb)
          have H1 : Hid (∀ W, Below W0.heap.size W0 W → Calls Try.prog 34 #[.pointer (some ⟨w.heap.size, 0, none⟩), .agg #[.int .i64 a.m.k, .int .i64 a.m.c, .int .i64 a.m.f, .int .u64 a.m.s, .int .u64 a.m.t, .string a.m.d, .string a.m.a]] W fun e w' => e = .returned (.bool d3) ∧ Below W.heap.size W w') := Lib.hid fun W hb => by rw [hd3]; exact has_any (HBo.out.b.below hb) a.m (by omega)
          have H2 : Hid (∀ W, Below W0.heap.size W0 W → Calls Try.prog 35 #[.pointer (some ⟨w.heap.size + 1, 0, none⟩), .agg #[.int .i64 a.m.k, .int .i64 a.m.c, .int .i64 a.m.f, .int .u64 a.m.s, .int .u64 a.m.t, .string a.m.d, .string a.m.a]] W fun e w' => e = .returned (.bool d3) ∧ Below W.heap.size W w') := Lib.hid fun W hb => by rw [hd3]; exact qhas_any (HBo.out.q.below hb) a.m (by omega)
          have hsum : IntKind.u64.wrap (a.now + wt) = now2 := hnow2.symm
          have hww : IntKind.u64.wrap wt = wt := wrap_u64 (by omega) (by omega)
          have HNN := Lib.hid (And.intro hn hlk)
          clear hnow2 hd1 hd2 hd3 hn hlk hq3 hn2
          go_wp2
          simp only [List.append_eq, List.cons_append, List.nil_append]
          go_region_held3 (fun W => Below W0.heap.size W0 W ∧ w.heap.size + 1 < W0.heap.size ∧ W.cell? ⟨w.heap.size + 1, 3, none⟩ = some (.slice Au n cu) ∧ (Below w.heap.size w W ∧ b < w.heap.size ∧ W.cell? ⟨b, off + k * 9, none⟩ = some (.int .u8 a.kd) ∧ W.cell? ⟨b, off + k * 9 + 1, none⟩ = some (.int .i64 a.m.k) ∧ W.cell? ⟨b, off + k * 9 + 2, none⟩ = some (.int .i64 a.m.c) ∧ W.cell? ⟨b, off + k * 9 + 3, none⟩ = some (.int .i64 a.m.f) ∧ W.cell? ⟨b, off + k * 9 + 4, none⟩ = some (.int .u64 a.m.s) ∧ W.cell? ⟨b, off + k * 9 + 5, none⟩ = some (.int .u64 a.m.t) ∧ W.cell? ⟨b, off + k * 9 + 6, none⟩ = some (.string a.m.d) ∧ W.cell? ⟨b, off + k * 9 + 7, none⟩ = some (.string a.m.a) ∧ W.cell? ⟨b, off + k * 9 + 8, none⟩ = some (.int .u64 a.now)))
            (first | assumption | exact hAQ | exact AQ.drew hAQ | exact AQ.drewN (by assumption) _ | exact AQ.drewN hAQ _ | exact AQ.drewN (AQ.drew hAQ) _ | exact AQ.call (by assumption) hbH | exact AQ.call (by assumption) hbQ)
            (first
              | (go_at_call 31; ((with_reducible refine (D1.out _ (And.left (by assumption))).mono ?_); rintro e w1 ⟨rfl, q1, rfl⟩))
              | (go_at_call 31; ((with_reducible refine (D2.out _ (And.left (by assumption))).mono ?_); rintro e w1 ⟨rfl, q1, rfl⟩))
              | (go_at_call 32; ((with_reducible refine (Q1.out _ (And.left (by assumption))).mono ?_); rintro e w1 ⟨rfl, q1, rfl⟩))
              | (go_at_call 32; ((with_reducible refine (Q2.out _ (And.left (by assumption))).mono ?_); rintro e w1 ⟨rfl, q1, rfl⟩))
              | (go_at_call 33; ((with_reducible refine (L1.out _ (And.left (by assumption))).mono ?_); rintro e w1 ⟨rfl, rfl⟩))
              | (go_at_call 34; ((with_reducible refine (H1.out _ (And.left (by assumption))).mono ?_); rintro e wH ⟨rfl, hbH⟩))
              | (go_at_call 35; ((with_reducible refine (H2.out _ (And.left (by assumption))).mono ?_); rintro e wQ ⟨rfl, hbQ⟩)))
          go_wp2
          obtain ⟨hBF, _⟩ : Below W0.heap.size W0 wQ ∧ w.heap.size + 1 < W0.heap.size ∧ wQ.cell? ⟨w.heap.size + 1, 3, none⟩ = some (.slice Au n cu) ∧ _ := by assumption
          go_roundw
          case rel => exact ⟨k + 1, by go_num, by omega, _, _, _, _, HBo.out.below hBF, HNN.out.2⟩
          case measure => simp [intOf]; omega
    · obtain rfl : k = len := by omega
      obtain ⟨n, hn⟩ : ∃ n, n = ms.length := ⟨_, rfl⟩
      have hn60 : n ≤ 60 := by omega
      have HN := Lib.hid hn
      clear hn
      go_wp2_with fail
      refine (nclear _).mono ?_
      rintro e w' ⟨rfl, hw'⟩
      obtain rfl := hw'.symm
      go_wp2_with fail
      refine (nadd xT 0 _).mono ?_
      rintro e w2 ⟨rfl, hb2⟩
      have HI2 := Lib.hid (HI.out.below hb2)
      clear hb2
      go_wp2_with fail
      refine (ndue 9 _).mono ?_
      rintro e w' ⟨rfl, hw'⟩
      obtain rfl := hw'.symm
      go_wp2_with fail
      refine (nlen _).mono ?_
      rintro e w' ⟨rfl, hw'⟩
      obtain rfl := hw'.symm
      go_wp2_with fail
      refine (nhas ⟨0, 0, 0, 0, 0, ⟨#[]⟩, ⟨#[]⟩⟩ _).mono ?_
      rintro e wf ⟨rfl, hb3⟩
      have HI3 := Lib.hid (HI2.out.below hb3)
      clear hb3
      go_wp2_with fail
      refine (nall _).mono ?_
      rintro e w' ⟨rfl, hw'⟩
      obtain rfl := hw'.symm
      obtain ⟨Au, cu, hu⟩ := own_formN HI3.out.q.2.2
      subst hu
      have hAR : AR w wf (.slice Au n cu) wf := ⟨Below.refl _ _, lt_blk HI3.out.q.2.1, by rw [HN.out]; exact HI3.out.q.cells.2.2.2⟩
      have AL : Hid (∀ W, Below wf.heap.size wf W → Calls Try.prog 36 #[.pointer (some ⟨w.heap.size, 0, none⟩)] W fun e w' => (∃ u, e = .returned u ∧ w'.ownsRow W.heap.size TM 7 u n (mevs ms)) ∧ Below W.heap.size W w') := Lib.hid fun W hb => by rw [HN.out]; exact all_any (HI3.out.b.below hb) (by have := HN.out; omega)
      have HQ := Lib.hid (fun W (hb : Below wf.heap.size wf W) => row_at (ms := ms) (own_belowN HI3.out.q.2.2 hb (Nat.le_refl _)) rfl)
      go_wp2
      go_region_held3 (fun W => Below wf.heap.size wf W ∧ w.heap.size + 1 < wf.heap.size ∧ W.cell? ⟨w.heap.size + 1, 3, none⟩ = some (.slice Au n cu))
        (first | assumption | exact hAR | exact AR.drew hAR | exact AR.call (by assumption) hbA | exact AR.call (AR.drew hAR) hbA | exact AR.call hAR hbA | exact AR.call (by assumption) hbL | exact AR.call (by assumption) hbS)
        (first
          | (go_at_call 26; ((with_reducible refine (awake27_any _).mono ?_); rintro e wA ⟨rfl, hbA⟩))
          | (go_at_call 36; ((with_reducible refine (AL.out _ (And.left (by assumption))).mono ?_); rintro e wL ⟨⟨uL, rfl, hoL⟩, hbL⟩; obtain ⟨AL2, cL, rfl⟩ := own_formN hoL))
          | (go_at_call 37; ((with_reducible refine (same_msgs AL2 Au n cL cu ms _ (by omega) (row_at hoL HN.out.symm) (by have h9 := HQ.out _ (And.left (by assumption)); rw [← HN.out] at h9; exact h9)).mono ?_); rintro e wS ⟨rfl, hbS⟩)))
      go_wp2
      go_ret
      obtain ⟨hBF, _⟩ : Below wf.heap.size wf wS ∧ w.heap.size + 1 < wf.heap.size ∧ wS.cell? ⟨w.heap.size + 1, 3, none⟩ = some (.slice Au n cu) := by assumption
      exact ⟨rfl, HI3.out.bel.trans (hBF.mono HI3.out.bel.size)⟩
end Go.Proofs.Ytjjomlideieofaa.batchPlays
