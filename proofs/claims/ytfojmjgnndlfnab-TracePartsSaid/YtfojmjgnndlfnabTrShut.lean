/- trace.shut. -/
import Derived.Test.YtfojmjgnndlfnabTrParts
namespace Go.Proofs.Ytfojmjgnndlfnab.Tr
open Go Go.RowKit
set_option linter.unusedVariables false

set_option maxRecDepth 20000 in
set_option maxHeartbeats 4000000 in
theorem shut_any (x : Mk) {w : World} {O A : Option Addr} {on ocap n cap q : Nat} {ord : Nat → Bool} {f : Nat → Mk} (hC : Cx w O on ord A n f) (hq : w.heap[q]? = some (.cells #[.slice A n cap] TMs (0, 0))) (hch : 0 ≤ x.c ∧ x.c < (on : Int)) :
    Calls Try.prog 13 #[.slice O on ocap, .slice A n cap, .agg #[.int .i64 x.sd, .int .i64 x.k, .int .u64 x.h, .int .i64 x.c, .int .i64 x.f, .int .u64 x.s, .int .u64 x.t, .string x.d, .string x.a], .func (.func 10) #[] #[.pointer (some ⟨q, 0, none⟩)]] w fun e w' => e = .returned (.bool (shutB ord f n x)) ∧ Below w.heap.size w w' := by
  have g0 := al_of (o' := .cells #[.int .i64 x.c, .int .i64 x.f, .int .u64 x.s, .int .u64 x.t, .string x.d] TPk) (heap_alloc_new w (.cells #[.int .i64 x.sd, .int .i64 x.k, .int .u64 x.h, .int .i64 x.c, .int .i64 x.f, .int .u64 x.s, .int .u64 x.t, .string x.d, .string x.a] TMk))
  have g1 := heap_alloc_new (w.alloc (.cells #[.int .i64 x.sd, .int .i64 x.k, .int .u64 x.h, .int .i64 x.c, .int .i64 x.f, .int .u64 x.s, .int .u64 x.t, .string x.d, .string x.a] TMk)) (.cells #[.int .i64 x.c, .int .i64 x.f, .int .u64 x.s, .int .u64 x.t, .string x.d] TPk)
  rw [show (w.alloc (.cells #[.int .i64 x.sd, .int .i64 x.k, .int .u64 x.h, .int .i64 x.c, .int .i64 x.f, .int .u64 x.s, .int .u64 x.t, .string x.d, .string x.a] TMk)).heap.size = w.heap.size + 1 by simp] at g1
  have gq := al_of (o' := .cells #[.int .i64 x.c, .int .i64 x.f, .int .u64 x.s, .int .u64 x.t, .string x.d] TPk) (al_of (o' := .cells #[.int .i64 x.sd, .int .i64 x.k, .int .u64 x.h, .int .i64 x.c, .int .i64 x.f, .int .u64 x.s, .int .u64 x.t, .string x.d, .string x.a] TMk) hq)
  have gb : Below w.heap.size w ((w.alloc (.cells #[.int .i64 x.sd, .int .i64 x.k, .int .u64 x.h, .int .i64 x.c, .int .i64 x.f, .int .u64 x.s, .int .u64 x.t, .string x.d, .string x.a] TMk)).alloc (.cells #[.int .i64 x.c, .int .i64 x.f, .int .u64 x.s, .int .u64 x.t, .string x.d] TPk)) := ((Below.refl _ _).alloc (Nat.le_refl _) _).alloc (by simp) _
  obtain ⟨w0, hw0⟩ : ∃ X, X = (w.alloc (.cells #[.int .i64 x.sd, .int .i64 x.k, .int .u64 x.h, .int .i64 x.c, .int .i64 x.f, .int .u64 x.s, .int .u64 x.t, .string x.d, .string x.a] TMk)).alloc (.cells #[.int .i64 x.c, .int .i64 x.f, .int .u64 x.s, .int .u64 x.t, .string x.d] TPk) := ⟨_, rfl⟩
  rw [← hw0] at g0 g1 gq gb
  have H0 := Lib.hid (And.intro g0 (And.intro g1 (And.intro gq gb)))
  clear g0 g1 gq gb hq
  have HSB : Hid (shutB ord f n x = if x.k = 5 then (if ord x.c.toNat then (if n = 0 then true else lastB (f (n - 1)) x) else true) else decide (0 < cn (pShut x) f n)) := Lib.hid rfl
  generalize shutB ord f n x = r at HSB ⊢
  have p := fun i => cell_of_row w0 w.heap.size i _ _ (0, 0) H0.out.1
  have p0 := p 0; have p1 := p 1; have p2 := p 2; have p3 := p 3; have p4 := p 4; have p5 := p 5; have p6 := p 6; have p7 := p 7; have p8 := p 8
  have z := fun i => cell_of_row w0 (w.heap.size + 1) i _ _ (0, 0) H0.out.2.1
  have z0 := z 0; have z1 := z 1; have z2 := z 2; have z3 := z 3; have z4 := z 4
  clear p z
  by_cases hk : x.k = 5
  · have HK := Lib.hid hk
    have hr0 : Hid (r = (if ord x.c.toNat then (if n = 0 then true else lastB (f (n - 1)) x) else true)) := Lib.hid (by rw [HSB.out, if_pos hk])
    obtain ⟨ob, oo, rfl, hob, hO⟩ := hC.o (by omega)
    obtain ⟨ch, hx⟩ : ∃ ch : Nat, x.c = (ch : Int) := ⟨x.c.toNat, by omega⟩
    have hch1 : ch < on := by omega
    have hbo := (H0.out.2.2.2.cell (p := ⟨ob, oo + ch, none⟩) hob).trans (hO ch hch1)
    have hno : (on : Int) ≤ 1000 := by have := hC.hon; omega
    have hnn : (n : Int) ≤ 1000 := by have := hC.hn; omega
    rw [show x.c.toNat = ch by omega] at hr0
    obtain ⟨oc, hoc⟩ : ∃ oc, oc = ord ch := ⟨_, rfl⟩
    rw [← hoc] at hbo hr0
    clear HSB hO hoc hch
    have hc0 : (0 : Int) ≤ (ch : Int) := by omega
    have hc1 : (ch : Int) < (on : Int) := by omega
    have HXC := Lib.hid hx
    go_enter Try.func13, Try.ntmps13
    go_upto_region 2 with fail
    (try rw [HXC.out, HK.out] at hw0)
    rw [← hw0]
    clear hw0
    cases oc with
    | false =>
      go_wp2
      go_ret
      exact ⟨by rw [hr0.out]; rfl, H0.out.2.2.2⟩
    | true =>
      by_cases hn0 : n = 0
      · subst hn0
        go_wp2
        go_ret
        exact ⟨by rw [hr0.out]; rfl, H0.out.2.2.2⟩
      · obtain ⟨b, off, rfl, hb, hA⟩ := hC.r (by omega)
        obtain ⟨l, hl⟩ : ∃ l, n = l + 1 := ⟨n - 1, by omega⟩
        subst hl
        obtain ⟨c0, c1, c2, c3, c4, c5, c6, c7, c8⟩ := (hA l (by omega)).below H0.out.2.2.2 hb
        have hlb : Hid (r = lastB (f l) x) := Lib.hid (by rw [hr0.out]; simp)
        obtain ⟨m, hm⟩ : ∃ m, m = f l := ⟨_, rfl⟩
        rw [← hm] at c0 c1 c2 c3 c4 c5 c6 c7 c8 hlb
        have e1 : ((l + 1 : Nat) : Int) - 1 = (l : Int) := by omega
        have hl0 : (0 : Int) ≤ (l : Int) := by omega
        have hl1 : (l : Int) < ((l + 1 : Nat) : Int) := by omega
        have HLB : Hid (lastB m x = (!decide (m.k = 4) || !(decide (m.c = x.c) && decide (m.f = x.f) && decide (m.s = x.s) && decide (m.t = x.t) && decide (m.d.toList = x.d.toList)) || !decide (m.sd = x.sd))) := Lib.hid rfl
        have hwb := lt_of H0.out.2.1
        have hwc := lt_of H0.out.1
        have hbw : b < w0.heap.size := Nat.lt_of_lt_of_le hb H0.out.2.2.2.size
        clear hm hA hr0
        generalize hgl : l + 1 = n at *
        rcases Decidable.em (m.d.toList = x.d.toList) with hdd | hdd
        all_goals go_wp2
        all_goals
          go_ret
          exact ⟨by rw [hlb.out, HLB.out]; first | rfl | (simp [*]; done) | (simp [*]; rfl), H0.out.2.2.2.alloc H0.out.2.2.2.size _⟩
  · have hr0 : Hid (r = decide (0 < cn (pShut x) f n)) := Lib.hid (by rw [HSB.out, if_neg hk])
    have HCn := Lib.hid (count_shut (P1 := pShut x) H0.out.2.2.1 (hC.r.below H0.out.2.2.2) hC.hn (fun m V k => fit_shut x m ((k.block _ (lt_of H0.out.2.1)).trans H0.out.2.1) ((k.block _ (lt_of H0.out.1)).trans H0.out.1)))
    obtain ⟨c, hc⟩ : ∃ c, c = cn (pShut x) f n := ⟨_, rfl⟩
    rw [← hc] at HCn hr0
    clear hc hC HSB
    go_enter Try.func13, Try.ntmps13
    go_upto_region 2 with fail
    rw [← hw0]
    clear hw0
    go_wp2_with fail
    refine HCn.out.mono ?_
    rintro _ w1 ⟨rfl, b1⟩
    have HB := Lib.hid (H0.out.2.2.2.trans (b1.mono H0.out.2.2.2.size))
    clear b1 H0 HCn p0 p1 p2 p3 p4 p5 p6 p7 p8 z0 z1 z2 z3 z4
    by_cases h0 : 0 < c
    · have h1 : (0 : Int) < (c : Int) := by omega
      go_wp2
      go_ret
      exact ⟨by rw [hr0.out, decide_eq_true h0]; first | rfl | (simp; omega), HB.out⟩
    · have h1 : ¬ (0 : Int) < (c : Int) := by omega
      have h2 : decide ((0 : Int) < (c : Int)) = false := decide_eq_false h1
      go_wp2
      go_ret
      exact ⟨by rw [hr0.out, decide_eq_false h0]; first | rfl | (simp; omega), HB.out⟩
end Go.Proofs.Ytfojmjgnndlfnab.Tr
