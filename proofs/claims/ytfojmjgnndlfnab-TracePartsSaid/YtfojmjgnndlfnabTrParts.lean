/- trace.Wrong: next, unsent, shut. -/
import Derived.Test.YtfojmjgnndlfnabTrCount
namespace Go.Proofs.Ytfojmjgnndlfnab.Tr
open Go Go.RowKit
set_option linter.unusedVariables false

/-- a slice that reads as Booleans -/
def Bo (w : World) (O : Option Addr) (on : Nat) (ord : Nat → Bool) : Prop := 0 < on → ∃ b off, O = some ⟨b, off, none⟩ ∧ b < w.heap.size ∧ ∀ i, i < on → w.cell? ⟨b, off + i, none⟩ = some (.bool (ord i))
theorem Bo.below {w V : World} {O : Option Addr} {on : Nat} {ord : Nat → Bool} (h : Bo w O on ord) (k : Below w.heap.size w V) : Bo V O on ord := fun hn => by
  obtain ⟨b, off, h1, h2, h3⟩ := h hn
  exact ⟨b, off, h1, Nat.lt_of_lt_of_le h2 k.size, fun i hi => (k.cell (p := ⟨b, off + i, none⟩) h2).trans (h3 i hi)⟩
structure Cx (w : World) (O : Option Addr) (on : Nat) (ord : Nat → Bool) (A : Option Addr) (n : Nat) (f : Nat → Mk) : Prop where
  o : Bo w O on ord
  r : Rd w A n f
  hn : n ≤ 1000
  hon : on ≤ 1000
theorem Cx.below {w V : World} {O A : Option Addr} {on n : Nat} {ord : Nat → Bool} {f : Nat → Mk} (h : Cx w O on ord A n f) (k : Below w.heap.size w V) : Cx V O on ord A n f := ⟨h.o.below k, h.r.below k, h.hn, h.hon⟩
def formedB (on : Nat) (x : Mk) : Bool := (decide (x.sd = 0) || decide (x.sd = 1)) && eright x && decide (x.c < (on : Int))
def misB (x : Mk) : Bool := decide (x.k = 2) == decide (x.f = x.sd)
def nxN (f : Nat → Mk) (n : Nat) (x : Mk) : Nat := cn (pNext x) f n + 1
def lastB (m x : Mk) : Bool := !decide (m.k = 4) || !same m x || !decide (m.sd = x.sd)
def shutB (ord : Nat → Bool) (f : Nat → Mk) (n : Nat) (x : Mk) : Bool := if x.k = 5 then (if ord x.c.toNat then (if n = 0 then true else lastB (f (n - 1)) x) else true) else decide (0 < cn (pShut x) f n)
def recI (ord : Nat → Bool) (f : Nat → Mk) (n : Nat) (x : Mk) : Int :=
  if cn (pSent x) f n = 0 then 5 else if 0 < cn (pOf [2] x) f n then 6 else if 0 < cn (pOf [4] x) f n then 7 else if 0 < x.t ∧ x.t ≤ x.h then 8
  else if ord x.c.toNat = true ∧ ¬ x.s = (nxN f n x : Int) then 9 else 0
def tolI (ord : Nat → Bool) (f : Nat → Mk) (n : Nat) (x : Mk) : Int :=
  if cn (pSent x) f n = 0 then 5 else if x.k = 5 then 0 else if 0 < cn (pOf [3, 4] x) f n then 6 else if x.k = 4 then (if 0 < cn (pOf [2] x) f n then 7 else 0)
  else if ord x.c.toNat = true ∧ ¬ x.s = (nxN f n x : Int) then 9 else if cn (pAck x) f n = 0 then 10 else 0
def wrongF (ord : Nat → Bool) (on : Nat) (f : Nat → Mk) (n : Nat) (x : Mk) : Int :=
  if formedB on x = false then 1 else if misB x = true then 2 else if shutB ord f n x = true then 3 else if x.k = 1 then (if x.s = (nxN f n x : Int) then 0 else 4)
  else if x.k = 2 then recI ord f n x else tolI ord f n x

set_option maxHeartbeats 1000000 in
theorem next_any (x : Mk) {w : World} {O A : Option Addr} {on ocap n cap q : Nat} {ord : Nat → Bool} {f : Nat → Mk} (hC : Cx w O on ord A n f) (hq : w.heap[q]? = some (.cells #[.slice A n cap] TMs (0, 0))) :
    Calls Try.prog 14 #[.agg #[.int .i64 x.sd, .int .i64 x.k, .int .u64 x.h, .int .i64 x.c, .int .i64 x.f, .int .u64 x.s, .int .u64 x.t, .string x.d, .string x.a], .func (.func 10) #[] #[.pointer (some ⟨q, 0, none⟩)]] w fun e w' => e = .returned (.int .u64 (nxN f n x : Nat)) ∧ Below w.heap.size w w' := by
  have g0 := al_of (o' := .cells #[.int .i64 x.c, .int .i64 x.f, .int .u64 x.s, .int .u64 x.t, .string x.d] TPk) (heap_alloc_new w (.cells #[.int .i64 x.sd, .int .i64 x.k, .int .u64 x.h, .int .i64 x.c, .int .i64 x.f, .int .u64 x.s, .int .u64 x.t, .string x.d, .string x.a] TMk))
  have g1 := heap_alloc_new (w.alloc (.cells #[.int .i64 x.sd, .int .i64 x.k, .int .u64 x.h, .int .i64 x.c, .int .i64 x.f, .int .u64 x.s, .int .u64 x.t, .string x.d, .string x.a] TMk)) (.cells #[.int .i64 x.c, .int .i64 x.f, .int .u64 x.s, .int .u64 x.t, .string x.d] TPk)
  rw [show (w.alloc (.cells #[.int .i64 x.sd, .int .i64 x.k, .int .u64 x.h, .int .i64 x.c, .int .i64 x.f, .int .u64 x.s, .int .u64 x.t, .string x.d, .string x.a] TMk)).heap.size = w.heap.size + 1 by simp] at g1
  have gq := al_of (o' := .cells #[.int .i64 x.c, .int .i64 x.f, .int .u64 x.s, .int .u64 x.t, .string x.d] TPk) (al_of (o' := .cells #[.int .i64 x.sd, .int .i64 x.k, .int .u64 x.h, .int .i64 x.c, .int .i64 x.f, .int .u64 x.s, .int .u64 x.t, .string x.d, .string x.a] TMk) hq)
  have gb : Below w.heap.size w ((w.alloc (.cells #[.int .i64 x.sd, .int .i64 x.k, .int .u64 x.h, .int .i64 x.c, .int .i64 x.f, .int .u64 x.s, .int .u64 x.t, .string x.d, .string x.a] TMk)).alloc (.cells #[.int .i64 x.c, .int .i64 x.f, .int .u64 x.s, .int .u64 x.t, .string x.d] TPk)) := ((Below.refl _ _).alloc (Nat.le_refl _) _).alloc (by simp) _
  obtain ⟨w0, hw0⟩ : ∃ X, X = (w.alloc (.cells #[.int .i64 x.sd, .int .i64 x.k, .int .u64 x.h, .int .i64 x.c, .int .i64 x.f, .int .u64 x.s, .int .u64 x.t, .string x.d, .string x.a] TMk)).alloc (.cells #[.int .i64 x.c, .int .i64 x.f, .int .u64 x.s, .int .u64 x.t, .string x.d] TPk) := ⟨_, rfl⟩
  rw [← hw0] at g0 g1 gq gb
  have H0 := Lib.hid (And.intro g0 (And.intro g1 (And.intro gq gb)))
  clear g0 g1 gq gb hq
  have HCn := Lib.hid (count_next (P1 := pNext x) H0.out.2.2.1 (hC.r.below H0.out.2.2.2) hC.hn (fun m V k => fit_next x m ((k.block _ (lt_of H0.out.1)).trans H0.out.1) ((k.block _ (lt_of H0.out.2.1)).trans H0.out.2.1)))
  have hcl := cn_le (pNext x) f n
  have hcn := hC.hn
  obtain ⟨c, hc⟩ : ∃ c, c = cn (pNext x) f n := ⟨_, rfl⟩
  unfold nxN
  rw [← hc] at HCn hcl ⊢
  clear hc hC
  have hw : IntKind.u64.wrap (1 + (c : Int)) = 1 + (c : Int) := by rw [IntKind.wrap_u64]; omega
  go_enter Try.func14, Try.ntmps14
  go_upto_region 2 with fail
  rw [← hw0]
  clear hw0
  go_wp2_with fail
  refine HCn.out.mono ?_
  rintro _ w1 ⟨rfl, b1⟩
  have HB := Lib.hid (H0.out.2.2.2.trans (b1.mono H0.out.2.2.2.size))
  clear b1 H0 HCn
  go_wp2
  go_ret
  exact ⟨by first | rfl | (simp; omega), HB.out⟩
set_option maxHeartbeats 1000000 in
theorem sent_any (x : Mk) {w : World} {O A : Option Addr} {on ocap n cap q : Nat} {ord : Nat → Bool} {f : Nat → Mk} (hC : Cx w O on ord A n f) (hq : w.heap[q]? = some (.cells #[.slice A n cap] TMs (0, 0))) :
    Calls Try.prog 26 #[.agg #[.int .i64 x.sd, .int .i64 x.k, .int .u64 x.h, .int .i64 x.c, .int .i64 x.f, .int .u64 x.s, .int .u64 x.t, .string x.d, .string x.a], .func (.func 10) #[] #[.pointer (some ⟨q, 0, none⟩)]] w fun e w' => e = .returned (.bool (decide (cn (pSent x) f n = 0))) ∧ Below w.heap.size w w' := by
  have g0 := al_of (o' := .cells #[.int .i64 x.c, .int .i64 x.f, .int .u64 x.s, .int .u64 x.t, .string x.d] TPk) (heap_alloc_new w (.cells #[.int .i64 x.sd, .int .i64 x.k, .int .u64 x.h, .int .i64 x.c, .int .i64 x.f, .int .u64 x.s, .int .u64 x.t, .string x.d, .string x.a] TMk))
  have g1 := heap_alloc_new (w.alloc (.cells #[.int .i64 x.sd, .int .i64 x.k, .int .u64 x.h, .int .i64 x.c, .int .i64 x.f, .int .u64 x.s, .int .u64 x.t, .string x.d, .string x.a] TMk)) (.cells #[.int .i64 x.c, .int .i64 x.f, .int .u64 x.s, .int .u64 x.t, .string x.d] TPk)
  rw [show (w.alloc (.cells #[.int .i64 x.sd, .int .i64 x.k, .int .u64 x.h, .int .i64 x.c, .int .i64 x.f, .int .u64 x.s, .int .u64 x.t, .string x.d, .string x.a] TMk)).heap.size = w.heap.size + 1 by simp] at g1
  have gq := al_of (o' := .cells #[.int .i64 x.c, .int .i64 x.f, .int .u64 x.s, .int .u64 x.t, .string x.d] TPk) (al_of (o' := .cells #[.int .i64 x.sd, .int .i64 x.k, .int .u64 x.h, .int .i64 x.c, .int .i64 x.f, .int .u64 x.s, .int .u64 x.t, .string x.d, .string x.a] TMk) hq)
  have gb : Below w.heap.size w ((w.alloc (.cells #[.int .i64 x.sd, .int .i64 x.k, .int .u64 x.h, .int .i64 x.c, .int .i64 x.f, .int .u64 x.s, .int .u64 x.t, .string x.d, .string x.a] TMk)).alloc (.cells #[.int .i64 x.c, .int .i64 x.f, .int .u64 x.s, .int .u64 x.t, .string x.d] TPk)) := ((Below.refl _ _).alloc (Nat.le_refl _) _).alloc (by simp) _
  obtain ⟨w0, hw0⟩ : ∃ X, X = (w.alloc (.cells #[.int .i64 x.sd, .int .i64 x.k, .int .u64 x.h, .int .i64 x.c, .int .i64 x.f, .int .u64 x.s, .int .u64 x.t, .string x.d, .string x.a] TMk)).alloc (.cells #[.int .i64 x.c, .int .i64 x.f, .int .u64 x.s, .int .u64 x.t, .string x.d] TPk) := ⟨_, rfl⟩
  rw [← hw0] at g0 g1 gq gb
  have H0 := Lib.hid (And.intro g0 (And.intro g1 (And.intro gq gb)))
  clear g0 g1 gq gb hq
  have HCn := Lib.hid (count_sent (P1 := pSent x) H0.out.2.2.1 (hC.r.below H0.out.2.2.2) hC.hn (fun m V k => fit_sent x m ((k.block _ (lt_of H0.out.2.1)).trans H0.out.2.1)))
  have hcl := cn_le (pSent x) f n
  have hcn := hC.hn
  obtain ⟨c, hc⟩ : ∃ c, c = cn (pSent x) f n := ⟨_, rfl⟩
  rw [← hc] at HCn hcl ⊢
  clear hc hC
  have hw : IntKind.u64.wrap (1 + (c : Int)) = 1 + (c : Int) := by rw [IntKind.wrap_u64]; omega
  go_enter Try.func26, Try.ntmps26
  go_upto_region 2 with fail
  rw [← hw0]
  clear hw0
  go_wp2_with fail
  refine HCn.out.mono ?_
  rintro _ w1 ⟨rfl, b1⟩
  have HB := Lib.hid (H0.out.2.2.2.trans (b1.mono H0.out.2.2.2.size))
  clear b1 H0 HCn
  by_cases h0 : c = 0
  · subst h0
    go_wp2
    go_ret
    exact ⟨rfl, HB.out⟩
  · have h1 : ¬ (c : Int) = 0 := by omega
    have h2 : ((c : Int) == 0) = false := by simpa using h1
    go_wp2
    go_ret
    exact ⟨by rw [decide_eq_false h0]; first | rfl | (simp; omega), HB.out⟩
set_option maxHeartbeats 1000000 in
theorem mis_any (x : Mk) (w : World) : Calls Try.prog 12 #[.agg #[.int .i64 x.sd, .int .i64 x.k, .int .u64 x.h, .int .i64 x.c, .int .i64 x.f, .int .u64 x.s, .int .u64 x.t, .string x.d, .string x.a]] w fun e w' => e = .returned (.bool (misB x)) ∧ Below w.heap.size w w' := by
  go_enter Try.func12, Try.ntmps12
  go_wp2
  all_goals
    go_ret
    exact ⟨by first | rfl | (simp [misB, *]; done) | (simp [misB, *]; rfl), (Below.refl _ _).alloc (Nat.le_refl _) _⟩
set_option maxHeartbeats 2000000 in
theorem formed_any (x : Mk) (O : Option Addr) (on ocap : Nat) (w : World) : Calls Try.prog 11 #[.slice O on ocap, .agg #[.int .i64 x.sd, .int .i64 x.k, .int .u64 x.h, .int .i64 x.c, .int .i64 x.f, .int .u64 x.s, .int .u64 x.t, .string x.d, .string x.a]] w fun e w' => e = .returned (.bool (formedB on x)) ∧ Below w.heap.size w w' := by
  have g0 := heap_alloc_new w (.cells #[.int .i64 x.sd, .int .i64 x.k, .int .u64 x.h, .int .i64 x.c, .int .i64 x.f, .int .u64 x.s, .int .u64 x.t, .string x.d, .string x.a] TMk)
  have gb : Below w.heap.size w (w.alloc (.cells #[.int .i64 x.sd, .int .i64 x.k, .int .u64 x.h, .int .i64 x.c, .int .i64 x.f, .int .u64 x.s, .int .u64 x.t, .string x.d, .string x.a] TMk)) := (Below.refl _ _).alloc (Nat.le_refl _) _
  obtain ⟨w0, hw0⟩ : ∃ X, X = w.alloc (.cells #[.int .i64 x.sd, .int .i64 x.k, .int .u64 x.h, .int .i64 x.c, .int .i64 x.f, .int .u64 x.s, .int .u64 x.t, .string x.d, .string x.a] TMk) := ⟨_, rfl⟩
  rw [← hw0] at g0 gb
  have H0 := Lib.hid (And.intro g0 gb)
  have p := fun i => cell_of_row w0 w.heap.size i _ _ (0, 0) g0
  have p0 := p 0; have p1 := p 1; have p2 := p 2; have p3 := p 3; have p4 := p 4; have p5 := p 5; have p6 := p 6; have p7 := p 7; have p8 := p 8
  clear p g0 gb
  have HR : Hid (∀ V, Calls Try.prog 23 #[.agg #[.int .i64 x.k, .int .u64 x.h, .int .i64 x.c, .int .i64 x.f, .int .u64 x.s, .int .u64 x.t, .string x.d, .string x.a]] V fun e w' => e = .returned (.bool (eright x)) ∧ Below V.heap.size V w') := Lib.hid (fun V => eright_any x V)
  have HF : Hid (formedB on x = ((decide (x.sd = 0) || decide (x.sd = 1)) && eright x && decide (x.c < (on : Int)))) := Lib.hid rfl
  generalize formedB on x = r at HF ⊢
  generalize eright x = e at HR HF
  by_cases hs : x.sd = 0 ∨ x.sd = 1
  · have hF2 : Hid (r = (e && decide (x.c < (on : Int)))) := Lib.hid (by rw [HF.out]; rcases hs with h | h <;> simp [h])
    clear HF
    have tl : ∀ (V : World), Below w0.heap.size w0 V → Hid (V.heap[w.heap.size]? = some (.cells #[.int .i64 x.sd, .int .i64 x.k, .int .u64 x.h, .int .i64 x.c, .int .i64 x.f, .int .u64 x.s, .int .u64 x.t, .string x.d, .string x.a] TMk (0, 0)) ∧ Below w.heap.size w V) := fun V k => Lib.hid ⟨(k.block _ (lt_of H0.out.1)).trans H0.out.1, H0.out.2.trans (k.mono H0.out.2.size)⟩
    have TL := Lib.hid tl
    clear tl H0
    rcases hs with hs | hs
    all_goals
      go_enter Try.func11, Try.ntmps11
      go_upto_region 1 with fail
      (try rw [hs] at hw0)
      rw [← hw0]
      clear hw0
      go_wp2_with fail
      refine (HR.out _).mono ?_
      rintro _ w1 ⟨rfl, b1⟩
      have H1 := TL.out _ b1
      have p3' := cell_of_row w1 w.heap.size 3 _ _ (0, 0) H1.out.1
      clear b1 p0 p1 p2 p3 p4 p5 p6 p7 p8
      cases e with
      | false =>
        go_wp2
        go_ret
        exact ⟨by rw [hF2.out]; rfl, H1.out.2⟩
      | true =>
        go_wp2
        go_ret
        exact ⟨by rw [hF2.out]; first | rfl | (simp; done), H1.out.2⟩
  · have hF2 : Hid (r = false) := Lib.hid (by rw [HF.out]; have h1 : ¬ x.sd = 0 := fun h => hs (Or.inl h); have h2 : ¬ x.sd = 1 := fun h => hs (Or.inr h); simp [h1, h2])
    have h1 : ¬ x.sd = 0 := fun h => hs (Or.inl h)
    have h2 : ¬ x.sd = 1 := fun h => hs (Or.inr h)
    have k1 : (x.sd == 0) = false := by simpa using h1
    have k2 : (x.sd == 1) = false := by simpa using h2
    clear HF hs
    go_enter Try.func11, Try.ntmps11
    go_upto_region 1 with fail
    rw [← hw0]
    clear hw0
    go_wp2
    go_ret
    exact ⟨by rw [hF2.out]; rfl, H0.out.2⟩
end Go.Proofs.Ytfojmjgnndlfnab.Tr
