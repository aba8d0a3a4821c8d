/- while a mark is looked at: what stands -/
import Derived.Test.YtfojmjgnndlfnabTrShut
namespace Go.Proofs.Ytfojmjgnndlfnab.Tr
open Go Go.RowKit
set_option linter.unusedVariables false

structure WX (w V : World) (O : Option Addr) (on : Nat) (ord : Nat → Bool) (A : Option Addr) (n cap : Nat) (f : Nat → Mk) (q : Nat) (x : Mk) : Prop where
  b0 : V.heap[w.heap.size]? = some (.cells #[.int .i64 x.sd, .int .i64 x.k, .int .u64 x.h, .int .i64 x.c, .int .i64 x.f, .int .u64 x.s, .int .u64 x.t, .string x.d, .string x.a] TMk (0, 0))
  b1 : V.heap[w.heap.size + 1]? = some (.cells #[.int .i64 x.c, .int .i64 x.f, .int .u64 x.s, .int .u64 x.t, .string x.d] TPk (0, 0))
  hq : V.heap[q]? = some (.cells #[.slice A n cap] TMs (0, 0))
  cx : Cx V O on ord A n f
  bel : Below w.heap.size w V
section
variable {w V V' : World} {O A : Option Addr} {on n cap q : Nat} {ord : Nat → Bool} {f : Nat → Mk} {x : Mk}
theorem WX.below (h : WX w V O on ord A n cap f q x) (k : Below V.heap.size V V') : WX w V' O on ord A n cap f q x :=
  ⟨(k.block _ (lt_of h.b0)).trans h.b0, (k.block _ (lt_of h.b1)).trans h.b1, (k.block _ (lt_of h.hq)).trans h.hq, h.cx.below k, h.bel.trans (k.mono h.bel.size)⟩
theorem WX.alloc (h : WX w V O on ord A n cap f q x) (o : Obj) : WX w (V.alloc o) O on ord A n cap f q x := h.below ((Below.refl _ _).alloc (Nat.le_refl _) o)
theorem WX.drew (h : WX w V O on ord A n cap f q x) : WX w V.drew O on ord A n cap f q x := h.below (Below.refl _ _).drew
theorem WX.make (hC : Cx w O on ord A n f) (hq : w.heap[q]? = some (.cells #[.slice A n cap] TMs (0, 0))) : WX w ((w.alloc (.cells #[.int .i64 x.sd, .int .i64 x.k, .int .u64 x.h, .int .i64 x.c, .int .i64 x.f, .int .u64 x.s, .int .u64 x.t, .string x.d, .string x.a] TMk)).alloc (.cells #[.int .i64 x.c, .int .i64 x.f, .int .u64 x.s, .int .u64 x.t, .string x.d] TPk)) O on ord A n cap f q x := by
  have g1 := heap_alloc_new (w.alloc (.cells #[.int .i64 x.sd, .int .i64 x.k, .int .u64 x.h, .int .i64 x.c, .int .i64 x.f, .int .u64 x.s, .int .u64 x.t, .string x.d, .string x.a] TMk)) (.cells #[.int .i64 x.c, .int .i64 x.f, .int .u64 x.s, .int .u64 x.t, .string x.d] TPk)
  rw [show (w.alloc (.cells #[.int .i64 x.sd, .int .i64 x.k, .int .u64 x.h, .int .i64 x.c, .int .i64 x.f, .int .u64 x.s, .int .u64 x.t, .string x.d, .string x.a] TMk)).heap.size = w.heap.size + 1 by simp] at g1
  have gb : Below w.heap.size w ((w.alloc (.cells #[.int .i64 x.sd, .int .i64 x.k, .int .u64 x.h, .int .i64 x.c, .int .i64 x.f, .int .u64 x.s, .int .u64 x.t, .string x.d, .string x.a] TMk)).alloc (.cells #[.int .i64 x.c, .int .i64 x.f, .int .u64 x.s, .int .u64 x.t, .string x.d] TPk)) := ((Below.refl _ _).alloc (Nat.le_refl _) _).alloc (by simp) _
  exact ⟨al_of (heap_alloc_new w _), g1, al_of (al_of hq), hC.below gb, gb⟩
/-- count(of(p, a)) -/
theorem WX.of1 (h : WX w V O on ord A n cap f q x) (a : Int) {Y Z K : Nat} (hy : V.heap[Y]? = some (.cells #[.int .i64 x.c, .int .i64 x.f, .int .u64 x.s] TKy (0, 0))) (hz : V.heap[Z]? = some (.cells #[.slice (some ⟨K, 0, none⟩) 1 1] TIs (0, 0))) (hk : V.heap[K]? = some (.cells #[.int .i64 a] 3 (0, 0))) :
    Calls Try.prog 10 #[.func (.func 34) #[] #[.pointer (some ⟨Y, 0, none⟩), .pointer (some ⟨Z, 0, none⟩)], .pointer (some ⟨q, 0, none⟩)] V fun e w' => e = .returned (.int .u64 (cn (pOf [a] x) f n)) ∧ WX w w' O on ord A n cap f q x :=
  (count_of (P1 := pOf [a] x) h.hq h.cx.r h.cx.hn (fun m U k => fit_of1 a x m ((k.block _ (lt_of hy)).trans hy) ((k.block _ (lt_of hz)).trans hz) ((k.block _ (lt_of hk)).trans hk))).mono fun e w' ⟨h1, h2⟩ => ⟨h1, h.below h2⟩
theorem WX.of2 (h : WX w V O on ord A n cap f q x) (a b : Int) {Y Z K : Nat} (hy : V.heap[Y]? = some (.cells #[.int .i64 x.c, .int .i64 x.f, .int .u64 x.s] TKy (0, 0))) (hz : V.heap[Z]? = some (.cells #[.slice (some ⟨K, 0, none⟩) 2 2] TIs (0, 0))) (hk : V.heap[K]? = some (.cells #[.int .i64 a, .int .i64 b] 3 (0, 0))) :
    Calls Try.prog 10 #[.func (.func 34) #[] #[.pointer (some ⟨Y, 0, none⟩), .pointer (some ⟨Z, 0, none⟩)], .pointer (some ⟨q, 0, none⟩)] V fun e w' => e = .returned (.int .u64 (cn (pOf [a, b] x) f n)) ∧ WX w w' O on ord A n cap f q x :=
  (count_of (P1 := pOf [a, b] x) h.hq h.cx.r h.cx.hn (fun m U k => fit_of2 a b x m ((k.block _ (lt_of hy)).trans hy) ((k.block _ (lt_of hz)).trans hz) ((k.block _ (lt_of hk)).trans hk))).mono fun e w' ⟨h1, h2⟩ => ⟨h1, h.below h2⟩
theorem WX.ack (h : WX w V O on ord A n cap f q x) : Calls Try.prog 10 #[.func (.func 28) #[] #[.pointer (some ⟨w.heap.size, 0, none⟩), .pointer (some ⟨w.heap.size + 1, 0, none⟩)], .pointer (some ⟨q, 0, none⟩)] V fun e w' => e = .returned (.int .u64 (cn (pAck x) f n)) ∧ WX w w' O on ord A n cap f q x :=
  (count_ack (P1 := pAck x) h.hq h.cx.r h.cx.hn (fun m U k => fit_ack x m ((k.block _ (lt_of h.b0)).trans h.b0) ((k.block _ (lt_of h.b1)).trans h.b1))).mono fun e w' ⟨h1, h2⟩ => ⟨h1, h.below h2⟩
theorem WX.next (h : WX w V O on ord A n cap f q x) : Calls Try.prog 14 #[.agg #[.int .i64 x.sd, .int .i64 x.k, .int .u64 x.h, .int .i64 x.c, .int .i64 x.f, .int .u64 x.s, .int .u64 x.t, .string x.d, .string x.a], .func (.func 10) #[] #[.pointer (some ⟨q, 0, none⟩)]] V fun e w' => e = .returned (.int .u64 (nxN f n x : Nat)) ∧ WX w w' O on ord A n cap f q x :=
  (next_any (ocap := 0) x h.cx h.hq).mono fun e w' ⟨h1, h2⟩ => ⟨h1, h.below h2⟩
theorem WX.sent (h : WX w V O on ord A n cap f q x) : Calls Try.prog 26 #[.agg #[.int .i64 x.sd, .int .i64 x.k, .int .u64 x.h, .int .i64 x.c, .int .i64 x.f, .int .u64 x.s, .int .u64 x.t, .string x.d, .string x.a], .func (.func 10) #[] #[.pointer (some ⟨q, 0, none⟩)]] V fun e w' => e = .returned (.bool (decide (cn (pSent x) f n = 0))) ∧ WX w w' O on ord A n cap f q x :=
  (sent_any (ocap := 0) x h.cx h.hq).mono fun e w' ⟨h1, h2⟩ => ⟨h1, h.below h2⟩
end
end Go.Proofs.Ytfojmjgnndlfnab.Tr
