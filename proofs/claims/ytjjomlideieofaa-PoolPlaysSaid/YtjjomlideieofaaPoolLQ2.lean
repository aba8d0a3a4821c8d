/- 'PoolPlays': what is read of both pools; the acts that came in. -/
import Derived.Test.YtjjomlideieofaaPoolLQ
namespace Go.Proofs.Ytjjomlideieofaa.Msg
open Go Go.RowKit

section
variable {w W : World} {x : M7} {gp gq : Nat} {most : Int} {ts qs : List T4} {l : List (Int × Int × Int × Nat × List M7)}
theorem LQ.page' (h : LQ w W x gp gq most ts qs) (hw : ts.map W5 = qs.map W5) : ∃ A c, W.cell? ⟨gq, 0, none⟩ = some (.slice A ts.length c) ∧ RdX W A ts.length qs ∧ gq < W.heap.size := by
  obtain ⟨A, c, hq⟩ := h.page
  have hlen : ts.length = qs.length := by have := congrArg List.length hw; simpa using this
  exact ⟨A, c, by rw [hlen]; exact hq.cells.1, by rw [hlen]; exact hq.rdx, lt_blk hq.blk⟩
theorem plen_law (h : LQ w W x gp gq most ts qs) : Calls Try.prog 17 #[.pointer (some ⟨gp, 0, none⟩)] W fun e w' => e = .returned (.int .i64 (ts.length : Int)) ∧ w' = W := by
  obtain ⟨f, hp⟩ := h.pool
  exact plen_any hp
theorem pwait_law (h : LQ w W x gp gq most ts qs) (hl : ts.map W5 = l) (a : Int) : Calls Try.prog 18 #[.pointer (some ⟨gp, 0, none⟩), .int .i64 a] W fun e w' => e = .returned (.int .i64 (cnt a l : Int)) ∧ Below W.heap.size W w' := by
  obtain ⟨f, hp⟩ := h.pool
  have := pwaiting_any hp a
  rwa [hl] at this
theorem rwait_law (h : LQ w W x gp gq most ts qs) (h32 : most ≤ 32) (hl : qs.map W5 = l) (a : Int) : Calls Try.prog 19 #[.pointer (some ⟨gq, 0, none⟩), .int .i64 a] W fun e w' => e = .returned (.int .i64 (cnt a l : Int)) ∧ Below W.heap.size W w' := by
  obtain ⟨A, c, hp⟩ := h.page
  have := rwaiting_any hp (by have := h.lq; omega) a
  rwa [hl] at this
theorem phas_law (h : LQ w W x gp gq most ts qs) (hw : ts.map W5 = qs.map W5) (hl : ts.map W5 = l) : Calls Try.prog 21 #[.pointer (some ⟨gp, 0, none⟩), .agg #[.int .i64 x.k, .int .i64 x.c, .int .i64 x.f, .int .u64 x.s, .int .u64 x.t, .string x.d, .string x.a]] W fun e w' => e = .returned (.bool (hasW x l)) ∧ Below W.heap.size W w' := by
  obtain ⟨f, hp⟩ := h.pool
  have := phas_any hp (fun t ht => by have := small_of hw h.inp t ht; exact ⟨by omega, this.2⟩) x
  rwa [hl] at this
theorem rhas_law (h : LQ w W x gp gq most ts qs) (h32 : most ≤ 32) (hl : qs.map W5 = l) : Calls Try.prog 22 #[.pointer (some ⟨gq, 0, none⟩), .agg #[.int .i64 x.k, .int .i64 x.c, .int .i64 x.f, .int .u64 x.s, .int .u64 x.t, .string x.d, .string x.a]] W fun e w' => e = .returned (.bool (hasW x l)) ∧ Below W.heap.size W w' := by
  obtain ⟨A, c, hp⟩ := h.page
  have := rhas_any hp (by have := h.lq; omega) (fun q hq => ⟨(h.inp q hq).1.below h.bel, by have := (h.inp q hq).2; omega⟩) x
  rwa [hl] at this

/-- A row of copies of those that wait. -/
def Cop (W : World) (A : Option Addr) (n : Nat) (qs : List T4) : Prop := ∃ ps, RdX W A n ps ∧ (∀ i (_ : i < ps.length) (_ : i < qs.length), Sim ps[i] qs[i]) ∧ ∀ p ∈ ps, Rd W p.A p.len p.ms ∧ p.len ≤ 1000000
theorem pall_law (h : LQ w W x gp gq most ts qs) (hw : ts.map W5 = qs.map W5) : Calls Try.prog 20 #[.pointer (some ⟨gp, 0, none⟩)] W fun e w' => ∃ A c, e = .returned (.slice A ts.length c) ∧ Cop w' A ts.length qs ∧ Below W.heap.size W w' := by
  obtain ⟨f, hp⟩ := h.pool
  have hlen : ts.length = qs.length := by have := congrArg List.length hw; simpa using this
  have hsm := small_of hw h.inp
  refine (pall_any hp (fun t ht => by have := hsm t ht; exact ⟨by omega, this.2⟩)).mono ?_
  rintro e w' ⟨u, ps, rfl, hpl, hcp⟩
  obtain ⟨A, c, hu⟩ := own_formN hcp.row
  subst hu
  have hsim : ∀ i (_ : i < ps.length) (_ : i < qs.length), Sim ps[i] qs[i] := fun i h1 h2 => by
    obtain ⟨a1, a2, a3, a4, a5⟩ := hcp.sim i h1 (by omega)
    obtain ⟨b1, b2, b3, b4, b5⟩ := sim_of hw i (by omega) h2
    exact ⟨a1.trans b1, a2.trans b2, a3.trans b3, a4.trans b4, a5.trans b5⟩
  refine ⟨A, c, by rw [hpl], ⟨ps, by have := rowX hcp.row rfl; rwa [hpl] at this, hsim, fun p hm => ?_⟩, hcp.bel⟩
  obtain ⟨i, hi, rfl⟩ := List.getElem_of_mem hm
  obtain ⟨_, _, _, a4, a5⟩ := hcp.sim i hi (by omega)
  have := hsm ts[i] (List.getElem_mem _)
  exact ⟨row_at (hcp.own _ hm) (by rw [a5, a4]; exact this.2), by omega⟩
theorem alls_same (h : LQ w W x gp gq most ts qs) {A B : Option Addr} {n c d : Nat} (hc : Cop W A n qs) (hb : RdX W B n qs) (hn : n ≤ 32) :
    Calls Try.prog 14 #[.slice A n c, .slice B n d] W fun e w' => e = .returned (.bool true) ∧ Below W.heap.size W w' := by
  obtain ⟨ps, hx, hs, hp⟩ := hc
  exact sameall_any A B n c d ps qs W hx hb (by omega) hs hp (fun q hq => (h.inp q hq).1.below h.bel)
end

/-- An act. -/
structure A6 where
  kd : Int
  t : T4
  n : Int
def A6.cells (a : A6) : Array Value := #[.int .u8 a.kd, .int .i64 a.t.side, .int .i64 a.t.acc, .int .u64 a.t.n, .slice a.t.A a.t.len a.t.cap, .int .i64 a.n]
/-- A slice that reads as acts. -/
def RdA (w : World) (A : Option Addr) (len : Nat) (al : List A6) : Prop :=
  al.length = len ∧ (∀ a ∈ al, a.t.ok w ∧ 0 ≤ a.kd ∧ a.kd < 256) ∧ (0 < len → ∃ b off, A = some ⟨b, off, none⟩ ∧ b < w.heap.size ∧ ∀ i (h : i < al.length) j v, (al[i].cells)[j]? = some v → w.cell? ⟨b, off + i * 6 + j, none⟩ = some v)
abbrev AS (w : World) (b o : Nat) (a : A6) (W : World) : Prop :=
  (Below w.heap.size w W ∧ b < w.heap.size) ∧ W.cell? ⟨b, o, none⟩ = some (.int .u8 a.kd) ∧ W.cell? ⟨b, o + 1, none⟩ = some (.int .i64 a.t.side) ∧ W.cell? ⟨b, o + 2, none⟩ = some (.int .i64 a.t.acc) ∧ W.cell? ⟨b, o + 3, none⟩ = some (.int .u64 a.t.n) ∧ W.cell? ⟨b, o + 4, none⟩ = some (.slice a.t.A a.t.len a.t.cap) ∧ W.cell? ⟨b, o + 5, none⟩ = some (.int .i64 a.n)
theorem AS.to {w W W1 : World} {b o : Nat} {a : A6} (h : AS w b o a W) (hb : Below w.heap.size w W1) : AS w b o a W1 := by
  obtain ⟨⟨h0, h1⟩, h3⟩ := h
  have hc : ∀ i, W1.cell? ⟨b, i, none⟩ = W.cell? ⟨b, i, none⟩ := fun i => (hb.cell (p := ⟨b, i, none⟩) h1).trans (h0.cell (p := ⟨b, i, none⟩) h1).symm
  refine ⟨⟨hb, h1⟩, ?_⟩
  simp only [hc]
  exact h3
theorem AS.drew {w W : World} {b o : Nat} {a : A6} (h : AS w b o a W) : AS w b o a W.drew := h.to h.1.1.drew
theorem RdA.at {w W : World} {A : Option Addr} {len k : Nat} {al : List A6} (h : RdA w A len al) (hb : Below w.heap.size w W) (hk : k < al.length) : ∃ b off, A = some ⟨b, off, none⟩ ∧ AS w b (off + k * 6) al[k] W := by
  obtain ⟨b, off, rfl, hbl, hc⟩ := h.2.2 (by have := h.1; omega)
  exact ⟨b, off, rfl, AS.to (W := w) ⟨⟨Below.refl _ _, hbl⟩, hc k hk 0 _ rfl, hc k hk 1 _ rfl, hc k hk 2 _ rfl, hc k hk 3 _ rfl, hc k hk 4 _ rfl, hc k hk 5 _ rfl⟩ hb⟩

/-- What a round's last test reads. -/
abbrev AQ6 (W0 : World) (b o gq : Nat) (acc : Int) (v : Value) (W : World) : Prop :=
  (Below W0.heap.size W0 W ∧ gq < W0.heap.size ∧ b < W0.heap.size) ∧ W.cell? ⟨gq, 0, none⟩ = some v ∧ W.cell? ⟨b, o + 2, none⟩ = some (.int .i64 acc)
theorem AQ6.call {W0 W W1 : World} {b o gq : Nat} {acc : Int} {v : Value} (h : AQ6 W0 b o gq acc v W) (hb : Below W.heap.size W W1) : AQ6 W0 b o gq acc v W1 :=
  ⟨⟨h.1.1.trans (hb.mono h.1.1.size), h.1.2⟩, (hb.cell (p := ⟨gq, _, none⟩) (Nat.lt_of_lt_of_le h.1.2.1 h.1.1.size)).trans h.2.1, (hb.cell (p := ⟨b, _, none⟩) (Nat.lt_of_lt_of_le h.1.2.2 h.1.1.size)).trans h.2.2⟩
theorem AQ6.drew {W0 W : World} {b o gq : Nat} {acc : Int} {v : Value} (h : AQ6 W0 b o gq acc v W) : AQ6 W0 b o gq acc v W.drew := h.call (Below.refl _ _).drew

/-- What the last test of all reads. -/
abbrev AB (W0 : World) (H gq : Nat) (x : M7) (v : Value) (W : World) : Prop :=
  (Below W0.heap.size W0 W ∧ gq < W0.heap.size ∧ H < W0.heap.size) ∧ W.cell? ⟨gq, 0, none⟩ = some v ∧
  W.cell? ⟨H, 0, none⟩ = some (.int .i64 x.k) ∧ W.cell? ⟨H, 1, none⟩ = some (.int .i64 x.c) ∧ W.cell? ⟨H, 2, none⟩ = some (.int .i64 x.f) ∧ W.cell? ⟨H, 3, none⟩ = some (.int .u64 x.s) ∧ W.cell? ⟨H, 4, none⟩ = some (.int .u64 x.t) ∧ W.cell? ⟨H, 5, none⟩ = some (.string x.d) ∧ W.cell? ⟨H, 6, none⟩ = some (.string x.a)
theorem AB.call {W0 W W1 : World} {H gq : Nat} {x : M7} {v : Value} (h : AB W0 H gq x v W) (hb : Below W.heap.size W W1) : AB W0 H gq x v W1 := by
  obtain ⟨⟨h0, h1, h2⟩, h3⟩ := h
  have hc : ∀ i, W1.cell? ⟨H, i, none⟩ = W.cell? ⟨H, i, none⟩ := fun i => hb.cell (p := ⟨H, i, none⟩) (Nat.lt_of_lt_of_le h2 h0.size)
  have hc2 : ∀ i, W1.cell? ⟨gq, i, none⟩ = W.cell? ⟨gq, i, none⟩ := fun i => hb.cell (p := ⟨gq, i, none⟩) (Nat.lt_of_lt_of_le h1 h0.size)
  refine ⟨⟨h0.trans (hb.mono h0.size), h1, h2⟩, ?_⟩
  simp only [hc, hc2]
  exact h3
theorem AB.drew {W0 W : World} {H gq : Nat} {x : M7} {v : Value} (h : AB W0 H gq x v W) : AB W0 H gq x v W.drew := h.call (Below.refl _ _).drew
end Go.Proofs.Ytjjomlideieofaa.Msg
