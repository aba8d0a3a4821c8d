/- A batch and the page's beside each other. -/
import Derived.Test.YtjjomlideieofaaBatchUni
namespace Go.Proofs.Ytjjomlideieofaa.Msg
open Go Go.RowKit

section
variable {W W' : World} {B g gq : Nat} {sz wt since sz2 wt2 since2 : Int} {v u : Value} {ms ns : List M7}
theorem own_lt {base e n size k : Nat} {x : Value} {zs : List Value} (h : W.ownsRow base e size x n zs) (hk : x.ownBlock = some k) : k < W.heap.size := (h.lt k hk).2
theorem apart_blk {base e n size k T : Nat} {x : Value} {zs : List Value} {cs : Array Value} {fr : Nat × Nat} (h : W.ownsRow base e size x n zs) (hb : W.heap[k]? = some (.cells cs T fr)) (hT : T ≠ e) : x.ownBlock ≠ some k := fun hk => by
  obtain ⟨cs', fr', ho⟩ := own_blk_type h hk hb
  injection ho with _ ht
  exact hT ht
theorem own_fr {base e n size : Nat} {x : Value} {zs : List Value} {row : Option Nat} {q : Nat} (h : W.ownsRow base e size x n zs) (hf : Fr q row W W') (hq : x.ownBlock ≠ some q) (hap : x.ownBlock = none ∨ x.ownBlock ≠ row) : W'.ownsRow base e size x n zs := by
  refine ⟨h.1, ?_⟩
  rcases h.2 with h3 | ⟨k, cap, cur, rfl, hg, hh, r⟩
  · exact .inl h3
  · refine .inr ⟨k, cap, cur, rfl, hg, hf.2 k _ (fun e => hq (by rw [e]; rfl)) (fun e => ?_) hh, r⟩
    rcases hap with ha | ha
    · cases ha
    · exact ha (by rw [e]; rfl)
theorem Bt.kept (h : Bt W B g sz wt v since ms) (h2 : Qt W B gq sz2 wt2 u since2 ns) (hne : g ≠ gq) (hap : v.ownBlock = none ∨ v.ownBlock ≠ u.ownBlock) (hf : Fr gq u.ownBlock W W') : Bt W' B g sz wt v since ms :=
  ⟨h.1, hf.2 g _ hne (apart_blk h2.2.2 h.2.1 (by decide)) h.2.1, own_fr h.2.2 hf (apart_blk h.2.2 h2.2.1 (by decide)) hap⟩
theorem Qt.kept (h : Qt W B gq sz wt u since ms) (h2 : Bt W B g sz2 wt2 v since2 ns) (hne : gq ≠ g) (hap : u.ownBlock = none ∨ u.ownBlock ≠ v.ownBlock) (hf : Fr g v.ownBlock W W') : Qt W' B gq sz wt u since ms :=
  ⟨h.1, hf.2 gq _ hne (apart_blk h2.2.2 h.2.1 (by decide)) h.2.1, own_fr h.2.2 hf (apart_blk h.2.2 h2.2.1 (by decide)) hap⟩
end

/-- Two rows of the call's own are not one. -/
def Ap (v u : Value) : Prop := v.ownBlock = none ∨ v.ownBlock ≠ u.ownBlock
theorem Ap.symm {v u : Value} (h : Ap v u) : Ap u v := by
  unfold Ap at *
  rcases h with h | h
  · rw [h]
    cases hu : u.ownBlock with
    | none => exact .inl rfl
    | some k => exact .inr (by simp)
  · exact .inr (fun e => h e.symm)
theorem Ap.new {W : World} {v v' u : Value} {base e n size : Nat} {zs : List Value} (h : Ap v u) (hn : New W v.ownBlock v'.ownBlock) (hu : W.ownsRow base e size u n zs) : Ap v' u := by
  unfold Ap at *
  rcases hn with hn | hn | ⟨k, hn, hk⟩
  · rw [hn]; exact h
  · exact .inl hn
  · right
    intro e
    rw [hn] at e
    have := own_lt hu e.symm
    omega

/-- Between two rounds: both batches. -/
structure Both (w W : World) (sz wt : Int) (v u : Value) (since : Int) (ms : List M7) : Prop where
  b : Bt W w.heap.size w.heap.size sz wt v since ms
  q : Qt W w.heap.size (w.heap.size + 1) sz wt u since ms
  ap : Ap v u
  s0 : 0 ≤ since
  s1 : since < 18446744073709551616
  bel : Below w.heap.size w W

theorem Both.below {w W W' : World} {sz wt since : Int} {v u : Value} {ms : List M7} (h : Both w W sz wt v u since ms) (hb : Below W.heap.size W W') : Both w W' sz wt v u since ms :=
  ⟨h.b.below hb, h.q.below hb, h.ap, h.s0, h.s1, h.bel.trans (hb.mono h.bel.size)⟩
theorem Both.adds {w W W1 W2 : World} {sz wt since now : Int} {v u v' u' : Value} {ms : List M7} {x : M7} (h : Both w W sz wt v u since ms) (h0 : 0 ≤ now) (h1 : now < 18446744073709551616)
    (hf : Fr w.heap.size v.ownBlock W W1) (hn : New W v.ownBlock v'.ownBlock) (hl : Below w.heap.size W W1) (hb : Bt W1 w.heap.size w.heap.size sz wt v' (addSince sz since now ms x) (addMs sz ms x))
    (hq : Qt W2 w.heap.size (w.heap.size + 1) sz wt u' (addSince sz since now ms x) (addMs sz ms x)) (hf2 : Fr (w.heap.size + 1) u.ownBlock W1 W2) (hn2 : New W1 u.ownBlock u'.ownBlock) (hl2 : Below w.heap.size W1 W2) :
    Both w W2 sz wt v' u' (addSince sz since now ms x) (addMs sz ms x) := by
  have hq1 := h.q.kept h.b (by omega) h.ap.symm hf
  have hap1 : Ap v' u := h.ap.new hn h.q.2.2
  have hap2 : Ap u' v' := hap1.symm.new hn2 hb.2.2
  have hs : 0 ≤ addSince sz since now ms x ∧ addSince sz since now ms x < 18446744073709551616 := by
    unfold addSince
    split
    · exact ⟨h0, h1⟩
    · exact ⟨h.s0, h.s1⟩
  exact ⟨hb.kept hq1 (by omega) hap1 hf2, hq, hap2.symm, hs.1, hs.2, (h.bel.trans hl).trans hl2⟩
theorem addMs_len (sz : Int) (ms : List M7) (x : M7) : (addMs sz ms x).length ≤ ms.length + 1 := by
  unfold addMs
  split <;> simp
theorem Both.wipes {w W : World} {sz wt since : Int} {v u : Value} {ms : List M7} (h : Both w W sz wt v u since ms) : Both w ((W.setCell ⟨w.heap.size, 2, none⟩ (.slice none 0 0)).setCell ⟨w.heap.size + 1, 3, none⟩ (.slice none 0 0)) sz wt (.slice none 0 0) (.slice none 0 0) since [] := by
  have hb := h.b.wipe
  have hq : Qt (W.setCell ⟨w.heap.size, 2, none⟩ (.slice none 0 0)) w.heap.size (w.heap.size + 1) sz wt u since ms := ⟨h.q.1, (Below.heap_setCell _ _ _ _ (by simp)).trans h.q.2.1, own_setblk h.q.2.2 h.b.2.1 (by decide)⟩
  refine ⟨⟨hb.1, (Below.heap_setCell _ _ _ _ (by simp)).trans hb.2.1, World.ownsRow_nil _ _ _ _⟩, hq.wipe, .inl rfl, h.s0, h.s1, ?_⟩
  exact (h.bel.setCell (p := ⟨w.heap.size, 2, none⟩) (Nat.le_refl _) _).setCell (p := ⟨w.heap.size + 1, 3, none⟩) (Nat.le_succ _) _
theorem Both.new (w : World) (sz wt : Int) : Both w ((w.alloc (.cells #[.int .i64 sz, .int .i64 wt, .slice none 0 0, .int .u64 0] TB)).alloc (.cells #[.int .i64 sz, .int .i64 wt, .int .u64 0, .slice none 0 0] TQ)) sz wt (.slice none 0 0) (.slice none 0 0) 0 [] := by
  refine ⟨(Bt.new w w.heap.size (Nat.le_refl _) sz wt).below ((Below.refl _ _).alloc (Nat.le_refl _) _), ⟨Nat.le_succ _, ?_, World.ownsRow_nil _ _ _ _⟩, .inl rfl, by omega, by omega, ((Below.refl _ _).alloc (Nat.le_refl _) _).alloc (by simp) _⟩
  have := heap_alloc_new (w.alloc (.cells #[.int .i64 sz, .int .i64 wt, .slice none 0 0, .int .u64 0] TB)) (.cells #[.int .i64 sz, .int .i64 wt, .int .u64 0, .slice none 0 0] TQ)
  rwa [World.size_alloc] at this

/-- An act's fields. -/
structure A9 where
  kd : Int
  m : M7
  now : Int
def A9.cells (a : A9) : Array Value := #[.int .u8 a.kd, .int .i64 a.m.k, .int .i64 a.m.c, .int .i64 a.m.f, .int .u64 a.m.s, .int .u64 a.m.t, .string a.m.d, .string a.m.a, .int .u64 a.now]
def a90 : A9 := ⟨0, m0, 0⟩
/-- A slice that reads as acts. -/
def RdA (w : World) (A : Option Addr) (len : Nat) (qs : List A9) : Prop :=
  qs.length = len ∧ (∀ a ∈ qs, 0 ≤ a.kd ∧ a.kd < 256 ∧ 0 ≤ a.now ∧ a.now < 18446744073709551616) ∧ (0 < len → ∃ b off, A = some ⟨b, off, none⟩ ∧ b < w.heap.size ∧ ∀ i, i < len → ∀ j v, ((qs.getD i a90).cells)[j]? = some v → w.cell? ⟨b, off + i * 9 + j, none⟩ = some v)

/-- An act's cells, in a world behind w. -/
def AS (w : World) (b o : Nat) (a : A9) (W : World) : Prop :=
  Below w.heap.size w W ∧ b < w.heap.size ∧ W.cell? ⟨b, o, none⟩ = some (.int .u8 a.kd) ∧ W.cell? ⟨b, o + 1, none⟩ = some (.int .i64 a.m.k) ∧ W.cell? ⟨b, o + 2, none⟩ = some (.int .i64 a.m.c) ∧ W.cell? ⟨b, o + 3, none⟩ = some (.int .i64 a.m.f) ∧ W.cell? ⟨b, o + 4, none⟩ = some (.int .u64 a.m.s) ∧ W.cell? ⟨b, o + 5, none⟩ = some (.int .u64 a.m.t) ∧ W.cell? ⟨b, o + 6, none⟩ = some (.string a.m.d) ∧ W.cell? ⟨b, o + 7, none⟩ = some (.string a.m.a) ∧ W.cell? ⟨b, o + 8, none⟩ = some (.int .u64 a.now)
theorem RdA.at {w W : World} {A : Option Addr} {len k : Nat} {qs : List A9} (h : RdA w A len qs) (hb : Below w.heap.size w W) (hk : k < len) : ∃ b off, A = some ⟨b, off, none⟩ ∧ AS w b (off + k * 9) (qs.getD k a90) W := by
  obtain ⟨b, off, rfl, hbl, hc⟩ := h.2.2 (by omega)
  refine ⟨b, off, rfl, hb, hbl, ?_⟩
  have h1 : ∀ j v, ((qs.getD k a90).cells)[j]? = some v → W.cell? ⟨b, off + k * 9 + j, none⟩ = some v := fun j v hv => (hb.cell (p := ⟨b, _, none⟩) hbl).trans (hc k hk j v hv)
  exact ⟨h1 0 _ rfl, h1 1 _ rfl, h1 2 _ rfl, h1 3 _ rfl, h1 4 _ rfl, h1 5 _ rfl, h1 6 _ rfl, h1 7 _ rfl, h1 8 _ rfl⟩
theorem AS.drew {w W : World} {b o : Nat} {a : A9} (h : AS w b o a W) : AS w b o a W.drew := ⟨h.1.drew, h.2⟩
theorem AS.to {w W W1 : World} {b o : Nat} {a : A9} (h : AS w b o a W) (hb : Below w.heap.size W W1) : AS w b o a W1 := by
  obtain ⟨h0, h1, h2⟩ := h
  have hc : ∀ i, W1.cell? ⟨b, i, none⟩ = W.cell? ⟨b, i, none⟩ := fun i => hb.cell (p := ⟨b, i, none⟩) h1
  refine ⟨h0.trans hb, h1, ?_⟩
  simp only [hc]
  exact h2
/-- And the row of the page's batch. -/
def AQ (w W0 : World) (b o : Nat) (a : A9) (u : Value) (W : World) : Prop := Below W0.heap.size W0 W ∧ w.heap.size + 1 < W0.heap.size ∧ W.cell? ⟨w.heap.size + 1, 3, none⟩ = some u ∧ AS w b o a W
theorem AQ.drew {w W0 W : World} {b o : Nat} {a : A9} {u : Value} (h : AQ w W0 b o a u W) : AQ w W0 b o a u W.drew := ⟨h.1.drew, h.2.1, h.2.2.1, h.2.2.2.drew⟩
theorem AQ.drewN {w W0 W : World} {b o : Nat} {a : A9} {u : Value} (h : AQ w W0 b o a u W) (q : Nat) : AQ w W0 b o a u (W.drewN q) := ⟨below_drewN h.1 q, h.2.1, h.2.2.1, h.2.2.2.to (below_drewN (Below.refl _ _) q)⟩
theorem AQ.call {w W0 W W1 : World} {b o : Nat} {a : A9} {u : Value} (h : AQ w W0 b o a u W) (hb : Below W.heap.size W W1) : AQ w W0 b o a u W1 := by
  have hz := h.1.size
  exact ⟨h.1.trans (hb.mono hz), h.2.1, (hb.cell (p := ⟨w.heap.size + 1, 3, none⟩) (Nat.lt_of_lt_of_le h.2.1 hz)).trans h.2.2.1, h.2.2.2.to (hb.mono h.2.2.2.1.size)⟩
/-- The row of the page's batch alone. -/
def AR (w W0 : World) (u : Value) (W : World) : Prop := Below W0.heap.size W0 W ∧ w.heap.size + 1 < W0.heap.size ∧ W.cell? ⟨w.heap.size + 1, 3, none⟩ = some u
theorem AR.drew {w W0 W : World} {u : Value} (h : AR w W0 u W) : AR w W0 u W.drew := ⟨h.1.drew, h.2⟩
theorem AR.call {w W0 W W1 : World} {u : Value} (h : AR w W0 u W) (hb : Below W.heap.size W W1) : AR w W0 u W1 :=
  ⟨h.1.trans (hb.mono h.1.size), h.2.1, (hb.cell (p := ⟨w.heap.size + 1, 3, none⟩) (Nat.lt_of_lt_of_le h.2.1 h.1.size)).trans h.2.2⟩
end Go.Proofs.Ytjjomlideieofaa.Msg
