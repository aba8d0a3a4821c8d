/- Dice: a step thrown, told whole. -/
import Derived.Test.YtfojmjgnndlfnaaDiceStep0
namespace Go.Proofs.Ytfojmjgnndlfnaa.DiceW
open Go Go.RowKit Conf Dice
set_option linter.unusedVariables false

/-- a step -/
structure S8 where
  k : Int
  sd : Int
  n : Int
  c : Int
  f : Int
  s : Int
  t : Int
  d : ByteArray
def S8.cells (x : S8) : Array Value := #[.int .i64 x.k, .int .i64 x.sd, .int .i64 x.n, .int .i64 x.c, .int .i64 x.f, .int .u64 x.s, .int .u64 x.t, .string x.d]
def stepF (st n acc : Int) : S8 × Int :=
  if belZ st 40 ≤ 27 then (⟨1, 0, belZ (nxZ st 40) 16, 0, 0, 0, 0, ⟨#[]⟩⟩, nxZ (nxZ st 40) 16)
  else if belZ st 40 ≤ 32 then (⟨2, belZ (nxZ st 40) 2, 0, 0, 0, 0, 0, ⟨#[]⟩⟩, nxZ (nxZ st 40) 2)
  else if belZ st 40 ≤ 35 then (⟨3, 0, 0, (pkF (nxZ st 40) n).c, (pkF (nxZ st 40) n).f, 0, (pkF (nxZ st 40) n).t, (pkF (nxZ st 40) n).d⟩, (pkF (nxZ st 40) n).st)
  else if belZ st 40 = 36 then (⟨5, 0, belZ (nxZ st 40) (2 * n), 0, 0, 0, 0, ⟨#[]⟩⟩, nxZ (nxZ st 40) (2 * n))
  else if belZ st 40 = 37 then (⟨6, belZ (nxZ st 40) 2, wrap64 (1 + belZ (nxZ (nxZ st 40) 2) acc), 0, 0, 0, 0, ⟨#[]⟩⟩, nxZ (nxZ (nxZ st 40) 2) acc)
  else if belZ st 40 = 38 then (⟨4, belZ (nxZ st 40) 2, 0, 0, 0, 0, 0, ⟨#[]⟩⟩, nxZ (nxZ st 40) 2)
  else if belZ (nxZ st 40) 4 = 0 then (⟨7, 0, 0, 0, 0, 0, 0, ⟨#[]⟩⟩, nxZ (nxZ st 40) 4)
  else (⟨8, 0, 0, 0, 0, 0, 0, ⟨#[]⟩⟩, nxZ (nxZ st 40) 4)
/-- while a step is thrown -/
structure SB (w V : World) (g S : Nat) (st : Int) (c : Cfg) (cs : Array Value) : Prop where
  d : D TD V g st
  cfg : V.heap[w.heap.size]? = some (.cells #[.slice c.A c.n c.cap, .int .i64 c.f1, .int .i64 c.f2, .int .i64 c.f3, .int .i64 c.f4, .int .i64 c.f5, .int .i64 c.f6, .int .i64 c.f7, .int .i64 c.f8, .int .i64 c.f9, .int .i64 c.f10, .int .u64 c.f11] TCf (0, 0))
  res : V.heap[w.heap.size + 1]? = some (.cells #[.int .i64 0, .int .i64 0, .int .i64 0, .int .i64 0, .int .i64 0, .int .u64 0, .int .u64 0, .string ⟨#[]⟩] TSt (0, 0))
  box : V.heap[S]? = some (.cells cs TSt (0, 0))
  on : On g w V
  lt : g < w.heap.size ∧ w.heap.size + 1 < S
theorem SB.call {w V V' : World} {g S : Nat} {st st' : Int} {c : Cfg} {cs : Array Value} (h : SB w V g S st c cs) (hd : D TD V' g st') (ho : On g V V') : SB w V' g S st' c cs :=
  ⟨hd, (ho.block _ (blk_lt h.cfg) (by have := h.lt; omega)).trans h.cfg, (ho.block _ (blk_lt h.res) (by have := h.lt; omega)).trans h.res, (ho.block _ (blk_lt h.box) (by have := h.lt; omega)).trans h.box, h.on.trans ho, h.lt⟩
theorem SB.set {w V : World} {g S : Nat} {st : Int} {c : Cfg} {cs : Array Value} (h : SB w V g S st c cs) (i : Nat) (v : Value) : SB w (V.setCell ⟨S, i, none⟩ v) g S st c (cs.setIfInBounds i v) :=
  ⟨blk_far h.d (by have := h.lt; omega), blk_far h.cfg (by have := h.lt; omega), blk_far h.res (by have := h.lt; omega), set_at v h.box, h.on.set (by have := h.lt; omega) i v, h.lt⟩
theorem SB.set37 {w V : World} {g S : Nat} {st : Int} {c : Cfg} {a0 a1 a2 a3 a4 a5 a6 a7 : Value} (h : SB w V g S st c #[a0, a1, a2, a3, a4, a5, a6, a7]) (v3 v4 v5 v6 v7 : Value) : SB w (((((V.setCell ⟨S, 3, none⟩ v3).setCell ⟨S, 4, none⟩ v4).setCell ⟨S, 5, none⟩ v5).setCell ⟨S, 6, none⟩ v6).setCell ⟨S, 7, none⟩ v7) g S st c #[a0, a1, a2, v3, v4, v5, v6, v7] := by
  have h3 : SB w (V.setCell ⟨S, 3, none⟩ v3) g S st c #[a0, a1, a2, v3, a4, a5, a6, a7] := h.set 3 v3
  have h4 : SB w ((V.setCell ⟨S, 3, none⟩ v3).setCell ⟨S, 4, none⟩ v4) g S st c #[a0, a1, a2, v3, v4, a5, a6, a7] := h3.set 4 v4
  have h5 : SB w (((V.setCell ⟨S, 3, none⟩ v3).setCell ⟨S, 4, none⟩ v4).setCell ⟨S, 5, none⟩ v5) g S st c #[a0, a1, a2, v3, v4, v5, a6, a7] := h4.set 5 v5
  have h6 : SB w ((((V.setCell ⟨S, 3, none⟩ v3).setCell ⟨S, 4, none⟩ v4).setCell ⟨S, 5, none⟩ v5).setCell ⟨S, 6, none⟩ v6) g S st c #[a0, a1, a2, v3, v4, v5, v6, a7] := h5.set 6 v6
  have h7 : SB w (((((V.setCell ⟨S, 3, none⟩ v3).setCell ⟨S, 4, none⟩ v4).setCell ⟨S, 5, none⟩ v5).setCell ⟨S, 6, none⟩ v6).setCell ⟨S, 7, none⟩ v7) g S st c #[a0, a1, a2, v3, v4, v5, v6, v7] := h6.set 7 v7
  exact h7
set_option maxRecDepth 20000 in
set_option maxHeartbeats 8000000 in
theorem step_0 {w : World} {g : Nat} {st : Int} (c : Cfg) (hc : code c 11 0 = 0) (h1 : 1 ≤ c.n) (h4 : c.n ≤ 4) (ha : c.f1 ≤ 9223372036854775807) (h : D TD w g st) (h27 : belZ st 40 ≤ 27) : Calls Try.prog 17 #[.pointer (some ⟨g, 0, none⟩), .agg c.cells] w fun e w' => e = .returned (.agg (stepF st (c.n : Int) c.f1).1.cells) ∧ D TD w' g (stepF st (c.n : Int) c.f1).2 ∧ On g w w' := by
  have hlt := blk_lt h
  have HW := Lib.hid (fun V => workers_any c h4 V)
  rw [if_pos hc] at HW
  obtain ⟨m, hm⟩ : ∃ m : Int, m = 2 * (c.n : Int) := ⟨_, rfl⟩
  rw [← hm] at HW
  have hm1 : ¬ m = 0 := by omega
  have hm2 : (m == 0) = false := by simpa using hm1
  have HM := Lib.hid hm
  have hmm : m ≤ 9223372036854775807 := by omega
  have hnn : (c.n : Int) ≤ 9223372036854775807 := by omega
  have HN := Lib.hid (And.intro hmm (And.intro hnn ha))
  unfold Cfg.cells at HW ⊢
  have d0 : D TD ((w.alloc (.cells #[.slice c.A c.n c.cap, .int .i64 c.f1, .int .i64 c.f2, .int .i64 c.f3, .int .i64 c.f4, .int .i64 c.f5, .int .i64 c.f6, .int .i64 c.f7, .int .i64 c.f8, .int .i64 c.f9, .int .i64 c.f10, .int .u64 c.f11] TCf)).alloc (.cells #[.int .i64 0, .int .i64 0, .int .i64 0, .int .i64 0, .int .i64 0, .int .u64 0, .int .u64 0, .string ⟨#[]⟩] TSt)) g st := blk_alloc (blk_alloc h)
  have cf0 : ((w.alloc (.cells #[.slice c.A c.n c.cap, .int .i64 c.f1, .int .i64 c.f2, .int .i64 c.f3, .int .i64 c.f4, .int .i64 c.f5, .int .i64 c.f6, .int .i64 c.f7, .int .i64 c.f8, .int .i64 c.f9, .int .i64 c.f10, .int .u64 c.f11] TCf)).alloc (.cells #[.int .i64 0, .int .i64 0, .int .i64 0, .int .i64 0, .int .i64 0, .int .u64 0, .int .u64 0, .string ⟨#[]⟩] TSt)).heap[w.heap.size]? = some (.cells #[.slice c.A c.n c.cap, .int .i64 c.f1, .int .i64 c.f2, .int .i64 c.f3, .int .i64 c.f4, .int .i64 c.f5, .int .i64 c.f6, .int .i64 c.f7, .int .i64 c.f8, .int .i64 c.f9, .int .i64 c.f10, .int .u64 c.f11] TCf (0, 0)) := blk_alloc (heap_alloc_new w _)
  have r0 : ((w.alloc (.cells #[.slice c.A c.n c.cap, .int .i64 c.f1, .int .i64 c.f2, .int .i64 c.f3, .int .i64 c.f4, .int .i64 c.f5, .int .i64 c.f6, .int .i64 c.f7, .int .i64 c.f8, .int .i64 c.f9, .int .i64 c.f10, .int .u64 c.f11] TCf)).alloc (.cells #[.int .i64 0, .int .i64 0, .int .i64 0, .int .i64 0, .int .i64 0, .int .u64 0, .int .u64 0, .string ⟨#[]⟩] TSt)).heap[w.heap.size + 1]? = some (.cells #[.int .i64 0, .int .i64 0, .int .i64 0, .int .i64 0, .int .i64 0, .int .u64 0, .int .u64 0, .string ⟨#[]⟩] TSt (0, 0)) := heap_at _ _ _ (by simp)
  have o0 : On g w ((w.alloc (.cells #[.slice c.A c.n c.cap, .int .i64 c.f1, .int .i64 c.f2, .int .i64 c.f3, .int .i64 c.f4, .int .i64 c.f5, .int .i64 c.f6, .int .i64 c.f7, .int .i64 c.f8, .int .i64 c.f9, .int .i64 c.f10, .int .u64 c.f11] TCf)).alloc (.cells #[.int .i64 0, .int .i64 0, .int .i64 0, .int .i64 0, .int .i64 0, .int .u64 0, .int .u64 0, .string ⟨#[]⟩] TSt)) := ((On.refl _ _).alloc _).alloc _
  obtain ⟨w0, hw0⟩ : ∃ X, X = (w.alloc (.cells #[.slice c.A c.n c.cap, .int .i64 c.f1, .int .i64 c.f2, .int .i64 c.f3, .int .i64 c.f4, .int .i64 c.f5, .int .i64 c.f6, .int .i64 c.f7, .int .i64 c.f8, .int .i64 c.f9, .int .i64 c.f10, .int .u64 c.f11] TCf)).alloc (.cells #[.int .i64 0, .int .i64 0, .int .i64 0, .int .i64 0, .int .i64 0, .int .u64 0, .int .u64 0, .string ⟨#[]⟩] TSt) := ⟨_, rfl⟩
  rw [← hw0] at d0 cf0 r0 o0
  have H0 := Lib.hid (And.intro d0 (And.intro cf0 (And.intro r0 (And.intro o0 hlt))))
  have q := fun i => cell_of_row w0 w.heap.size i _ _ (0, 0) cf0
  have q0 := q 0; have q1 := q 1; have q2 := q 2; have q3 := q 3; have q4 := q 4; have q5 := q 5; have q6 := q 6; have q7 := q 7; have q8 := q 8; have q9 := q 9; have q10 := q 10; have q11 := q 11
  clear q d0 cf0 r0 o0 hlt h hc hm hmm hnn ha h1 h4
  go_enter Try.func17, Try.ntmps17
  go_upto_region 1 with fail
  rw [← hw0]
  clear hw0
  go_wp2_with fail
  refine (HW.out _).mono ?_
  rintro _ w1 ⟨rfl, b1⟩
  clear q0 q1 q2 q3 q4 q5 q6 q7 q8 q9 q10 q11
  have dd : D TD w1 g st := (b1.block _ (blk_lt H0.out.1)).trans H0.out.1
  have cf := (b1.block _ (blk_lt H0.out.2.1)).trans H0.out.2.1
  have rr := (b1.block _ (blk_lt H0.out.2.2.1)).trans H0.out.2.2.1
  have oo : On g w w1 := H0.out.2.2.2.1.trans (On.of_below b1)
  have hS := blk_lt rr
  have hx := heap_alloc_new w1 (.cells #[.int .i64 0, .int .i64 0, .int .i64 0, .int .i64 0, .int .i64 0, .int .u64 0, .int .u64 0, .string ⟨#[]⟩] TSt)
  obtain ⟨S, hSd⟩ : ∃ X, X = w1.heap.size := ⟨_, rfl⟩
  have h2 : SB w (w1.alloc (.cells #[.int .i64 0, .int .i64 0, .int .i64 0, .int .i64 0, .int .i64 0, .int .u64 0, .int .u64 0, .string ⟨#[]⟩] TSt)) g S st c #[.int .i64 0, .int .i64 0, .int .i64 0, .int .i64 0, .int .i64 0, .int .u64 0, .int .u64 0, .string ⟨#[]⟩] := ⟨blk_alloc dd, blk_alloc cf, blk_alloc rr, by rw [hSd]; exact hx, oo.alloc _, H0.out.2.2.2.2, by omega⟩
  obtain ⟨w2, hw2⟩ : ∃ X, X = w1.alloc (.cells #[.int .i64 0, .int .i64 0, .int .i64 0, .int .i64 0, .int .i64 0, .int .u64 0, .int .u64 0, .string ⟨#[]⟩] TSt) := ⟨_, rfl⟩
  rw [← hw2] at h2
  have H2 := Lib.hid h2
  clear b1 dd cf rr oo hS hx h2 H0 HW
  go_upto_region 5 with fail
  rw [← hw2, ← hSd]
  clear hw2 hSd
  go_wp2_with fail
  refine (below_on H2.out.d (by decide)).mono ?_
  rintro _ w3 ⟨rfl, d, o⟩
  have H3 := Lib.hid (H2.out.call d o)
  clear d o H2
  have hF : stepF st (c.n : Int) c.f1 = stepF st (c.n : Int) c.f1 := rfl
  conv at hF => rhs; unfold stepF
  rw [← HM.out] at hF
  obtain ⟨b, hb⟩ : ∃ b, b = belZ st 40 := ⟨_, rfl⟩
  rw [← hb] at hF ⊢ h27
  have HF := Lib.hid hF
  clear hb hF
  obtain ⟨s1, hs1⟩ : ∃ s, s = nxZ st 40 := ⟨_, rfl⟩
  rw [← hs1] at HF H3
  clear hs1
  have c0 := cell_of_row w3 S 0 _ _ (0, 0) H3.out.box
  have f0 := fr_of H3.out.box 0
  have H4 : Hid (SB w (w3.setCell ⟨S, 0, none⟩ (.int .i64 1)) g S (s1) c #[.int .i64 1, .int .i64 0, .int .i64 0, .int .i64 0, .int .i64 0, .int .u64 0, .int .u64 0, .string ⟨#[]⟩]) := Lib.hid (H3.out.set 0 (.int .i64 1))
  go_wp2_with fail
  refine (below_on H4.out.d (by decide)).mono ?_
  rintro _ w5 ⟨rfl, d, o⟩
  have h := H4.out.call d o
  clear d o
  have c2 := cell_of_row w5 S 2 _ _ (0, 0) h.box
  have f2 := fr_of h.box 2
  have H6 : Hid (SB w (w5.setCell ⟨S, 2, none⟩ (.int .i64 (belZ s1 16))) g S (nxZ s1 16) c #[.int .i64 1, .int .i64 0, .int .i64 (belZ s1 16), .int .i64 0, .int .i64 0, .int .u64 0, .int .u64 0, .string ⟨#[]⟩]) := Lib.hid (h.set 2 (.int .i64 (belZ s1 16)))
  clear h H4 H3 c0 f0
  go_upto_region 28 with fail
  obtain ⟨w7, hw7⟩ : ∃ X, X = (w5.setCell ⟨S, 2, none⟩ (.int .i64 (belZ s1 16))) := ⟨_, rfl⟩
  rw [← hw7] at H6 ⊢
  clear hw7
  refine wp_region_lit ?_
  refine wpList_load_row rfl TSt _ rfl S rfl TSt _ (0, 0) _ H6.out.box Try.underlying44 rfl (by kernel_rfl) ?_
  refine wpList_store_rowTo rfl TSt _ _ rfl rfl (w.heap.size + 1) _ rfl rfl TSt _ H6.out.res (by kernel_rfl) rfl (by simp [Value.oneCell']) ?_
  refine wpList_nil ?_
  have HR' := setRow_heap w7 (w.heap.size + 1) _ #[.int .i64 1, .int .i64 0, .int .i64 (belZ s1 16), .int .i64 0, .int .i64 0, .int .u64 0, .int .u64 0, .string ⟨#[]⟩] TSt (0, 0) H6.out.res
  have HO9 := H6.out.on.setRow (show w.heap.size ≤ w.heap.size + 1 by omega) #[.int .i64 1, .int .i64 0, .int .i64 (belZ s1 16), .int .i64 0, .int .i64 0, .int .u64 0, .int .u64 0, .string ⟨#[]⟩]
  have HD9 := (setRow_other w7 (w.heap.size + 1) g #[.int .i64 1, .int .i64 0, .int .i64 (belZ s1 16), .int .i64 0, .int .i64 0, .int .u64 0, .int .u64 0, .string ⟨#[]⟩] (by have := H6.out.lt; omega)).trans H6.out.d
  obtain ⟨w9, hw9⟩ : ∃ X, X = w7.setRow (w.heap.size + 1) #[.int .i64 1, .int .i64 0, .int .i64 (belZ s1 16), .int .i64 0, .int .i64 0, .int .u64 0, .int .u64 0, .string ⟨#[]⟩] := ⟨_, rfl⟩
  rw [← hw9] at HR' HO9 HD9 ⊢
  clear hw9
  go_wp2_with fail
  have hF := HF.out
  rw [if_pos (show b ≤ 27 by omega)] at hF
  rw [hF]
  dsimp only
  exact bodyPost_ret (results_cell_row Try.results17 _ _ (w.heap.size + 1) TSt _ (0, 0) _ rfl HR' Try.underlying44 rfl (by kernel_rfl)) rfl ⟨rfl, HD9, HO9⟩
set_option maxRecDepth 20000 in
set_option maxHeartbeats 8000000 in
theorem step_1 {w : World} {g : Nat} {st : Int} (c : Cfg) (hc : code c 11 0 = 0) (h1 : 1 ≤ c.n) (h4 : c.n ≤ 4) (ha : c.f1 ≤ 9223372036854775807) (h : D TD w g st) (h27 : ¬ belZ st 40 ≤ 27) (h32 : belZ st 40 ≤ 32) : Calls Try.prog 17 #[.pointer (some ⟨g, 0, none⟩), .agg c.cells] w fun e w' => e = .returned (.agg (stepF st (c.n : Int) c.f1).1.cells) ∧ D TD w' g (stepF st (c.n : Int) c.f1).2 ∧ On g w w' := by
  have hlt := blk_lt h
  have HW := Lib.hid (fun V => workers_any c h4 V)
  rw [if_pos hc] at HW
  obtain ⟨m, hm⟩ : ∃ m : Int, m = 2 * (c.n : Int) := ⟨_, rfl⟩
  rw [← hm] at HW
  have hm1 : ¬ m = 0 := by omega
  have hm2 : (m == 0) = false := by simpa using hm1
  have HM := Lib.hid hm
  have hmm : m ≤ 9223372036854775807 := by omega
  have hnn : (c.n : Int) ≤ 9223372036854775807 := by omega
  have HN := Lib.hid (And.intro hmm (And.intro hnn ha))
  unfold Cfg.cells at HW ⊢
  have d0 : D TD ((w.alloc (.cells #[.slice c.A c.n c.cap, .int .i64 c.f1, .int .i64 c.f2, .int .i64 c.f3, .int .i64 c.f4, .int .i64 c.f5, .int .i64 c.f6, .int .i64 c.f7, .int .i64 c.f8, .int .i64 c.f9, .int .i64 c.f10, .int .u64 c.f11] TCf)).alloc (.cells #[.int .i64 0, .int .i64 0, .int .i64 0, .int .i64 0, .int .i64 0, .int .u64 0, .int .u64 0, .string ⟨#[]⟩] TSt)) g st := blk_alloc (blk_alloc h)
  have cf0 : ((w.alloc (.cells #[.slice c.A c.n c.cap, .int .i64 c.f1, .int .i64 c.f2, .int .i64 c.f3, .int .i64 c.f4, .int .i64 c.f5, .int .i64 c.f6, .int .i64 c.f7, .int .i64 c.f8, .int .i64 c.f9, .int .i64 c.f10, .int .u64 c.f11] TCf)).alloc (.cells #[.int .i64 0, .int .i64 0, .int .i64 0, .int .i64 0, .int .i64 0, .int .u64 0, .int .u64 0, .string ⟨#[]⟩] TSt)).heap[w.heap.size]? = some (.cells #[.slice c.A c.n c.cap, .int .i64 c.f1, .int .i64 c.f2, .int .i64 c.f3, .int .i64 c.f4, .int .i64 c.f5, .int .i64 c.f6, .int .i64 c.f7, .int .i64 c.f8, .int .i64 c.f9, .int .i64 c.f10, .int .u64 c.f11] TCf (0, 0)) := blk_alloc (heap_alloc_new w _)
  have r0 : ((w.alloc (.cells #[.slice c.A c.n c.cap, .int .i64 c.f1, .int .i64 c.f2, .int .i64 c.f3, .int .i64 c.f4, .int .i64 c.f5, .int .i64 c.f6, .int .i64 c.f7, .int .i64 c.f8, .int .i64 c.f9, .int .i64 c.f10, .int .u64 c.f11] TCf)).alloc (.cells #[.int .i64 0, .int .i64 0, .int .i64 0, .int .i64 0, .int .i64 0, .int .u64 0, .int .u64 0, .string ⟨#[]⟩] TSt)).heap[w.heap.size + 1]? = some (.cells #[.int .i64 0, .int .i64 0, .int .i64 0, .int .i64 0, .int .i64 0, .int .u64 0, .int .u64 0, .string ⟨#[]⟩] TSt (0, 0)) := heap_at _ _ _ (by simp)
  have o0 : On g w ((w.alloc (.cells #[.slice c.A c.n c.cap, .int .i64 c.f1, .int .i64 c.f2, .int .i64 c.f3, .int .i64 c.f4, .int .i64 c.f5, .int .i64 c.f6, .int .i64 c.f7, .int .i64 c.f8, .int .i64 c.f9, .int .i64 c.f10, .int .u64 c.f11] TCf)).alloc (.cells #[.int .i64 0, .int .i64 0, .int .i64 0, .int .i64 0, .int .i64 0, .int .u64 0, .int .u64 0, .string ⟨#[]⟩] TSt)) := ((On.refl _ _).alloc _).alloc _
  obtain ⟨w0, hw0⟩ : ∃ X, X = (w.alloc (.cells #[.slice c.A c.n c.cap, .int .i64 c.f1, .int .i64 c.f2, .int .i64 c.f3, .int .i64 c.f4, .int .i64 c.f5, .int .i64 c.f6, .int .i64 c.f7, .int .i64 c.f8, .int .i64 c.f9, .int .i64 c.f10, .int .u64 c.f11] TCf)).alloc (.cells #[.int .i64 0, .int .i64 0, .int .i64 0, .int .i64 0, .int .i64 0, .int .u64 0, .int .u64 0, .string ⟨#[]⟩] TSt) := ⟨_, rfl⟩
  rw [← hw0] at d0 cf0 r0 o0
  have H0 := Lib.hid (And.intro d0 (And.intro cf0 (And.intro r0 (And.intro o0 hlt))))
  have q := fun i => cell_of_row w0 w.heap.size i _ _ (0, 0) cf0
  have q0 := q 0; have q1 := q 1; have q2 := q 2; have q3 := q 3; have q4 := q 4; have q5 := q 5; have q6 := q 6; have q7 := q 7; have q8 := q 8; have q9 := q 9; have q10 := q 10; have q11 := q 11
  clear q d0 cf0 r0 o0 hlt h hc hm hmm hnn ha h1 h4
  go_enter Try.func17, Try.ntmps17
  go_upto_region 1 with fail
  rw [← hw0]
  clear hw0
  go_wp2_with fail
  refine (HW.out _).mono ?_
  rintro _ w1 ⟨rfl, b1⟩
  clear q0 q1 q2 q3 q4 q5 q6 q7 q8 q9 q10 q11
  have dd : D TD w1 g st := (b1.block _ (blk_lt H0.out.1)).trans H0.out.1
  have cf := (b1.block _ (blk_lt H0.out.2.1)).trans H0.out.2.1
  have rr := (b1.block _ (blk_lt H0.out.2.2.1)).trans H0.out.2.2.1
  have oo : On g w w1 := H0.out.2.2.2.1.trans (On.of_below b1)
  have hS := blk_lt rr
  have hx := heap_alloc_new w1 (.cells #[.int .i64 0, .int .i64 0, .int .i64 0, .int .i64 0, .int .i64 0, .int .u64 0, .int .u64 0, .string ⟨#[]⟩] TSt)
  obtain ⟨S, hSd⟩ : ∃ X, X = w1.heap.size := ⟨_, rfl⟩
  have h2 : SB w (w1.alloc (.cells #[.int .i64 0, .int .i64 0, .int .i64 0, .int .i64 0, .int .i64 0, .int .u64 0, .int .u64 0, .string ⟨#[]⟩] TSt)) g S st c #[.int .i64 0, .int .i64 0, .int .i64 0, .int .i64 0, .int .i64 0, .int .u64 0, .int .u64 0, .string ⟨#[]⟩] := ⟨blk_alloc dd, blk_alloc cf, blk_alloc rr, by rw [hSd]; exact hx, oo.alloc _, H0.out.2.2.2.2, by omega⟩
  obtain ⟨w2, hw2⟩ : ∃ X, X = w1.alloc (.cells #[.int .i64 0, .int .i64 0, .int .i64 0, .int .i64 0, .int .i64 0, .int .u64 0, .int .u64 0, .string ⟨#[]⟩] TSt) := ⟨_, rfl⟩
  rw [← hw2] at h2
  have H2 := Lib.hid h2
  clear b1 dd cf rr oo hS hx h2 H0 HW
  go_upto_region 5 with fail
  rw [← hw2, ← hSd]
  clear hw2 hSd
  go_wp2_with fail
  refine (below_on H2.out.d (by decide)).mono ?_
  rintro _ w3 ⟨rfl, d, o⟩
  have H3 := Lib.hid (H2.out.call d o)
  clear d o H2
  have hF : stepF st (c.n : Int) c.f1 = stepF st (c.n : Int) c.f1 := rfl
  conv at hF => rhs; unfold stepF
  rw [← HM.out] at hF
  obtain ⟨b, hb⟩ : ∃ b, b = belZ st 40 := ⟨_, rfl⟩
  rw [← hb] at hF ⊢ h27 h32
  have HF := Lib.hid hF
  clear hb hF
  obtain ⟨s1, hs1⟩ : ∃ s, s = nxZ st 40 := ⟨_, rfl⟩
  rw [← hs1] at HF H3
  clear hs1
  have c0 := cell_of_row w3 S 0 _ _ (0, 0) H3.out.box
  have f0 := fr_of H3.out.box 0
  have H4 : Hid (SB w (w3.setCell ⟨S, 0, none⟩ (.int .i64 2)) g S (s1) c #[.int .i64 2, .int .i64 0, .int .i64 0, .int .i64 0, .int .i64 0, .int .u64 0, .int .u64 0, .string ⟨#[]⟩]) := Lib.hid (H3.out.set 0 (.int .i64 2))
  go_wp2_with fail
  refine (below_on H4.out.d (by decide)).mono ?_
  rintro _ w5 ⟨rfl, d, o⟩
  have h := H4.out.call d o
  clear d o
  have c1 := cell_of_row w5 S 1 _ _ (0, 0) h.box
  have f1 := fr_of h.box 1
  have H6 : Hid (SB w (w5.setCell ⟨S, 1, none⟩ (.int .i64 (belZ s1 2))) g S (nxZ s1 2) c #[.int .i64 2, .int .i64 (belZ s1 2), .int .i64 0, .int .i64 0, .int .i64 0, .int .u64 0, .int .u64 0, .string ⟨#[]⟩]) := Lib.hid (h.set 1 (.int .i64 (belZ s1 2)))
  clear h H4 H3 c0 f0
  go_upto_region 28 with fail
  obtain ⟨w7, hw7⟩ : ∃ X, X = (w5.setCell ⟨S, 1, none⟩ (.int .i64 (belZ s1 2))) := ⟨_, rfl⟩
  rw [← hw7] at H6 ⊢
  clear hw7
  refine wp_region_lit ?_
  refine wpList_load_row rfl TSt _ rfl S rfl TSt _ (0, 0) _ H6.out.box Try.underlying44 rfl (by kernel_rfl) ?_
  refine wpList_store_rowTo rfl TSt _ _ rfl rfl (w.heap.size + 1) _ rfl rfl TSt _ H6.out.res (by kernel_rfl) rfl (by simp [Value.oneCell']) ?_
  refine wpList_nil ?_
  have HR' := setRow_heap w7 (w.heap.size + 1) _ #[.int .i64 2, .int .i64 (belZ s1 2), .int .i64 0, .int .i64 0, .int .i64 0, .int .u64 0, .int .u64 0, .string ⟨#[]⟩] TSt (0, 0) H6.out.res
  have HO9 := H6.out.on.setRow (show w.heap.size ≤ w.heap.size + 1 by omega) #[.int .i64 2, .int .i64 (belZ s1 2), .int .i64 0, .int .i64 0, .int .i64 0, .int .u64 0, .int .u64 0, .string ⟨#[]⟩]
  have HD9 := (setRow_other w7 (w.heap.size + 1) g #[.int .i64 2, .int .i64 (belZ s1 2), .int .i64 0, .int .i64 0, .int .i64 0, .int .u64 0, .int .u64 0, .string ⟨#[]⟩] (by have := H6.out.lt; omega)).trans H6.out.d
  obtain ⟨w9, hw9⟩ : ∃ X, X = w7.setRow (w.heap.size + 1) #[.int .i64 2, .int .i64 (belZ s1 2), .int .i64 0, .int .i64 0, .int .i64 0, .int .u64 0, .int .u64 0, .string ⟨#[]⟩] := ⟨_, rfl⟩
  rw [← hw9] at HR' HO9 HD9 ⊢
  clear hw9
  go_wp2_with fail
  have hF := HF.out
  rw [if_neg (show ¬ b ≤ 27 by omega), if_pos (show b ≤ 32 by omega)] at hF
  rw [hF]
  dsimp only
  exact bodyPost_ret (results_cell_row Try.results17 _ _ (w.heap.size + 1) TSt _ (0, 0) _ rfl HR' Try.underlying44 rfl (by kernel_rfl)) rfl ⟨rfl, HD9, HO9⟩
set_option maxRecDepth 20000 in
set_option maxHeartbeats 8000000 in
theorem step_2 {w : World} {g : Nat} {st : Int} (c : Cfg) (hc : code c 11 0 = 0) (h1 : 1 ≤ c.n) (h4 : c.n ≤ 4) (ha : c.f1 ≤ 9223372036854775807) (h : D TD w g st) (h27 : ¬ belZ st 40 ≤ 27) (h32 : ¬ belZ st 40 ≤ 32) (h35 : belZ st 40 ≤ 35) : Calls Try.prog 17 #[.pointer (some ⟨g, 0, none⟩), .agg c.cells] w fun e w' => e = .returned (.agg (stepF st (c.n : Int) c.f1).1.cells) ∧ D TD w' g (stepF st (c.n : Int) c.f1).2 ∧ On g w w' := by
  have hlt := blk_lt h
  have HW := Lib.hid (fun V => workers_any c h4 V)
  rw [if_pos hc] at HW
  obtain ⟨m, hm⟩ : ∃ m : Int, m = 2 * (c.n : Int) := ⟨_, rfl⟩
  rw [← hm] at HW
  have hm1 : ¬ m = 0 := by omega
  have hm2 : (m == 0) = false := by simpa using hm1
  have HM := Lib.hid hm
  have hmm : m ≤ 9223372036854775807 := by omega
  have hnn : (c.n : Int) ≤ 9223372036854775807 := by omega
  have HN := Lib.hid (And.intro hmm (And.intro hnn ha))
  unfold Cfg.cells at HW ⊢
  have d0 : D TD ((w.alloc (.cells #[.slice c.A c.n c.cap, .int .i64 c.f1, .int .i64 c.f2, .int .i64 c.f3, .int .i64 c.f4, .int .i64 c.f5, .int .i64 c.f6, .int .i64 c.f7, .int .i64 c.f8, .int .i64 c.f9, .int .i64 c.f10, .int .u64 c.f11] TCf)).alloc (.cells #[.int .i64 0, .int .i64 0, .int .i64 0, .int .i64 0, .int .i64 0, .int .u64 0, .int .u64 0, .string ⟨#[]⟩] TSt)) g st := blk_alloc (blk_alloc h)
  have cf0 : ((w.alloc (.cells #[.slice c.A c.n c.cap, .int .i64 c.f1, .int .i64 c.f2, .int .i64 c.f3, .int .i64 c.f4, .int .i64 c.f5, .int .i64 c.f6, .int .i64 c.f7, .int .i64 c.f8, .int .i64 c.f9, .int .i64 c.f10, .int .u64 c.f11] TCf)).alloc (.cells #[.int .i64 0, .int .i64 0, .int .i64 0, .int .i64 0, .int .i64 0, .int .u64 0, .int .u64 0, .string ⟨#[]⟩] TSt)).heap[w.heap.size]? = some (.cells #[.slice c.A c.n c.cap, .int .i64 c.f1, .int .i64 c.f2, .int .i64 c.f3, .int .i64 c.f4, .int .i64 c.f5, .int .i64 c.f6, .int .i64 c.f7, .int .i64 c.f8, .int .i64 c.f9, .int .i64 c.f10, .int .u64 c.f11] TCf (0, 0)) := blk_alloc (heap_alloc_new w _)
  have r0 : ((w.alloc (.cells #[.slice c.A c.n c.cap, .int .i64 c.f1, .int .i64 c.f2, .int .i64 c.f3, .int .i64 c.f4, .int .i64 c.f5, .int .i64 c.f6, .int .i64 c.f7, .int .i64 c.f8, .int .i64 c.f9, .int .i64 c.f10, .int .u64 c.f11] TCf)).alloc (.cells #[.int .i64 0, .int .i64 0, .int .i64 0, .int .i64 0, .int .i64 0, .int .u64 0, .int .u64 0, .string ⟨#[]⟩] TSt)).heap[w.heap.size + 1]? = some (.cells #[.int .i64 0, .int .i64 0, .int .i64 0, .int .i64 0, .int .i64 0, .int .u64 0, .int .u64 0, .string ⟨#[]⟩] TSt (0, 0)) := heap_at _ _ _ (by simp)
  have o0 : On g w ((w.alloc (.cells #[.slice c.A c.n c.cap, .int .i64 c.f1, .int .i64 c.f2, .int .i64 c.f3, .int .i64 c.f4, .int .i64 c.f5, .int .i64 c.f6, .int .i64 c.f7, .int .i64 c.f8, .int .i64 c.f9, .int .i64 c.f10, .int .u64 c.f11] TCf)).alloc (.cells #[.int .i64 0, .int .i64 0, .int .i64 0, .int .i64 0, .int .i64 0, .int .u64 0, .int .u64 0, .string ⟨#[]⟩] TSt)) := ((On.refl _ _).alloc _).alloc _
  obtain ⟨w0, hw0⟩ : ∃ X, X = (w.alloc (.cells #[.slice c.A c.n c.cap, .int .i64 c.f1, .int .i64 c.f2, .int .i64 c.f3, .int .i64 c.f4, .int .i64 c.f5, .int .i64 c.f6, .int .i64 c.f7, .int .i64 c.f8, .int .i64 c.f9, .int .i64 c.f10, .int .u64 c.f11] TCf)).alloc (.cells #[.int .i64 0, .int .i64 0, .int .i64 0, .int .i64 0, .int .i64 0, .int .u64 0, .int .u64 0, .string ⟨#[]⟩] TSt) := ⟨_, rfl⟩
  rw [← hw0] at d0 cf0 r0 o0
  have H0 := Lib.hid (And.intro d0 (And.intro cf0 (And.intro r0 (And.intro o0 hlt))))
  have q := fun i => cell_of_row w0 w.heap.size i _ _ (0, 0) cf0
  have q0 := q 0; have q1 := q 1; have q2 := q 2; have q3 := q 3; have q4 := q 4; have q5 := q 5; have q6 := q 6; have q7 := q 7; have q8 := q 8; have q9 := q 9; have q10 := q 10; have q11 := q 11
  clear q d0 cf0 r0 o0 hlt h hc hm hmm hnn ha h1 h4
  go_enter Try.func17, Try.ntmps17
  go_upto_region 1 with fail
  rw [← hw0]
  clear hw0
  go_wp2_with fail
  refine (HW.out _).mono ?_
  rintro _ w1 ⟨rfl, b1⟩
  clear q0 q1 q2 q3 q4 q5 q6 q7 q8 q9 q10 q11
  have dd : D TD w1 g st := (b1.block _ (blk_lt H0.out.1)).trans H0.out.1
  have cf := (b1.block _ (blk_lt H0.out.2.1)).trans H0.out.2.1
  have rr := (b1.block _ (blk_lt H0.out.2.2.1)).trans H0.out.2.2.1
  have oo : On g w w1 := H0.out.2.2.2.1.trans (On.of_below b1)
  have hS := blk_lt rr
  have hx := heap_alloc_new w1 (.cells #[.int .i64 0, .int .i64 0, .int .i64 0, .int .i64 0, .int .i64 0, .int .u64 0, .int .u64 0, .string ⟨#[]⟩] TSt)
  obtain ⟨S, hSd⟩ : ∃ X, X = w1.heap.size := ⟨_, rfl⟩
  have h2 : SB w (w1.alloc (.cells #[.int .i64 0, .int .i64 0, .int .i64 0, .int .i64 0, .int .i64 0, .int .u64 0, .int .u64 0, .string ⟨#[]⟩] TSt)) g S st c #[.int .i64 0, .int .i64 0, .int .i64 0, .int .i64 0, .int .i64 0, .int .u64 0, .int .u64 0, .string ⟨#[]⟩] := ⟨blk_alloc dd, blk_alloc cf, blk_alloc rr, by rw [hSd]; exact hx, oo.alloc _, H0.out.2.2.2.2, by omega⟩
  obtain ⟨w2, hw2⟩ : ∃ X, X = w1.alloc (.cells #[.int .i64 0, .int .i64 0, .int .i64 0, .int .i64 0, .int .i64 0, .int .u64 0, .int .u64 0, .string ⟨#[]⟩] TSt) := ⟨_, rfl⟩
  rw [← hw2] at h2
  have H2 := Lib.hid h2
  clear b1 dd cf rr oo hS hx h2 H0 HW
  go_upto_region 5 with fail
  rw [← hw2, ← hSd]
  clear hw2 hSd
  go_wp2_with fail
  refine (below_on H2.out.d (by decide)).mono ?_
  rintro _ w3 ⟨rfl, d, o⟩
  have H3 := Lib.hid (H2.out.call d o)
  clear d o H2
  have hF : stepF st (c.n : Int) c.f1 = stepF st (c.n : Int) c.f1 := rfl
  conv at hF => rhs; unfold stepF
  rw [← HM.out] at hF
  obtain ⟨b, hb⟩ : ∃ b, b = belZ st 40 := ⟨_, rfl⟩
  rw [← hb] at hF ⊢ h27 h32 h35
  have HF := Lib.hid hF
  clear hb hF
  obtain ⟨s1, hs1⟩ : ∃ s, s = nxZ st 40 := ⟨_, rfl⟩
  rw [← hs1] at HF H3
  clear hs1
  have c0 := cell_of_row w3 S 0 _ _ (0, 0) H3.out.box
  have f0 := fr_of H3.out.box 0
  have H4 : Hid (SB w (w3.setCell ⟨S, 0, none⟩ (.int .i64 3)) g S (s1) c #[.int .i64 3, .int .i64 0, .int .i64 0, .int .i64 0, .int .i64 0, .int .u64 0, .int .u64 0, .string ⟨#[]⟩]) := Lib.hid (H3.out.set 0 (.int .i64 3))
  have qc := cell_of_row _ w.heap.size 0 _ _ (0, 0) H4.out.cfg
  have HPk := Lib.hid (packet_any H4.out.d HN.out.2.1)
  obtain ⟨p, hp⟩ : ∃ p, p = pkF s1 (c.n : Int) := ⟨_, rfl⟩
  rw [← hp] at HPk HF
  clear hp
  go_wp2_with fail
  refine HPk.out.mono ?_
  rintro _ w5 ⟨rfl, d, o⟩
  have h := H4.out.call d o
  clear d o
  unfold PF.cells
  have c3 := cell_of_row w5 S 3 _ _ (0, 0) h.box
  have f3 := fr_of h.box 3
  have c4 := cell_of_row w5 S 4 _ _ (0, 0) h.box
  have f4 := fr_of h.box 4
  have c5 := cell_of_row w5 S 5 _ _ (0, 0) h.box
  have f5 := fr_of h.box 5
  have c6 := cell_of_row w5 S 6 _ _ (0, 0) h.box
  have f6 := fr_of h.box 6
  have c7 := cell_of_row w5 S 7 _ _ (0, 0) h.box
  have f7 := fr_of h.box 7
  have H6 : Hid (SB w (((((w5.setCell ⟨S, 3, none⟩ (.int .i64 p.c)).setCell ⟨S, 4, none⟩ (.int .i64 p.f)).setCell ⟨S, 5, none⟩ (.int .u64 0)).setCell ⟨S, 6, none⟩ (.int .u64 p.t)).setCell ⟨S, 7, none⟩ (.string p.d)) g S (p.st) c #[.int .i64 3, .int .i64 0, .int .i64 0, .int .i64 p.c, .int .i64 p.f, .int .u64 0, .int .u64 p.t, .string p.d]) := Lib.hid (h.set37 (.int .i64 p.c) (.int .i64 p.f) (.int .u64 0) (.int .u64 p.t) (.string p.d))
  clear h H4 H3 c0 f0 qc
  go_upto_region 28 with fail
  obtain ⟨w7, hw7⟩ : ∃ X, X = (((((w5.setCell ⟨S, 3, none⟩ (.int .i64 p.c)).setCell ⟨S, 4, none⟩ (.int .i64 p.f)).setCell ⟨S, 5, none⟩ (.int .u64 0)).setCell ⟨S, 6, none⟩ (.int .u64 p.t)).setCell ⟨S, 7, none⟩ (.string p.d)) := ⟨_, rfl⟩
  rw [← hw7] at H6 ⊢
  clear hw7
  refine wp_region_lit ?_
  refine wpList_load_row rfl TSt _ rfl S rfl TSt _ (0, 0) _ H6.out.box Try.underlying44 rfl (by kernel_rfl) ?_
  refine wpList_store_rowTo rfl TSt _ _ rfl rfl (w.heap.size + 1) _ rfl rfl TSt _ H6.out.res (by kernel_rfl) rfl (by simp [Value.oneCell']) ?_
  refine wpList_nil ?_
  have HR' := setRow_heap w7 (w.heap.size + 1) _ #[.int .i64 3, .int .i64 0, .int .i64 0, .int .i64 p.c, .int .i64 p.f, .int .u64 0, .int .u64 p.t, .string p.d] TSt (0, 0) H6.out.res
  have HO9 := H6.out.on.setRow (show w.heap.size ≤ w.heap.size + 1 by omega) #[.int .i64 3, .int .i64 0, .int .i64 0, .int .i64 p.c, .int .i64 p.f, .int .u64 0, .int .u64 p.t, .string p.d]
  have HD9 := (setRow_other w7 (w.heap.size + 1) g #[.int .i64 3, .int .i64 0, .int .i64 0, .int .i64 p.c, .int .i64 p.f, .int .u64 0, .int .u64 p.t, .string p.d] (by have := H6.out.lt; omega)).trans H6.out.d
  obtain ⟨w9, hw9⟩ : ∃ X, X = w7.setRow (w.heap.size + 1) #[.int .i64 3, .int .i64 0, .int .i64 0, .int .i64 p.c, .int .i64 p.f, .int .u64 0, .int .u64 p.t, .string p.d] := ⟨_, rfl⟩
  rw [← hw9] at HR' HO9 HD9 ⊢
  clear hw9
  go_wp2_with fail
  have hF := HF.out
  rw [if_neg (show ¬ b ≤ 27 by omega), if_neg (show ¬ b ≤ 32 by omega), if_pos (show b ≤ 35 by omega)] at hF
  rw [hF]
  dsimp only
  exact bodyPost_ret (results_cell_row Try.results17 _ _ (w.heap.size + 1) TSt _ (0, 0) _ rfl HR' Try.underlying44 rfl (by kernel_rfl)) rfl ⟨rfl, HD9, HO9⟩
set_option maxRecDepth 20000 in
set_option maxHeartbeats 8000000 in
theorem step_3 {w : World} {g : Nat} {st : Int} (c : Cfg) (hc : code c 11 0 = 0) (h1 : 1 ≤ c.n) (h4 : c.n ≤ 4) (ha : c.f1 ≤ 9223372036854775807) (h : D TD w g st) (h27 : ¬ belZ st 40 ≤ 27) (h32 : ¬ belZ st 40 ≤ 32) (h35 : ¬ belZ st 40 ≤ 35) (h36 : belZ st 40 = 36) : Calls Try.prog 17 #[.pointer (some ⟨g, 0, none⟩), .agg c.cells] w fun e w' => e = .returned (.agg (stepF st (c.n : Int) c.f1).1.cells) ∧ D TD w' g (stepF st (c.n : Int) c.f1).2 ∧ On g w w' := by
  have hlt := blk_lt h
  have HW := Lib.hid (fun V => workers_any c h4 V)
  rw [if_pos hc] at HW
  obtain ⟨m, hm⟩ : ∃ m : Int, m = 2 * (c.n : Int) := ⟨_, rfl⟩
  rw [← hm] at HW
  have hm1 : ¬ m = 0 := by omega
  have hm2 : (m == 0) = false := by simpa using hm1
  have HM := Lib.hid hm
  have hmm : m ≤ 9223372036854775807 := by omega
  have hnn : (c.n : Int) ≤ 9223372036854775807 := by omega
  have HN := Lib.hid (And.intro hmm (And.intro hnn ha))
  unfold Cfg.cells at HW ⊢
  have d0 : D TD ((w.alloc (.cells #[.slice c.A c.n c.cap, .int .i64 c.f1, .int .i64 c.f2, .int .i64 c.f3, .int .i64 c.f4, .int .i64 c.f5, .int .i64 c.f6, .int .i64 c.f7, .int .i64 c.f8, .int .i64 c.f9, .int .i64 c.f10, .int .u64 c.f11] TCf)).alloc (.cells #[.int .i64 0, .int .i64 0, .int .i64 0, .int .i64 0, .int .i64 0, .int .u64 0, .int .u64 0, .string ⟨#[]⟩] TSt)) g st := blk_alloc (blk_alloc h)
  have cf0 : ((w.alloc (.cells #[.slice c.A c.n c.cap, .int .i64 c.f1, .int .i64 c.f2, .int .i64 c.f3, .int .i64 c.f4, .int .i64 c.f5, .int .i64 c.f6, .int .i64 c.f7, .int .i64 c.f8, .int .i64 c.f9, .int .i64 c.f10, .int .u64 c.f11] TCf)).alloc (.cells #[.int .i64 0, .int .i64 0, .int .i64 0, .int .i64 0, .int .i64 0, .int .u64 0, .int .u64 0, .string ⟨#[]⟩] TSt)).heap[w.heap.size]? = some (.cells #[.slice c.A c.n c.cap, .int .i64 c.f1, .int .i64 c.f2, .int .i64 c.f3, .int .i64 c.f4, .int .i64 c.f5, .int .i64 c.f6, .int .i64 c.f7, .int .i64 c.f8, .int .i64 c.f9, .int .i64 c.f10, .int .u64 c.f11] TCf (0, 0)) := blk_alloc (heap_alloc_new w _)
  have r0 : ((w.alloc (.cells #[.slice c.A c.n c.cap, .int .i64 c.f1, .int .i64 c.f2, .int .i64 c.f3, .int .i64 c.f4, .int .i64 c.f5, .int .i64 c.f6, .int .i64 c.f7, .int .i64 c.f8, .int .i64 c.f9, .int .i64 c.f10, .int .u64 c.f11] TCf)).alloc (.cells #[.int .i64 0, .int .i64 0, .int .i64 0, .int .i64 0, .int .i64 0, .int .u64 0, .int .u64 0, .string ⟨#[]⟩] TSt)).heap[w.heap.size + 1]? = some (.cells #[.int .i64 0, .int .i64 0, .int .i64 0, .int .i64 0, .int .i64 0, .int .u64 0, .int .u64 0, .string ⟨#[]⟩] TSt (0, 0)) := heap_at _ _ _ (by simp)
  have o0 : On g w ((w.alloc (.cells #[.slice c.A c.n c.cap, .int .i64 c.f1, .int .i64 c.f2, .int .i64 c.f3, .int .i64 c.f4, .int .i64 c.f5, .int .i64 c.f6, .int .i64 c.f7, .int .i64 c.f8, .int .i64 c.f9, .int .i64 c.f10, .int .u64 c.f11] TCf)).alloc (.cells #[.int .i64 0, .int .i64 0, .int .i64 0, .int .i64 0, .int .i64 0, .int .u64 0, .int .u64 0, .string ⟨#[]⟩] TSt)) := ((On.refl _ _).alloc _).alloc _
  obtain ⟨w0, hw0⟩ : ∃ X, X = (w.alloc (.cells #[.slice c.A c.n c.cap, .int .i64 c.f1, .int .i64 c.f2, .int .i64 c.f3, .int .i64 c.f4, .int .i64 c.f5, .int .i64 c.f6, .int .i64 c.f7, .int .i64 c.f8, .int .i64 c.f9, .int .i64 c.f10, .int .u64 c.f11] TCf)).alloc (.cells #[.int .i64 0, .int .i64 0, .int .i64 0, .int .i64 0, .int .i64 0, .int .u64 0, .int .u64 0, .string ⟨#[]⟩] TSt) := ⟨_, rfl⟩
  rw [← hw0] at d0 cf0 r0 o0
  have H0 := Lib.hid (And.intro d0 (And.intro cf0 (And.intro r0 (And.intro o0 hlt))))
  have q := fun i => cell_of_row w0 w.heap.size i _ _ (0, 0) cf0
  have q0 := q 0; have q1 := q 1; have q2 := q 2; have q3 := q 3; have q4 := q 4; have q5 := q 5; have q6 := q 6; have q7 := q 7; have q8 := q 8; have q9 := q 9; have q10 := q 10; have q11 := q 11
  clear q d0 cf0 r0 o0 hlt h hc hm hmm hnn ha h1 h4
  go_enter Try.func17, Try.ntmps17
  go_upto_region 1 with fail
  rw [← hw0]
  clear hw0
  go_wp2_with fail
  refine (HW.out _).mono ?_
  rintro _ w1 ⟨rfl, b1⟩
  clear q0 q1 q2 q3 q4 q5 q6 q7 q8 q9 q10 q11
  have dd : D TD w1 g st := (b1.block _ (blk_lt H0.out.1)).trans H0.out.1
  have cf := (b1.block _ (blk_lt H0.out.2.1)).trans H0.out.2.1
  have rr := (b1.block _ (blk_lt H0.out.2.2.1)).trans H0.out.2.2.1
  have oo : On g w w1 := H0.out.2.2.2.1.trans (On.of_below b1)
  have hS := blk_lt rr
  have hx := heap_alloc_new w1 (.cells #[.int .i64 0, .int .i64 0, .int .i64 0, .int .i64 0, .int .i64 0, .int .u64 0, .int .u64 0, .string ⟨#[]⟩] TSt)
  obtain ⟨S, hSd⟩ : ∃ X, X = w1.heap.size := ⟨_, rfl⟩
  have h2 : SB w (w1.alloc (.cells #[.int .i64 0, .int .i64 0, .int .i64 0, .int .i64 0, .int .i64 0, .int .u64 0, .int .u64 0, .string ⟨#[]⟩] TSt)) g S st c #[.int .i64 0, .int .i64 0, .int .i64 0, .int .i64 0, .int .i64 0, .int .u64 0, .int .u64 0, .string ⟨#[]⟩] := ⟨blk_alloc dd, blk_alloc cf, blk_alloc rr, by rw [hSd]; exact hx, oo.alloc _, H0.out.2.2.2.2, by omega⟩
  obtain ⟨w2, hw2⟩ : ∃ X, X = w1.alloc (.cells #[.int .i64 0, .int .i64 0, .int .i64 0, .int .i64 0, .int .i64 0, .int .u64 0, .int .u64 0, .string ⟨#[]⟩] TSt) := ⟨_, rfl⟩
  rw [← hw2] at h2
  have H2 := Lib.hid h2
  clear b1 dd cf rr oo hS hx h2 H0 HW
  go_upto_region 5 with fail
  rw [← hw2, ← hSd]
  clear hw2 hSd
  go_wp2_with fail
  refine (below_on H2.out.d (by decide)).mono ?_
  rintro _ w3 ⟨rfl, d, o⟩
  have H3 := Lib.hid (H2.out.call d o)
  clear d o H2
  have hF : stepF st (c.n : Int) c.f1 = stepF st (c.n : Int) c.f1 := rfl
  conv at hF => rhs; unfold stepF
  rw [← HM.out] at hF
  obtain ⟨b, hb⟩ : ∃ b, b = belZ st 40 := ⟨_, rfl⟩
  rw [← hb] at hF ⊢ h27 h32 h35 h36
  have HF := Lib.hid hF
  clear hb hF
  obtain ⟨s1, hs1⟩ : ∃ s, s = nxZ st 40 := ⟨_, rfl⟩
  rw [← hs1] at HF H3
  clear hs1
  have c0 := cell_of_row w3 S 0 _ _ (0, 0) H3.out.box
  have f0 := fr_of H3.out.box 0
  have H4 : Hid (SB w (w3.setCell ⟨S, 0, none⟩ (.int .i64 5)) g S (s1) c #[.int .i64 5, .int .i64 0, .int .i64 0, .int .i64 0, .int .i64 0, .int .u64 0, .int .u64 0, .string ⟨#[]⟩]) := Lib.hid (H3.out.set 0 (.int .i64 5))
  go_wp2_with fail
  refine (below_on H4.out.d HN.out.1).mono ?_
  rintro _ w5 ⟨rfl, d, o⟩
  have h := H4.out.call d o
  clear d o
  have c2 := cell_of_row w5 S 2 _ _ (0, 0) h.box
  have f2 := fr_of h.box 2
  have H6 : Hid (SB w (w5.setCell ⟨S, 2, none⟩ (.int .i64 (belZ s1 m))) g S (nxZ s1 m) c #[.int .i64 5, .int .i64 0, .int .i64 (belZ s1 m), .int .i64 0, .int .i64 0, .int .u64 0, .int .u64 0, .string ⟨#[]⟩]) := Lib.hid (h.set 2 (.int .i64 (belZ s1 m)))
  clear h H4 H3 c0 f0
  go_upto_region 28 with fail
  obtain ⟨w7, hw7⟩ : ∃ X, X = (w5.setCell ⟨S, 2, none⟩ (.int .i64 (belZ s1 m))) := ⟨_, rfl⟩
  rw [← hw7] at H6 ⊢
  clear hw7
  refine wp_region_lit ?_
  refine wpList_load_row rfl TSt _ rfl S rfl TSt _ (0, 0) _ H6.out.box Try.underlying44 rfl (by kernel_rfl) ?_
  refine wpList_store_rowTo rfl TSt _ _ rfl rfl (w.heap.size + 1) _ rfl rfl TSt _ H6.out.res (by kernel_rfl) rfl (by simp [Value.oneCell']) ?_
  refine wpList_nil ?_
  have HR' := setRow_heap w7 (w.heap.size + 1) _ #[.int .i64 5, .int .i64 0, .int .i64 (belZ s1 m), .int .i64 0, .int .i64 0, .int .u64 0, .int .u64 0, .string ⟨#[]⟩] TSt (0, 0) H6.out.res
  have HO9 := H6.out.on.setRow (show w.heap.size ≤ w.heap.size + 1 by omega) #[.int .i64 5, .int .i64 0, .int .i64 (belZ s1 m), .int .i64 0, .int .i64 0, .int .u64 0, .int .u64 0, .string ⟨#[]⟩]
  have HD9 := (setRow_other w7 (w.heap.size + 1) g #[.int .i64 5, .int .i64 0, .int .i64 (belZ s1 m), .int .i64 0, .int .i64 0, .int .u64 0, .int .u64 0, .string ⟨#[]⟩] (by have := H6.out.lt; omega)).trans H6.out.d
  obtain ⟨w9, hw9⟩ : ∃ X, X = w7.setRow (w.heap.size + 1) #[.int .i64 5, .int .i64 0, .int .i64 (belZ s1 m), .int .i64 0, .int .i64 0, .int .u64 0, .int .u64 0, .string ⟨#[]⟩] := ⟨_, rfl⟩
  rw [← hw9] at HR' HO9 HD9 ⊢
  clear hw9
  go_wp2_with fail
  have hF := HF.out
  rw [if_neg (show ¬ b ≤ 27 by omega), if_neg (show ¬ b ≤ 32 by omega), if_neg (show ¬ b ≤ 35 by omega), if_pos (show b = 36 by omega)] at hF
  rw [hF]
  dsimp only
  exact bodyPost_ret (results_cell_row Try.results17 _ _ (w.heap.size + 1) TSt _ (0, 0) _ rfl HR' Try.underlying44 rfl (by kernel_rfl)) rfl ⟨rfl, HD9, HO9⟩
set_option maxRecDepth 20000 in
set_option maxHeartbeats 8000000 in
theorem step_4 {w : World} {g : Nat} {st : Int} (c : Cfg) (hc : code c 11 0 = 0) (h1 : 1 ≤ c.n) (h4 : c.n ≤ 4) (ha : c.f1 ≤ 9223372036854775807) (h : D TD w g st) (h27 : ¬ belZ st 40 ≤ 27) (h32 : ¬ belZ st 40 ≤ 32) (h35 : ¬ belZ st 40 ≤ 35) (h36 : ¬ belZ st 40 = 36) (h37 : belZ st 40 = 37) : Calls Try.prog 17 #[.pointer (some ⟨g, 0, none⟩), .agg c.cells] w fun e w' => e = .returned (.agg (stepF st (c.n : Int) c.f1).1.cells) ∧ D TD w' g (stepF st (c.n : Int) c.f1).2 ∧ On g w w' := by
  have hlt := blk_lt h
  have HW := Lib.hid (fun V => workers_any c h4 V)
  rw [if_pos hc] at HW
  obtain ⟨m, hm⟩ : ∃ m : Int, m = 2 * (c.n : Int) := ⟨_, rfl⟩
  rw [← hm] at HW
  have hm1 : ¬ m = 0 := by omega
  have hm2 : (m == 0) = false := by simpa using hm1
  have HM := Lib.hid hm
  have hmm : m ≤ 9223372036854775807 := by omega
  have hnn : (c.n : Int) ≤ 9223372036854775807 := by omega
  have HN := Lib.hid (And.intro hmm (And.intro hnn ha))
  unfold Cfg.cells at HW ⊢
  have d0 : D TD ((w.alloc (.cells #[.slice c.A c.n c.cap, .int .i64 c.f1, .int .i64 c.f2, .int .i64 c.f3, .int .i64 c.f4, .int .i64 c.f5, .int .i64 c.f6, .int .i64 c.f7, .int .i64 c.f8, .int .i64 c.f9, .int .i64 c.f10, .int .u64 c.f11] TCf)).alloc (.cells #[.int .i64 0, .int .i64 0, .int .i64 0, .int .i64 0, .int .i64 0, .int .u64 0, .int .u64 0, .string ⟨#[]⟩] TSt)) g st := blk_alloc (blk_alloc h)
  have cf0 : ((w.alloc (.cells #[.slice c.A c.n c.cap, .int .i64 c.f1, .int .i64 c.f2, .int .i64 c.f3, .int .i64 c.f4, .int .i64 c.f5, .int .i64 c.f6, .int .i64 c.f7, .int .i64 c.f8, .int .i64 c.f9, .int .i64 c.f10, .int .u64 c.f11] TCf)).alloc (.cells #[.int .i64 0, .int .i64 0, .int .i64 0, .int .i64 0, .int .i64 0, .int .u64 0, .int .u64 0, .string ⟨#[]⟩] TSt)).heap[w.heap.size]? = some (.cells #[.slice c.A c.n c.cap, .int .i64 c.f1, .int .i64 c.f2, .int .i64 c.f3, .int .i64 c.f4, .int .i64 c.f5, .int .i64 c.f6, .int .i64 c.f7, .int .i64 c.f8, .int .i64 c.f9, .int .i64 c.f10, .int .u64 c.f11] TCf (0, 0)) := blk_alloc (heap_alloc_new w _)
  have r0 : ((w.alloc (.cells #[.slice c.A c.n c.cap, .int .i64 c.f1, .int .i64 c.f2, .int .i64 c.f3, .int .i64 c.f4, .int .i64 c.f5, .int .i64 c.f6, .int .i64 c.f7, .int .i64 c.f8, .int .i64 c.f9, .int .i64 c.f10, .int .u64 c.f11] TCf)).alloc (.cells #[.int .i64 0, .int .i64 0, .int .i64 0, .int .i64 0, .int .i64 0, .int .u64 0, .int .u64 0, .string ⟨#[]⟩] TSt)).heap[w.heap.size + 1]? = some (.cells #[.int .i64 0, .int .i64 0, .int .i64 0, .int .i64 0, .int .i64 0, .int .u64 0, .int .u64 0, .string ⟨#[]⟩] TSt (0, 0)) := heap_at _ _ _ (by simp)
  have o0 : On g w ((w.alloc (.cells #[.slice c.A c.n c.cap, .int .i64 c.f1, .int .i64 c.f2, .int .i64 c.f3, .int .i64 c.f4, .int .i64 c.f5, .int .i64 c.f6, .int .i64 c.f7, .int .i64 c.f8, .int .i64 c.f9, .int .i64 c.f10, .int .u64 c.f11] TCf)).alloc (.cells #[.int .i64 0, .int .i64 0, .int .i64 0, .int .i64 0, .int .i64 0, .int .u64 0, .int .u64 0, .string ⟨#[]⟩] TSt)) := ((On.refl _ _).alloc _).alloc _
  obtain ⟨w0, hw0⟩ : ∃ X, X = (w.alloc (.cells #[.slice c.A c.n c.cap, .int .i64 c.f1, .int .i64 c.f2, .int .i64 c.f3, .int .i64 c.f4, .int .i64 c.f5, .int .i64 c.f6, .int .i64 c.f7, .int .i64 c.f8, .int .i64 c.f9, .int .i64 c.f10, .int .u64 c.f11] TCf)).alloc (.cells #[.int .i64 0, .int .i64 0, .int .i64 0, .int .i64 0, .int .i64 0, .int .u64 0, .int .u64 0, .string ⟨#[]⟩] TSt) := ⟨_, rfl⟩
  rw [← hw0] at d0 cf0 r0 o0
  have H0 := Lib.hid (And.intro d0 (And.intro cf0 (And.intro r0 (And.intro o0 hlt))))
  have q := fun i => cell_of_row w0 w.heap.size i _ _ (0, 0) cf0
  have q0 := q 0; have q1 := q 1; have q2 := q 2; have q3 := q 3; have q4 := q 4; have q5 := q 5; have q6 := q 6; have q7 := q 7; have q8 := q 8; have q9 := q 9; have q10 := q 10; have q11 := q 11
  clear q d0 cf0 r0 o0 hlt h hc hm hmm hnn ha h1 h4
  go_enter Try.func17, Try.ntmps17
  go_upto_region 1 with fail
  rw [← hw0]
  clear hw0
  go_wp2_with fail
  refine (HW.out _).mono ?_
  rintro _ w1 ⟨rfl, b1⟩
  clear q0 q1 q2 q3 q4 q5 q6 q7 q8 q9 q10 q11
  have dd : D TD w1 g st := (b1.block _ (blk_lt H0.out.1)).trans H0.out.1
  have cf := (b1.block _ (blk_lt H0.out.2.1)).trans H0.out.2.1
  have rr := (b1.block _ (blk_lt H0.out.2.2.1)).trans H0.out.2.2.1
  have oo : On g w w1 := H0.out.2.2.2.1.trans (On.of_below b1)
  have hS := blk_lt rr
  have hx := heap_alloc_new w1 (.cells #[.int .i64 0, .int .i64 0, .int .i64 0, .int .i64 0, .int .i64 0, .int .u64 0, .int .u64 0, .string ⟨#[]⟩] TSt)
  obtain ⟨S, hSd⟩ : ∃ X, X = w1.heap.size := ⟨_, rfl⟩
  have h2 : SB w (w1.alloc (.cells #[.int .i64 0, .int .i64 0, .int .i64 0, .int .i64 0, .int .i64 0, .int .u64 0, .int .u64 0, .string ⟨#[]⟩] TSt)) g S st c #[.int .i64 0, .int .i64 0, .int .i64 0, .int .i64 0, .int .i64 0, .int .u64 0, .int .u64 0, .string ⟨#[]⟩] := ⟨blk_alloc dd, blk_alloc cf, blk_alloc rr, by rw [hSd]; exact hx, oo.alloc _, H0.out.2.2.2.2, by omega⟩
  obtain ⟨w2, hw2⟩ : ∃ X, X = w1.alloc (.cells #[.int .i64 0, .int .i64 0, .int .i64 0, .int .i64 0, .int .i64 0, .int .u64 0, .int .u64 0, .string ⟨#[]⟩] TSt) := ⟨_, rfl⟩
  rw [← hw2] at h2
  have H2 := Lib.hid h2
  clear b1 dd cf rr oo hS hx h2 H0 HW
  go_upto_region 5 with fail
  rw [← hw2, ← hSd]
  clear hw2 hSd
  go_wp2_with fail
  refine (below_on H2.out.d (by decide)).mono ?_
  rintro _ w3 ⟨rfl, d, o⟩
  have H3 := Lib.hid (H2.out.call d o)
  clear d o H2
  have hF : stepF st (c.n : Int) c.f1 = stepF st (c.n : Int) c.f1 := rfl
  conv at hF => rhs; unfold stepF
  rw [← HM.out] at hF
  obtain ⟨b, hb⟩ : ∃ b, b = belZ st 40 := ⟨_, rfl⟩
  rw [← hb] at hF ⊢ h27 h32 h35 h36 h37
  have HF := Lib.hid hF
  clear hb hF
  obtain ⟨s1, hs1⟩ : ∃ s, s = nxZ st 40 := ⟨_, rfl⟩
  rw [← hs1] at HF H3
  clear hs1
  have c0 := cell_of_row w3 S 0 _ _ (0, 0) H3.out.box
  have f0 := fr_of H3.out.box 0
  have H4 : Hid (SB w (w3.setCell ⟨S, 0, none⟩ (.int .i64 6)) g S (s1) c #[.int .i64 6, .int .i64 0, .int .i64 0, .int .i64 0, .int .i64 0, .int .u64 0, .int .u64 0, .string ⟨#[]⟩]) := Lib.hid (H3.out.set 0 (.int .i64 6))
  go_wp2_with fail
  refine (below_on H4.out.d (by decide)).mono ?_
  rintro _ w5 ⟨rfl, d, o⟩
  have h := H4.out.call d o
  clear d o
  have c1 := cell_of_row w5 S 1 _ _ (0, 0) h.box
  have f1 := fr_of h.box 1
  have H6 : Hid (SB w (w5.setCell ⟨S, 1, none⟩ (.int .i64 (belZ s1 2))) g S (nxZ s1 2) c #[.int .i64 6, .int .i64 (belZ s1 2), .int .i64 0, .int .i64 0, .int .i64 0, .int .u64 0, .int .u64 0, .string ⟨#[]⟩]) := Lib.hid (h.set 1 (.int .i64 (belZ s1 2)))
  have qa := cell_of_row _ w.heap.size 1 _ _ (0, 0) H6.out.cfg
  clear h H4 H3 c0 f0
  go_wp2_with fail
  refine (below_on H6.out.d HN.out.2.2).mono ?_
  rintro _ w8 ⟨rfl, d, o⟩
  have h := H6.out.call d o
  clear d o
  have c2 := cell_of_row w8 S 2 _ _ (0, 0) h.box
  have f2 := fr_of h.box 2
  have H8 : Hid (SB w (w8.setCell ⟨S, 2, none⟩ (.int .i64 (wrap64 (1 + belZ (nxZ s1 2) c.f1)))) g S (nxZ (nxZ s1 2) c.f1) c #[.int .i64 6, .int .i64 (belZ s1 2), .int .i64 (wrap64 (1 + belZ (nxZ s1 2) c.f1)), .int .i64 0, .int .i64 0, .int .u64 0, .int .u64 0, .string ⟨#[]⟩]) := Lib.hid (h.set 2 (.int .i64 (wrap64 (1 + belZ (nxZ s1 2) c.f1))))
  clear h H6 qa c1 f1
  go_upto_region 28 with fail
  obtain ⟨w7, hw7⟩ : ∃ X, X = (w8.setCell ⟨S, 2, none⟩ (.int .i64 (wrap64 (1 + belZ (nxZ s1 2) c.f1)))) := ⟨_, rfl⟩
  rw [← hw7] at H8 ⊢
  clear hw7
  refine wp_region_lit ?_
  refine wpList_load_row rfl TSt _ rfl S rfl TSt _ (0, 0) _ H8.out.box Try.underlying44 rfl (by kernel_rfl) ?_
  refine wpList_store_rowTo rfl TSt _ _ rfl rfl (w.heap.size + 1) _ rfl rfl TSt _ H8.out.res (by kernel_rfl) rfl (by simp [Value.oneCell']) ?_
  refine wpList_nil ?_
  have HR' := setRow_heap w7 (w.heap.size + 1) _ #[.int .i64 6, .int .i64 (belZ s1 2), .int .i64 (wrap64 (1 + belZ (nxZ s1 2) c.f1)), .int .i64 0, .int .i64 0, .int .u64 0, .int .u64 0, .string ⟨#[]⟩] TSt (0, 0) H8.out.res
  have HO9 := H8.out.on.setRow (show w.heap.size ≤ w.heap.size + 1 by omega) #[.int .i64 6, .int .i64 (belZ s1 2), .int .i64 (wrap64 (1 + belZ (nxZ s1 2) c.f1)), .int .i64 0, .int .i64 0, .int .u64 0, .int .u64 0, .string ⟨#[]⟩]
  have HD9 := (setRow_other w7 (w.heap.size + 1) g #[.int .i64 6, .int .i64 (belZ s1 2), .int .i64 (wrap64 (1 + belZ (nxZ s1 2) c.f1)), .int .i64 0, .int .i64 0, .int .u64 0, .int .u64 0, .string ⟨#[]⟩] (by have := H8.out.lt; omega)).trans H8.out.d
  obtain ⟨w9, hw9⟩ : ∃ X, X = w7.setRow (w.heap.size + 1) #[.int .i64 6, .int .i64 (belZ s1 2), .int .i64 (wrap64 (1 + belZ (nxZ s1 2) c.f1)), .int .i64 0, .int .i64 0, .int .u64 0, .int .u64 0, .string ⟨#[]⟩] := ⟨_, rfl⟩
  rw [← hw9] at HR' HO9 HD9 ⊢
  clear hw9
  go_wp2_with fail
  have hF := HF.out
  rw [if_neg (show ¬ b ≤ 27 by omega), if_neg (show ¬ b ≤ 32 by omega), if_neg (show ¬ b ≤ 35 by omega), if_neg (show ¬ b = 36 by omega), if_pos (show b = 37 by omega)] at hF
  rw [hF]
  dsimp only
  exact bodyPost_ret (results_cell_row Try.results17 _ _ (w.heap.size + 1) TSt _ (0, 0) _ rfl HR' Try.underlying44 rfl (by kernel_rfl)) rfl ⟨rfl, HD9, HO9⟩
set_option maxRecDepth 20000 in
set_option maxHeartbeats 8000000 in
theorem step_5 {w : World} {g : Nat} {st : Int} (c : Cfg) (hc : code c 11 0 = 0) (h1 : 1 ≤ c.n) (h4 : c.n ≤ 4) (ha : c.f1 ≤ 9223372036854775807) (h : D TD w g st) (h27 : ¬ belZ st 40 ≤ 27) (h32 : ¬ belZ st 40 ≤ 32) (h35 : ¬ belZ st 40 ≤ 35) (h36 : ¬ belZ st 40 = 36) (h37 : ¬ belZ st 40 = 37) (h38 : belZ st 40 = 38) : Calls Try.prog 17 #[.pointer (some ⟨g, 0, none⟩), .agg c.cells] w fun e w' => e = .returned (.agg (stepF st (c.n : Int) c.f1).1.cells) ∧ D TD w' g (stepF st (c.n : Int) c.f1).2 ∧ On g w w' := by
  have hlt := blk_lt h
  have HW := Lib.hid (fun V => workers_any c h4 V)
  rw [if_pos hc] at HW
  obtain ⟨m, hm⟩ : ∃ m : Int, m = 2 * (c.n : Int) := ⟨_, rfl⟩
  rw [← hm] at HW
  have hm1 : ¬ m = 0 := by omega
  have hm2 : (m == 0) = false := by simpa using hm1
  have HM := Lib.hid hm
  have hmm : m ≤ 9223372036854775807 := by omega
  have hnn : (c.n : Int) ≤ 9223372036854775807 := by omega
  have HN := Lib.hid (And.intro hmm (And.intro hnn ha))
  unfold Cfg.cells at HW ⊢
  have d0 : D TD ((w.alloc (.cells #[.slice c.A c.n c.cap, .int .i64 c.f1, .int .i64 c.f2, .int .i64 c.f3, .int .i64 c.f4, .int .i64 c.f5, .int .i64 c.f6, .int .i64 c.f7, .int .i64 c.f8, .int .i64 c.f9, .int .i64 c.f10, .int .u64 c.f11] TCf)).alloc (.cells #[.int .i64 0, .int .i64 0, .int .i64 0, .int .i64 0, .int .i64 0, .int .u64 0, .int .u64 0, .string ⟨#[]⟩] TSt)) g st := blk_alloc (blk_alloc h)
  have cf0 : ((w.alloc (.cells #[.slice c.A c.n c.cap, .int .i64 c.f1, .int .i64 c.f2, .int .i64 c.f3, .int .i64 c.f4, .int .i64 c.f5, .int .i64 c.f6, .int .i64 c.f7, .int .i64 c.f8, .int .i64 c.f9, .int .i64 c.f10, .int .u64 c.f11] TCf)).alloc (.cells #[.int .i64 0, .int .i64 0, .int .i64 0, .int .i64 0, .int .i64 0, .int .u64 0, .int .u64 0, .string ⟨#[]⟩] TSt)).heap[w.heap.size]? = some (.cells #[.slice c.A c.n c.cap, .int .i64 c.f1, .int .i64 c.f2, .int .i64 c.f3, .int .i64 c.f4, .int .i64 c.f5, .int .i64 c.f6, .int .i64 c.f7, .int .i64 c.f8, .int .i64 c.f9, .int .i64 c.f10, .int .u64 c.f11] TCf (0, 0)) := blk_alloc (heap_alloc_new w _)
  have r0 : ((w.alloc (.cells #[.slice c.A c.n c.cap, .int .i64 c.f1, .int .i64 c.f2, .int .i64 c.f3, .int .i64 c.f4, .int .i64 c.f5, .int .i64 c.f6, .int .i64 c.f7, .int .i64 c.f8, .int .i64 c.f9, .int .i64 c.f10, .int .u64 c.f11] TCf)).alloc (.cells #[.int .i64 0, .int .i64 0, .int .i64 0, .int .i64 0, .int .i64 0, .int .u64 0, .int .u64 0, .string ⟨#[]⟩] TSt)).heap[w.heap.size + 1]? = some (.cells #[.int .i64 0, .int .i64 0, .int .i64 0, .int .i64 0, .int .i64 0, .int .u64 0, .int .u64 0, .string ⟨#[]⟩] TSt (0, 0)) := heap_at _ _ _ (by simp)
  have o0 : On g w ((w.alloc (.cells #[.slice c.A c.n c.cap, .int .i64 c.f1, .int .i64 c.f2, .int .i64 c.f3, .int .i64 c.f4, .int .i64 c.f5, .int .i64 c.f6, .int .i64 c.f7, .int .i64 c.f8, .int .i64 c.f9, .int .i64 c.f10, .int .u64 c.f11] TCf)).alloc (.cells #[.int .i64 0, .int .i64 0, .int .i64 0, .int .i64 0, .int .i64 0, .int .u64 0, .int .u64 0, .string ⟨#[]⟩] TSt)) := ((On.refl _ _).alloc _).alloc _
  obtain ⟨w0, hw0⟩ : ∃ X, X = (w.alloc (.cells #[.slice c.A c.n c.cap, .int .i64 c.f1, .int .i64 c.f2, .int .i64 c.f3, .int .i64 c.f4, .int .i64 c.f5, .int .i64 c.f6, .int .i64 c.f7, .int .i64 c.f8, .int .i64 c.f9, .int .i64 c.f10, .int .u64 c.f11] TCf)).alloc (.cells #[.int .i64 0, .int .i64 0, .int .i64 0, .int .i64 0, .int .i64 0, .int .u64 0, .int .u64 0, .string ⟨#[]⟩] TSt) := ⟨_, rfl⟩
  rw [← hw0] at d0 cf0 r0 o0
  have H0 := Lib.hid (And.intro d0 (And.intro cf0 (And.intro r0 (And.intro o0 hlt))))
  have q := fun i => cell_of_row w0 w.heap.size i _ _ (0, 0) cf0
  have q0 := q 0; have q1 := q 1; have q2 := q 2; have q3 := q 3; have q4 := q 4; have q5 := q 5; have q6 := q 6; have q7 := q 7; have q8 := q 8; have q9 := q 9; have q10 := q 10; have q11 := q 11
  clear q d0 cf0 r0 o0 hlt h hc hm hmm hnn ha h1 h4
  go_enter Try.func17, Try.ntmps17
  go_upto_region 1 with fail
  rw [← hw0]
  clear hw0
  go_wp2_with fail
  refine (HW.out _).mono ?_
  rintro _ w1 ⟨rfl, b1⟩
  clear q0 q1 q2 q3 q4 q5 q6 q7 q8 q9 q10 q11
  have dd : D TD w1 g st := (b1.block _ (blk_lt H0.out.1)).trans H0.out.1
  have cf := (b1.block _ (blk_lt H0.out.2.1)).trans H0.out.2.1
  have rr := (b1.block _ (blk_lt H0.out.2.2.1)).trans H0.out.2.2.1
  have oo : On g w w1 := H0.out.2.2.2.1.trans (On.of_below b1)
  have hS := blk_lt rr
  have hx := heap_alloc_new w1 (.cells #[.int .i64 0, .int .i64 0, .int .i64 0, .int .i64 0, .int .i64 0, .int .u64 0, .int .u64 0, .string ⟨#[]⟩] TSt)
  obtain ⟨S, hSd⟩ : ∃ X, X = w1.heap.size := ⟨_, rfl⟩
  have h2 : SB w (w1.alloc (.cells #[.int .i64 0, .int .i64 0, .int .i64 0, .int .i64 0, .int .i64 0, .int .u64 0, .int .u64 0, .string ⟨#[]⟩] TSt)) g S st c #[.int .i64 0, .int .i64 0, .int .i64 0, .int .i64 0, .int .i64 0, .int .u64 0, .int .u64 0, .string ⟨#[]⟩] := ⟨blk_alloc dd, blk_alloc cf, blk_alloc rr, by rw [hSd]; exact hx, oo.alloc _, H0.out.2.2.2.2, by omega⟩
  obtain ⟨w2, hw2⟩ : ∃ X, X = w1.alloc (.cells #[.int .i64 0, .int .i64 0, .int .i64 0, .int .i64 0, .int .i64 0, .int .u64 0, .int .u64 0, .string ⟨#[]⟩] TSt) := ⟨_, rfl⟩
  rw [← hw2] at h2
  have H2 := Lib.hid h2
  clear b1 dd cf rr oo hS hx h2 H0 HW
  go_upto_region 5 with fail
  rw [← hw2, ← hSd]
  clear hw2 hSd
  go_wp2_with fail
  refine (below_on H2.out.d (by decide)).mono ?_
  rintro _ w3 ⟨rfl, d, o⟩
  have H3 := Lib.hid (H2.out.call d o)
  clear d o H2
  have hF : stepF st (c.n : Int) c.f1 = stepF st (c.n : Int) c.f1 := rfl
  conv at hF => rhs; unfold stepF
  rw [← HM.out] at hF
  obtain ⟨b, hb⟩ : ∃ b, b = belZ st 40 := ⟨_, rfl⟩
  rw [← hb] at hF ⊢ h27 h32 h35 h36 h37 h38
  have HF := Lib.hid hF
  clear hb hF
  obtain ⟨s1, hs1⟩ : ∃ s, s = nxZ st 40 := ⟨_, rfl⟩
  rw [← hs1] at HF H3
  clear hs1
  have c0 := cell_of_row w3 S 0 _ _ (0, 0) H3.out.box
  have f0 := fr_of H3.out.box 0
  have H4 : Hid (SB w (w3.setCell ⟨S, 0, none⟩ (.int .i64 4)) g S (s1) c #[.int .i64 4, .int .i64 0, .int .i64 0, .int .i64 0, .int .i64 0, .int .u64 0, .int .u64 0, .string ⟨#[]⟩]) := Lib.hid (H3.out.set 0 (.int .i64 4))
  go_wp2_with fail
  refine (below_on H4.out.d (by decide)).mono ?_
  rintro _ w5 ⟨rfl, d, o⟩
  have h := H4.out.call d o
  clear d o
  have c1 := cell_of_row w5 S 1 _ _ (0, 0) h.box
  have f1 := fr_of h.box 1
  have H6 : Hid (SB w (w5.setCell ⟨S, 1, none⟩ (.int .i64 (belZ s1 2))) g S (nxZ s1 2) c #[.int .i64 4, .int .i64 (belZ s1 2), .int .i64 0, .int .i64 0, .int .i64 0, .int .u64 0, .int .u64 0, .string ⟨#[]⟩]) := Lib.hid (h.set 1 (.int .i64 (belZ s1 2)))
  clear h H4 H3 c0 f0
  go_upto_region 28 with fail
  obtain ⟨w7, hw7⟩ : ∃ X, X = (w5.setCell ⟨S, 1, none⟩ (.int .i64 (belZ s1 2))) := ⟨_, rfl⟩
  rw [← hw7] at H6 ⊢
  clear hw7
  refine wp_region_lit ?_
  refine wpList_load_row rfl TSt _ rfl S rfl TSt _ (0, 0) _ H6.out.box Try.underlying44 rfl (by kernel_rfl) ?_
  refine wpList_store_rowTo rfl TSt _ _ rfl rfl (w.heap.size + 1) _ rfl rfl TSt _ H6.out.res (by kernel_rfl) rfl (by simp [Value.oneCell']) ?_
  refine wpList_nil ?_
  have HR' := setRow_heap w7 (w.heap.size + 1) _ #[.int .i64 4, .int .i64 (belZ s1 2), .int .i64 0, .int .i64 0, .int .i64 0, .int .u64 0, .int .u64 0, .string ⟨#[]⟩] TSt (0, 0) H6.out.res
  have HO9 := H6.out.on.setRow (show w.heap.size ≤ w.heap.size + 1 by omega) #[.int .i64 4, .int .i64 (belZ s1 2), .int .i64 0, .int .i64 0, .int .i64 0, .int .u64 0, .int .u64 0, .string ⟨#[]⟩]
  have HD9 := (setRow_other w7 (w.heap.size + 1) g #[.int .i64 4, .int .i64 (belZ s1 2), .int .i64 0, .int .i64 0, .int .i64 0, .int .u64 0, .int .u64 0, .string ⟨#[]⟩] (by have := H6.out.lt; omega)).trans H6.out.d
  obtain ⟨w9, hw9⟩ : ∃ X, X = w7.setRow (w.heap.size + 1) #[.int .i64 4, .int .i64 (belZ s1 2), .int .i64 0, .int .i64 0, .int .i64 0, .int .u64 0, .int .u64 0, .string ⟨#[]⟩] := ⟨_, rfl⟩
  rw [← hw9] at HR' HO9 HD9 ⊢
  clear hw9
  go_wp2_with fail
  have hF := HF.out
  rw [if_neg (show ¬ b ≤ 27 by omega), if_neg (show ¬ b ≤ 32 by omega), if_neg (show ¬ b ≤ 35 by omega), if_neg (show ¬ b = 36 by omega), if_neg (show ¬ b = 37 by omega), if_pos (show b = 38 by omega)] at hF
  rw [hF]
  dsimp only
  exact bodyPost_ret (results_cell_row Try.results17 _ _ (w.heap.size + 1) TSt _ (0, 0) _ rfl HR' Try.underlying44 rfl (by kernel_rfl)) rfl ⟨rfl, HD9, HO9⟩
set_option maxRecDepth 20000 in
set_option maxHeartbeats 8000000 in
theorem step_6 {w : World} {g : Nat} {st : Int} (c : Cfg) (hc : code c 11 0 = 0) (h1 : 1 ≤ c.n) (h4 : c.n ≤ 4) (ha : c.f1 ≤ 9223372036854775807) (h : D TD w g st) (h27 : ¬ belZ st 40 ≤ 27) (h32 : ¬ belZ st 40 ≤ 32) (h35 : ¬ belZ st 40 ≤ 35) (h36 : ¬ belZ st 40 = 36) (h37 : ¬ belZ st 40 = 37) (h38 : ¬ belZ st 40 = 38) : Calls Try.prog 17 #[.pointer (some ⟨g, 0, none⟩), .agg c.cells] w fun e w' => e = .returned (.agg (stepF st (c.n : Int) c.f1).1.cells) ∧ D TD w' g (stepF st (c.n : Int) c.f1).2 ∧ On g w w' := by
  have hlt := blk_lt h
  have HW := Lib.hid (fun V => workers_any c h4 V)
  rw [if_pos hc] at HW
  obtain ⟨m, hm⟩ : ∃ m : Int, m = 2 * (c.n : Int) := ⟨_, rfl⟩
  rw [← hm] at HW
  have hm1 : ¬ m = 0 := by omega
  have hm2 : (m == 0) = false := by simpa using hm1
  have HM := Lib.hid hm
  have hmm : m ≤ 9223372036854775807 := by omega
  have hnn : (c.n : Int) ≤ 9223372036854775807 := by omega
  have HN := Lib.hid (And.intro hmm (And.intro hnn ha))
  unfold Cfg.cells at HW ⊢
  have d0 : D TD ((w.alloc (.cells #[.slice c.A c.n c.cap, .int .i64 c.f1, .int .i64 c.f2, .int .i64 c.f3, .int .i64 c.f4, .int .i64 c.f5, .int .i64 c.f6, .int .i64 c.f7, .int .i64 c.f8, .int .i64 c.f9, .int .i64 c.f10, .int .u64 c.f11] TCf)).alloc (.cells #[.int .i64 0, .int .i64 0, .int .i64 0, .int .i64 0, .int .i64 0, .int .u64 0, .int .u64 0, .string ⟨#[]⟩] TSt)) g st := blk_alloc (blk_alloc h)
  have cf0 : ((w.alloc (.cells #[.slice c.A c.n c.cap, .int .i64 c.f1, .int .i64 c.f2, .int .i64 c.f3, .int .i64 c.f4, .int .i64 c.f5, .int .i64 c.f6, .int .i64 c.f7, .int .i64 c.f8, .int .i64 c.f9, .int .i64 c.f10, .int .u64 c.f11] TCf)).alloc (.cells #[.int .i64 0, .int .i64 0, .int .i64 0, .int .i64 0, .int .i64 0, .int .u64 0, .int .u64 0, .string ⟨#[]⟩] TSt)).heap[w.heap.size]? = some (.cells #[.slice c.A c.n c.cap, .int .i64 c.f1, .int .i64 c.f2, .int .i64 c.f3, .int .i64 c.f4, .int .i64 c.f5, .int .i64 c.f6, .int .i64 c.f7, .int .i64 c.f8, .int .i64 c.f9, .int .i64 c.f10, .int .u64 c.f11] TCf (0, 0)) := blk_alloc (heap_alloc_new w _)
  have r0 : ((w.alloc (.cells #[.slice c.A c.n c.cap, .int .i64 c.f1, .int .i64 c.f2, .int .i64 c.f3, .int .i64 c.f4, .int .i64 c.f5, .int .i64 c.f6, .int .i64 c.f7, .int .i64 c.f8, .int .i64 c.f9, .int .i64 c.f10, .int .u64 c.f11] TCf)).alloc (.cells #[.int .i64 0, .int .i64 0, .int .i64 0, .int .i64 0, .int .i64 0, .int .u64 0, .int .u64 0, .string ⟨#[]⟩] TSt)).heap[w.heap.size + 1]? = some (.cells #[.int .i64 0, .int .i64 0, .int .i64 0, .int .i64 0, .int .i64 0, .int .u64 0, .int .u64 0, .string ⟨#[]⟩] TSt (0, 0)) := heap_at _ _ _ (by simp)
  have o0 : On g w ((w.alloc (.cells #[.slice c.A c.n c.cap, .int .i64 c.f1, .int .i64 c.f2, .int .i64 c.f3, .int .i64 c.f4, .int .i64 c.f5, .int .i64 c.f6, .int .i64 c.f7, .int .i64 c.f8, .int .i64 c.f9, .int .i64 c.f10, .int .u64 c.f11] TCf)).alloc (.cells #[.int .i64 0, .int .i64 0, .int .i64 0, .int .i64 0, .int .i64 0, .int .u64 0, .int .u64 0, .string ⟨#[]⟩] TSt)) := ((On.refl _ _).alloc _).alloc _
  obtain ⟨w0, hw0⟩ : ∃ X, X = (w.alloc (.cells #[.slice c.A c.n c.cap, .int .i64 c.f1, .int .i64 c.f2, .int .i64 c.f3, .int .i64 c.f4, .int .i64 c.f5, .int .i64 c.f6, .int .i64 c.f7, .int .i64 c.f8, .int .i64 c.f9, .int .i64 c.f10, .int .u64 c.f11] TCf)).alloc (.cells #[.int .i64 0, .int .i64 0, .int .i64 0, .int .i64 0, .int .i64 0, .int .u64 0, .int .u64 0, .string ⟨#[]⟩] TSt) := ⟨_, rfl⟩
  rw [← hw0] at d0 cf0 r0 o0
  have H0 := Lib.hid (And.intro d0 (And.intro cf0 (And.intro r0 (And.intro o0 hlt))))
  have q := fun i => cell_of_row w0 w.heap.size i _ _ (0, 0) cf0
  have q0 := q 0; have q1 := q 1; have q2 := q 2; have q3 := q 3; have q4 := q 4; have q5 := q 5; have q6 := q 6; have q7 := q 7; have q8 := q 8; have q9 := q 9; have q10 := q 10; have q11 := q 11
  clear q d0 cf0 r0 o0 hlt h hc hm hmm hnn ha h1 h4
  go_enter Try.func17, Try.ntmps17
  go_upto_region 1 with fail
  rw [← hw0]
  clear hw0
  go_wp2_with fail
  refine (HW.out _).mono ?_
  rintro _ w1 ⟨rfl, b1⟩
  clear q0 q1 q2 q3 q4 q5 q6 q7 q8 q9 q10 q11
  have dd : D TD w1 g st := (b1.block _ (blk_lt H0.out.1)).trans H0.out.1
  have cf := (b1.block _ (blk_lt H0.out.2.1)).trans H0.out.2.1
  have rr := (b1.block _ (blk_lt H0.out.2.2.1)).trans H0.out.2.2.1
  have oo : On g w w1 := H0.out.2.2.2.1.trans (On.of_below b1)
  have hS := blk_lt rr
  have hx := heap_alloc_new w1 (.cells #[.int .i64 0, .int .i64 0, .int .i64 0, .int .i64 0, .int .i64 0, .int .u64 0, .int .u64 0, .string ⟨#[]⟩] TSt)
  obtain ⟨S, hSd⟩ : ∃ X, X = w1.heap.size := ⟨_, rfl⟩
  have h2 : SB w (w1.alloc (.cells #[.int .i64 0, .int .i64 0, .int .i64 0, .int .i64 0, .int .i64 0, .int .u64 0, .int .u64 0, .string ⟨#[]⟩] TSt)) g S st c #[.int .i64 0, .int .i64 0, .int .i64 0, .int .i64 0, .int .i64 0, .int .u64 0, .int .u64 0, .string ⟨#[]⟩] := ⟨blk_alloc dd, blk_alloc cf, blk_alloc rr, by rw [hSd]; exact hx, oo.alloc _, H0.out.2.2.2.2, by omega⟩
  obtain ⟨w2, hw2⟩ : ∃ X, X = w1.alloc (.cells #[.int .i64 0, .int .i64 0, .int .i64 0, .int .i64 0, .int .i64 0, .int .u64 0, .int .u64 0, .string ⟨#[]⟩] TSt) := ⟨_, rfl⟩
  rw [← hw2] at h2
  have H2 := Lib.hid h2
  clear b1 dd cf rr oo hS hx h2 H0 HW
  go_upto_region 5 with fail
  rw [← hw2, ← hSd]
  clear hw2 hSd
  go_wp2_with fail
  refine (below_on H2.out.d (by decide)).mono ?_
  rintro _ w3 ⟨rfl, d, o⟩
  have H3 := Lib.hid (H2.out.call d o)
  clear d o H2
  have hF : stepF st (c.n : Int) c.f1 = stepF st (c.n : Int) c.f1 := rfl
  conv at hF => rhs; unfold stepF
  rw [← HM.out] at hF
  obtain ⟨b, hb⟩ : ∃ b, b = belZ st 40 := ⟨_, rfl⟩
  rw [← hb] at hF ⊢ h27 h32 h35 h36 h37 h38
  have HF := Lib.hid hF
  clear hb hF
  obtain ⟨s1, hs1⟩ : ∃ s, s = nxZ st 40 := ⟨_, rfl⟩
  rw [← hs1] at HF H3
  clear hs1
  have c0 := cell_of_row w3 S 0 _ _ (0, 0) H3.out.box
  have f0 := fr_of H3.out.box 0
  have H4 : Hid (SB w (w3.setCell ⟨S, 0, none⟩ (.int .i64 8)) g S (s1) c #[.int .i64 8, .int .i64 0, .int .i64 0, .int .i64 0, .int .i64 0, .int .u64 0, .int .u64 0, .string ⟨#[]⟩]) := Lib.hid (H3.out.set 0 (.int .i64 8))
  go_wp2_with fail
  refine (below_on H4.out.d (by decide)).mono ?_
  rintro _ w5 ⟨rfl, d, o⟩
  have h := H4.out.call d o
  clear d o
  have H5 : Hid (SB w w5 g S (nxZ s1 4) c #[.int .i64 8, .int .i64 0, .int .i64 0, .int .i64 0, .int .i64 0, .int .u64 0, .int .u64 0, .string ⟨#[]⟩]) := Lib.hid h
  clear h H4 H3 c0 f0
  by_cases hz : belZ s1 4 = 0
  · have c0 := cell_of_row w5 S 0 _ _ (0, 0) H5.out.box
    have f0 := fr_of H5.out.box 0
    have H6 : Hid (SB w (w5.setCell ⟨S, 0, none⟩ (.int .i64 7)) g S (nxZ s1 4) c #[.int .i64 7, .int .i64 0, .int .i64 0, .int .i64 0, .int .i64 0, .int .u64 0, .int .u64 0, .string ⟨#[]⟩]) := Lib.hid (H5.out.set 0 (.int .i64 7))
    clear H5
    go_upto_region 28 with fail
    obtain ⟨w7, hw7⟩ : ∃ X, X = (w5.setCell ⟨S, 0, none⟩ (.int .i64 7)) := ⟨_, rfl⟩
    rw [← hw7] at H6 ⊢
    clear hw7
    refine wp_region_lit ?_
    refine wpList_load_row rfl TSt _ rfl S rfl TSt _ (0, 0) _ H6.out.box Try.underlying44 rfl (by kernel_rfl) ?_
    refine wpList_store_rowTo rfl TSt _ _ rfl rfl (w.heap.size + 1) _ rfl rfl TSt _ H6.out.res (by kernel_rfl) rfl (by simp [Value.oneCell']) ?_
    refine wpList_nil ?_
    have HR' := setRow_heap w7 (w.heap.size + 1) _ #[.int .i64 7, .int .i64 0, .int .i64 0, .int .i64 0, .int .i64 0, .int .u64 0, .int .u64 0, .string ⟨#[]⟩] TSt (0, 0) H6.out.res
    have HO9 := H6.out.on.setRow (show w.heap.size ≤ w.heap.size + 1 by omega) #[.int .i64 7, .int .i64 0, .int .i64 0, .int .i64 0, .int .i64 0, .int .u64 0, .int .u64 0, .string ⟨#[]⟩]
    have HD9 := (setRow_other w7 (w.heap.size + 1) g #[.int .i64 7, .int .i64 0, .int .i64 0, .int .i64 0, .int .i64 0, .int .u64 0, .int .u64 0, .string ⟨#[]⟩] (by have := H6.out.lt; omega)).trans H6.out.d
    obtain ⟨w9, hw9⟩ : ∃ X, X = w7.setRow (w.heap.size + 1) #[.int .i64 7, .int .i64 0, .int .i64 0, .int .i64 0, .int .i64 0, .int .u64 0, .int .u64 0, .string ⟨#[]⟩] := ⟨_, rfl⟩
    rw [← hw9] at HR' HO9 HD9 ⊢
    clear hw9
    go_wp2_with fail
    have hF := HF.out
    rw [if_neg (show ¬ b ≤ 27 by omega), if_neg (show ¬ b ≤ 32 by omega), if_neg (show ¬ b ≤ 35 by omega), if_neg (show ¬ b = 36 by omega), if_neg (show ¬ b = 37 by omega), if_neg (show ¬ b = 38 by omega), if_pos hz] at hF
    rw [hF]
    dsimp only
    exact bodyPost_ret (results_cell_row Try.results17 _ _ (w.heap.size + 1) TSt _ (0, 0) _ rfl HR' Try.underlying44 rfl (by kernel_rfl)) rfl ⟨rfl, HD9, HO9⟩
  · go_upto_region 28 with fail
    obtain ⟨w7, hw7⟩ : ∃ X, X = w5 := ⟨_, rfl⟩
    rw [← hw7] at H5 ⊢
    clear hw7
    refine wp_region_lit ?_
    refine wpList_load_row rfl TSt _ rfl S rfl TSt _ (0, 0) _ H5.out.box Try.underlying44 rfl (by kernel_rfl) ?_
    refine wpList_store_rowTo rfl TSt _ _ rfl rfl (w.heap.size + 1) _ rfl rfl TSt _ H5.out.res (by kernel_rfl) rfl (by simp [Value.oneCell']) ?_
    refine wpList_nil ?_
    have HR' := setRow_heap w7 (w.heap.size + 1) _ #[.int .i64 8, .int .i64 0, .int .i64 0, .int .i64 0, .int .i64 0, .int .u64 0, .int .u64 0, .string ⟨#[]⟩] TSt (0, 0) H5.out.res
    have HO9 := H5.out.on.setRow (show w.heap.size ≤ w.heap.size + 1 by omega) #[.int .i64 8, .int .i64 0, .int .i64 0, .int .i64 0, .int .i64 0, .int .u64 0, .int .u64 0, .string ⟨#[]⟩]
    have HD9 := (setRow_other w7 (w.heap.size + 1) g #[.int .i64 8, .int .i64 0, .int .i64 0, .int .i64 0, .int .i64 0, .int .u64 0, .int .u64 0, .string ⟨#[]⟩] (by have := H5.out.lt; omega)).trans H5.out.d
    obtain ⟨w9, hw9⟩ : ∃ X, X = w7.setRow (w.heap.size + 1) #[.int .i64 8, .int .i64 0, .int .i64 0, .int .i64 0, .int .i64 0, .int .u64 0, .int .u64 0, .string ⟨#[]⟩] := ⟨_, rfl⟩
    rw [← hw9] at HR' HO9 HD9 ⊢
    clear hw9
    go_wp2_with fail
    have hF := HF.out
    rw [if_neg (show ¬ b ≤ 27 by omega), if_neg (show ¬ b ≤ 32 by omega), if_neg (show ¬ b ≤ 35 by omega), if_neg (show ¬ b = 36 by omega), if_neg (show ¬ b = 37 by omega), if_neg (show ¬ b = 38 by omega), if_neg hz] at hF
    rw [hF]
    dsimp only
    exact bodyPost_ret (results_cell_row Try.results17 _ _ (w.heap.size + 1) TSt _ (0, 0) _ rfl HR' Try.underlying44 rfl (by kernel_rfl)) rfl ⟨rfl, HD9, HO9⟩
theorem step_any {w : World} {g : Nat} {st : Int} (c : Cfg) (hc : code c 11 0 = 0) (h1 : 1 ≤ c.n) (h4 : c.n ≤ 4) (ha : c.f1 ≤ 9223372036854775807) (h : D TD w g st) : Calls Try.prog 17 #[.pointer (some ⟨g, 0, none⟩), .agg c.cells] w fun e w' => e = .returned (.agg (stepF st (c.n : Int) c.f1).1.cells) ∧ D TD w' g (stepF st (c.n : Int) c.f1).2 ∧ On g w w' := by
  by_cases h27 : belZ st 40 ≤ 27
  · exact step_0 c hc h1 h4 ha h h27
  · by_cases h32 : belZ st 40 ≤ 32
    · exact step_1 c hc h1 h4 ha h h27 h32
    · by_cases h35 : belZ st 40 ≤ 35
      · exact step_2 c hc h1 h4 ha h h27 h32 h35
      · by_cases h36 : belZ st 40 = 36
        · exact step_3 c hc h1 h4 ha h h27 h32 h35 h36
        · by_cases h37 : belZ st 40 = 37
          · exact step_4 c hc h1 h4 ha h h27 h32 h35 h36 h37
          · by_cases h38 : belZ st 40 = 38
            · exact step_5 c hc h1 h4 ha h h27 h32 h35 h36 h37 h38
            · exact step_6 c hc h1 h4 ha h h27 h32 h35 h36 h37 h38
end Go.Proofs.Ytfojmjgnndlfnaa.DiceW
