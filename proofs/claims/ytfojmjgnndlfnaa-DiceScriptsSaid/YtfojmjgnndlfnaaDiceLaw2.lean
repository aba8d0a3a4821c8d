/- 'DiceScripts': a config thrown may be, and each step of a script thrown is right; which ones are thrown. -/
import Derived.Test.YtfojmjgnndlfnaaDiceScr
import Derived.Test.YtfojmjgnndlfnaaDiceRConf
import Derived.Test.YtfojmjgnndlfnaaDiceLetters
import Derived.Deep.WholeRow
namespace Go.Proofs.Ytfojmjgnndlfnaa.DiceW
open Go Go.RowKit Conf Dice
set_option linter.unusedVariables false

theorem few_yes (c : Cfg) (h : c.n ≤ 20) (w : World) :
    Calls Try.prog 4 #[.agg c.cells] w fun e w' => e = .returned (.bool true) ∧ Below w.heap.size w w' := by
  have h1 : (c.n : Int) ≤ 20 := by omega
  unfold Cfg.cells at *
  go_enter Try.func4, Try.ntmps4
  go_wp2
  go_ret
  exact ⟨rfl, (Below.refl _ _).alloc (Nat.le_refl _) _⟩
theorem few_no (c : Cfg) (h : 20 < c.n) (w : World) :
    Calls Try.prog 4 #[.agg c.cells] w fun e w' => e = .returned (.bool false) ∧ Below w.heap.size w w' := by
  have h1 : ¬ (c.n : Int) ≤ 20 := by omega
  unfold Cfg.cells at *
  go_enter Try.func4, Try.ntmps4
  go_wp2
  go_ret
  exact ⟨rfl, (Below.refl _ _).alloc (Nat.le_refl _) _⟩
set_option maxRecDepth 20000 in
set_option maxHeartbeats 4000000 in
theorem conf_alike2 (u v n cap cap2 : Nat) (f1 f2 f3 f4 f5 f6 f7 f8 f9 f10 f11 : Int) (bs : Nat → Bool) (hn : n ≤ 4) (w : World) (hu : ∀ j, j < n → w.cell? ⟨u, j, none⟩ = some (.bool (bs j))) (hv : ∀ j, j < n → w.cell? ⟨v, j, none⟩ = some (.bool (bs j))) :
    Calls Try.prog 8 #[.agg #[.slice (some ⟨u, 0, none⟩) n cap, .int .i64 f1, .int .i64 f2, .int .i64 f3, .int .i64 f4, .int .i64 f5, .int .i64 f6, .int .i64 f7, .int .i64 f8, .int .i64 f9, .int .i64 f10, .int .u64 f11], .agg #[.slice (some ⟨v, 0, none⟩) n cap2, .int .i64 f1, .int .i64 f2, .int .i64 f3, .int .i64 f4, .int .i64 f5, .int .i64 f6, .int .i64 f7, .int .i64 f8, .int .i64 f9, .int .i64 f10, .int .u64 f11]] w fun e w' => e = .returned (.bool true) ∧ Below w.heap.size w w' := by
  have hB2 : Below w.heap.size w ((w.alloc (.cells #[.slice (some ⟨u, 0, none⟩) n cap, .int .i64 f1, .int .i64 f2, .int .i64 f3, .int .i64 f4, .int .i64 f5, .int .i64 f6, .int .i64 f7, .int .i64 f8, .int .i64 f9, .int .i64 f10, .int .u64 f11] TCf)).alloc (.cells #[.slice (some ⟨v, 0, none⟩) n cap2, .int .i64 f1, .int .i64 f2, .int .i64 f3, .int .i64 f4, .int .i64 f5, .int .i64 f6, .int .i64 f7, .int .i64 f8, .int .i64 f9, .int .i64 f10, .int .u64 f11] TCf)) := ((Below.refl _ _).alloc (Nat.le_refl _) _).alloc (by simp) _
  have hx : ((w.alloc (.cells #[.slice (some ⟨u, 0, none⟩) n cap, .int .i64 f1, .int .i64 f2, .int .i64 f3, .int .i64 f4, .int .i64 f5, .int .i64 f6, .int .i64 f7, .int .i64 f8, .int .i64 f9, .int .i64 f10, .int .u64 f11] TCf)).alloc (.cells #[.slice (some ⟨v, 0, none⟩) n cap2, .int .i64 f1, .int .i64 f2, .int .i64 f3, .int .i64 f4, .int .i64 f5, .int .i64 f6, .int .i64 f7, .int .i64 f8, .int .i64 f9, .int .i64 f10, .int .u64 f11] TCf)).heap[w.heap.size]? = some (.cells #[.slice (some ⟨u, 0, none⟩) n cap, .int .i64 f1, .int .i64 f2, .int .i64 f3, .int .i64 f4, .int .i64 f5, .int .i64 f6, .int .i64 f7, .int .i64 f8, .int .i64 f9, .int .i64 f10, .int .u64 f11] TCf (0, 0)) := blk_alloc (heap_alloc_new w _)
  have hy : ((w.alloc (.cells #[.slice (some ⟨u, 0, none⟩) n cap, .int .i64 f1, .int .i64 f2, .int .i64 f3, .int .i64 f4, .int .i64 f5, .int .i64 f6, .int .i64 f7, .int .i64 f8, .int .i64 f9, .int .i64 f10, .int .u64 f11] TCf)).alloc (.cells #[.slice (some ⟨v, 0, none⟩) n cap2, .int .i64 f1, .int .i64 f2, .int .i64 f3, .int .i64 f4, .int .i64 f5, .int .i64 f6, .int .i64 f7, .int .i64 f8, .int .i64 f9, .int .i64 f10, .int .u64 f11] TCf)).heap[w.heap.size + 1]? = some (.cells #[.slice (some ⟨v, 0, none⟩) n cap2, .int .i64 f1, .int .i64 f2, .int .i64 f3, .int .i64 f4, .int .i64 f5, .int .i64 f6, .int .i64 f7, .int .i64 f8, .int .i64 f9, .int .i64 f10, .int .u64 f11] TCf (0, 0)) := heap_at _ _ _ (by simp)
  obtain ⟨w2, hw2⟩ : ∃ w2, w2 = ((w.alloc (.cells #[.slice (some ⟨u, 0, none⟩) n cap, .int .i64 f1, .int .i64 f2, .int .i64 f3, .int .i64 f4, .int .i64 f5, .int .i64 f6, .int .i64 f7, .int .i64 f8, .int .i64 f9, .int .i64 f10, .int .u64 f11] TCf)).alloc (.cells #[.slice (some ⟨v, 0, none⟩) n cap2, .int .i64 f1, .int .i64 f2, .int .i64 f3, .int .i64 f4, .int .i64 f5, .int .i64 f6, .int .i64 f7, .int .i64 f8, .int .i64 f9, .int .i64 f10, .int .u64 f11] TCf)) := ⟨_, rfl⟩
  rw [← hw2] at hB2 hx hy
  have HU := Lib.hid (fun j hj => (hB2.cell (p := ⟨u, j, none⟩) (World.block_lt_of_cell? w _ (hu j hj))).trans (hu j hj))
  have HV := Lib.hid (fun j hj => (hB2.cell (p := ⟨v, j, none⟩) (World.block_lt_of_cell? w _ (hv j hj))).trans (hv j hj))
  have HX := Lib.hid (And.intro hx hy)
  have HB2 := Lib.hid hB2
  have xc0 := cell_of_row w2 w.heap.size 0 _ _ (0, 0) hx
  have xd0 := cell_of_row w2 (w.heap.size + 1) 0 _ _ (0, 0) hy
  have hn4 : (n : Int) ≤ 4 := by omega
  clear hu hv hx hy hB2
  go_enter Try.func8, Try.ntmps8
  go_upto_region 1 with fail
  rw [← hw2]
  clear hw2
  go_wp2
  go_loopw [5] (fun i wr => ∃ k : Nat, i = .int .i64 (k : Int) ∧ k ≤ n ∧ ∃ q, wr = w2.drewN q) (fun i _ => n - (intOf i).toNat)
  case atStart => exact ⟨0, rfl, Nat.zero_le _, 0, rfl⟩
  case round =>
    obtain ⟨k, rfl, hk, q, rfl⟩ := hrel
    by_cases hlt : k < n
    · have hck := HU.out k hlt
      have hck' := HV.out k hlt
      have hi0 : (0 : Int) ≤ (k : Int) := by omega
      have hi1 : (k : Int) < (n : Int) := by omega
      obtain ⟨x, hx⟩ : ∃ x, x = bs k := ⟨_, rfl⟩
      rw [← hx] at hck hck'
      clear hx
      cases x
      all_goals
        go_wp2
        go_quiet (fail)
        go_wp2
        exact ⟨⟨k + 1, by go_num, by omega, _, rfl⟩, by simp [intOf]; omega⟩
    · obtain rfl : k = n := by omega
      have HB := Lib.hid (below_drewN HB2.out q)
      have qx := fun i => cell_of_row w2 w.heap.size i _ _ (0, 0) HX.out.1
      have qy := fun i => cell_of_row w2 (w.heap.size + 1) i _ _ (0, 0) HX.out.2
      have x1 := qx 1; have y1 := qy 1; have x2 := qx 2; have y2 := qy 2; have x3 := qx 3; have y3 := qy 3; have x4 := qx 4; have y4 := qy 4; have x5 := qx 5; have y5 := qy 5; have x6 := qx 6; have y6 := qy 6; have x7 := qx 7; have y7 := qy 7; have x8 := qx 8; have y8 := qy 8; have x9 := qx 9; have y9 := qy 9; have x10 := qx 10; have y10 := qy 10; have x11 := qx 11; have y11 := qy 11
      clear qx qy
      go_wp2
      go_ret
      exact ⟨rfl, HB.out⟩
theorem hstN (V : World) (b : Nat) (t : TypeId) (cs : Array Value) (C : Array Value) (hcs : cs.size = C.size) (ho : C.all (·.oneCell') = true) (h : V.heap[b]? = some (.cells cs t (0, 0))) :
    (storeCells ⟨b, 0, none⟩ C.toList).run Try.prog V = .ok () (V.setRow b C) := by
  have h := run_storeCells_at (P := Try.prog) b 0 t C.toList 0 cs V h (by rw [Array.length_toList, hcs]; omega) (fun u hu => (Array.all_eq_true'.1 ho) u (by simpa using hu))
  simp only [Nat.add_zero, List.take_zero, List.nil_append, Nat.zero_add] at h
  rw [h, List.drop_of_length_le (by rw [Array.length_toList, hcs, Array.length_toList]; exact Nat.le_refl _), List.append_nil]
theorem on_self {T : TypeId} {w : World} {g : Nat} {st : Int} (h : D T w g st) (x : Int) : D T (w.setCell ⟨g, 0, none⟩ (.int .u64 x)) g x ∧ On g w (w.setCell ⟨g, 0, none⟩ (.int .u64 x)) :=
  ⟨h.set x, rfl, rfl, rfl, by simp [World.setCell], fun k _ hk => Below.heap_setCell _ _ _ _ (by exact hk)⟩
theorem throw_on {w : World} {g : Nat} {st : Int} (h : D TD w g st) : Calls Try.prog 14 #[.pointer (some ⟨g, 0, none⟩)] w fun e w' => e = .returned (.int .u64 (thr st)) ∧ D TD w' g (nx st) ∧ On g w w' :=
  (throw_any h).mono fun e w' ⟨h1, h2⟩ => by subst h2; exact ⟨h1, on_self h _⟩
theorem rthrow_on {w : World} {g : Nat} {st : Int} (h : D TR w g st) : Calls Try.prog 15 #[.pointer (some ⟨g, 0, none⟩)] w fun e w' => e = .returned (.int .u64 (thr st)) ∧ D TR w' g (nx st) ∧ On g w w' :=
  (ref_throw_any h).mono fun e w' ⟨h1, h2⟩ => by subst h2; exact ⟨h1, on_self h _⟩
/-- what is known of a config thrown, by both -/
structure CM (st : Int) (n : Nat) (f1 f2 f3 f4 f5 f6 f7 f8 f9 f10 f11 : Int) (bs : Nat → Bool) (s' : Int) : Prop where
  n1 : 1 ≤ n
  n4 : n ≤ 4
  code : ∀ A, Conf.code ⟨A, n, n, f1, f2, f3, f4, f5, f6, f7, f8, f9, f10, f11⟩ 11 0 = 0
  cfg : ∀ (w : World) (g : Nat), D TD w g st → Calls Try.prog 7 #[.pointer (some ⟨g, 0, none⟩)] w fun e w' => ∃ u C, e = .returned (.agg C) ∧ C = #[.slice (some ⟨u, 0, none⟩) n n, .int .i64 f1, .int .i64 f2, .int .i64 f3, .int .i64 f4, .int .i64 f5, .int .i64 f6, .int .i64 f7, .int .i64 f8, .int .i64 f9, .int .i64 f10, .int .u64 f11] ∧ u < w'.heap.size ∧ (∀ j, j < n → w'.cell? ⟨u, j, none⟩ = some (.bool (bs j))) ∧ D TD w' g s' ∧ On g w w' ∧ w.heap.size ≤ u
  rcfg : ∀ (w : World) (g : Nat), D TR w g st → Calls Try.prog 9 #[.pointer (some ⟨g, 0, none⟩)] w fun e w' => ∃ u cap, e = .returned (.agg #[.slice (some ⟨u, 0, none⟩) n cap, .int .i64 f1, .int .i64 f2, .int .i64 f3, .int .i64 f4, .int .i64 f5, .int .i64 f6, .int .i64 f7, .int .i64 f8, .int .i64 f9, .int .i64 f10, .int .u64 f11]) ∧ u < w'.heap.size ∧ (∀ j, j < n → w'.cell? ⟨u, j, none⟩ = some (.bool (bs j))) ∧ D TR w' g s' ∧ On g w w' ∧ w.heap.size ≤ u
theorem cm_any (st : Int) : ∃ n f1 f2 f3 f4 f5 f6 f7 f8 f9 f10 f11 bs s', CM st n f1 f2 f3 f4 f5 f6 f7 f8 f9 f10 f11 bs s' := by
  have hn := dn_in st
  refine ⟨dn st, w1 (belZ (ds0 st) 2), w1 (belZ (ds1 st) 3), w1 (belZ (ds2 st) 5), w1 (belZ (ds3 st) 5), w1 (belZ (ds4 st) 3), w1 (belZ (ds5 st) 3), w1 (belZ (ds6 st) 2), w1 (belZ (ds7 st) 4), w1 (belZ (ds8 st) 5), belZ (ds9 st) 3, IntKind.u64.wrap (belZ (ds10 st) 1000), fun j => belZ (it (j + 1) st) 3 == 0, ds11 st, hn.1, Nat.le_succ_of_le hn.2, fun A => ?_, fun w g hd => ?_, fun w g hd => ?_⟩
  · have a1 := w1_in (ds0 st) 2 (by decide) (by decide)
    have a2 := w1_in (ds1 st) 3 (by decide) (by decide)
    have a3 := w1_in (ds2 st) 5 (by decide) (by decide)
    have a4 := w1_in (ds3 st) 5 (by decide) (by decide)
    have a5 := w1_in (ds4 st) 3 (by decide) (by decide)
    have a6 := w1_in (ds5 st) 3 (by decide) (by decide)
    have a7 := w1_in (ds6 st) 2 (by decide) (by decide)
    have a8 := w1_in (ds7 st) 4 (by decide) (by decide)
    have a9 := w1_in (ds8 st) 5 (by decide) (by decide)
    have a10 := belz_in (ds9 st) 3 (by decide) (by decide)
    exact code_ok A _ _ _ _ _ _ _ _ _ _ _ _ _ ⟨hn.1, Nat.le_succ_of_le hn.2⟩ (widen a1 (by decide)) (widen a2 (by decide)) (widen a3 (by decide)) (widen a4 (by decide)) (widen a5 (by decide)) (widen a6 (by decide)) (widen a7 (by decide)) (widen a8 (by decide)) (widen a9 (by decide)) ⟨a10.1, Int.le_trans (Int.le_of_lt a10.2) (by decide)⟩
  · refine (config_any hd).mono ?_
    rintro e w' ⟨A, rfl, ⟨u, rfl, hu, hb⟩, hd', ho, hl⟩
    exact ⟨u, _, rfl, rfl, hu, hb, hd', ho, hl u rfl⟩
  · refine (rconfig_any hd).mono ?_
    rintro e w' ⟨u, cap, rfl, ⟨u', hu', hu, hb⟩, hd', ho, hl⟩
    injection hu' with hu'
    injection hu' with hu'
    subst hu'
    exact ⟨u, cap, rfl, hu, hb, hd', ho, hl⟩
/-- the law's world -/
structure LW (W V : World) (b ga gb : Nat) (c : Cfg) (sa sb : Int) : Prop where
  c4 : V.heap[b]? = some (.cells #[.slice c.A c.n c.cap, .int .i64 c.f1, .int .i64 c.f2, .int .i64 c.f3, .int .i64 c.f4, .int .i64 c.f5, .int .i64 c.f6, .int .i64 c.f7, .int .i64 c.f8, .int .i64 c.f9, .int .i64 c.f10, .int .u64 c.f11] TCf (0, 0))
  d : D TD V ga sa
  q : D TR V gb sb
  bel : Below W.heap.size W V
  low : W.heap.size ≤ b ∧ W.heap.size ≤ ga ∧ W.heap.size ≤ gb
  ne : b ≠ ga ∧ b ≠ gb ∧ ga ≠ gb
theorem LW.below {W V V' : World} {b ga gb : Nat} {c : Cfg} {sa sb : Int} (h : LW W V b ga gb c sa sb) (k : Below V.heap.size V V') : LW W V' b ga gb c sa sb :=
  ⟨(k.block _ (blk_lt h.c4)).trans h.c4, (k.block _ (blk_lt h.d)).trans h.d, (k.block _ (blk_lt h.q)).trans h.q, h.bel.trans (k.mono h.bel.size), h.low, h.ne⟩
theorem LW.a {W V V' : World} {b ga gb : Nat} {c : Cfg} {sa sa' sb : Int} (h : LW W V b ga gb c sa sb) (hd : D TD V' ga sa') (o : On ga V V') : LW W V' b ga gb c sa' sb :=
  ⟨(o.block _ (blk_lt h.c4) h.ne.1).trans h.c4, hd, (o.block _ (blk_lt h.q) (Ne.symm h.ne.2.2)).trans h.q, h.bel.trans (on_below o h.low.2.1 h.bel.size), h.low, h.ne⟩
theorem LW.b {W V V' : World} {b ga gb : Nat} {c : Cfg} {sa sb sb' : Int} (h : LW W V b ga gb c sa sb) (hd : D TR V' gb sb') (o : On gb V V') : LW W V' b ga gb c sa sb' :=
  ⟨(o.block _ (blk_lt h.c4) h.ne.2.1).trans h.c4, (o.block _ (blk_lt h.d) h.ne.2.2).trans h.d, hd, h.bel.trans (on_below o h.low.2.2 h.bel.size), h.low, h.ne⟩
theorem LW.set {W V : World} {b ga gb r : Nat} {c : Cfg} {sa sb : Int} (h : LW W V b ga gb c sa sb) (C : Array Value) (hr : r ≠ b ∧ r ≠ ga ∧ r ≠ gb) (hl : W.heap.size ≤ r) : LW W (V.setRow r C) b ga gb c sa sb :=
  ⟨(setRow_other _ _ _ _ (Ne.symm hr.1)).trans h.c4, (setRow_other _ _ _ _ (Ne.symm hr.2.1)).trans h.d, (setRow_other _ _ _ _ (Ne.symm hr.2.2)).trans h.q,
   ⟨h.bel.os, h.bel.tape, h.bel.output, Nat.le_trans h.bel.size (by simp [World.setRow]), fun k hk => (setRow_other _ _ _ _ (by omega)).trans (h.bel.block k hk)⟩, h.low, h.ne⟩
theorem RL.keep {V V' : World} {B : Nat} {v : Value} {la : List S8} (h : RL V B v la) (hb : ∀ r, B ≤ r → r < V.heap.size → V'.heap[r]? = V.heap[r]?) (hs : V.heap.size ≤ V'.heap.size) : RL V' B v la := by
  obtain ⟨A, cap, h1, h2⟩ := h
  refine ⟨A, cap, h1, h2.imp id ?_⟩
  rintro ⟨r, h3, h4, h5, h6⟩
  exact ⟨r, h3, Nat.lt_of_lt_of_le h4 hs, h5, fun i hi => (h6 i hi).keep (hb r h5 h4)⟩
theorem RL.below {V V' : World} {B : Nat} {v : Value} {la : List S8} (h : RL V B v la) (k : Below V.heap.size V V') : RL V' B v la := h.keep (fun r _ hr => k.block r hr) k.size
theorem RL.on {V V' : World} {B g : Nat} {v : Value} {la : List S8} (h : RL V B v la) (o : On g V V') (hg : g < B) : RL V' B v la := h.keep (fun r h1 hr => o.block r hr (by omega)) o.size
theorem eq_step (x : S8) (w : World) : (binOp .eql 44 (.agg x.cells) (.agg x.cells)).run Try.prog w = .ok (.bool true) w := by
  unfold S8.cells
  go_simp
  <;> simp
set_option maxRecDepth 20000 in
set_option maxHeartbeats 4000000 in
theorem step_wrong {w : World} {g : Nat} {st : Int} (c : Cfg) (hn : c.n ≤ 20) (hx : ¬ code c 11 0 = 0) (h : D TD w g st) :
    Calls Try.prog 17 #[.pointer (some ⟨g, 0, none⟩), .agg c.cells] w fun e w' => e = .returned (.agg #[.int .i64 0, .int .i64 0, .int .i64 0, .int .i64 0, .int .i64 0, .int .u64 0, .int .u64 0, .string ⟨#[]⟩]) ∧ D TD w' g st ∧ On g w w' := by
  have hlt := blk_lt h
  have HW := Lib.hid (fun V => workers_20 c hn V)
  rw [if_neg hx] at HW
  unfold Cfg.cells at HW ⊢
  have h0 : CB w (w.alloc (.cells #[.slice c.A c.n c.cap, .int .i64 c.f1, .int .i64 c.f2, .int .i64 c.f3, .int .i64 c.f4, .int .i64 c.f5, .int .i64 c.f6, .int .i64 c.f7, .int .i64 c.f8, .int .i64 c.f9, .int .i64 c.f10, .int .u64 c.f11] TCf)) g st c := ⟨blk_alloc h, heap_alloc_new w _, (On.refl _ _).alloc _, hlt⟩
  have h1 : CB w ((w.alloc (.cells #[.slice c.A c.n c.cap, .int .i64 c.f1, .int .i64 c.f2, .int .i64 c.f3, .int .i64 c.f4, .int .i64 c.f5, .int .i64 c.f6, .int .i64 c.f7, .int .i64 c.f8, .int .i64 c.f9, .int .i64 c.f10, .int .u64 c.f11] TCf)).alloc (.cells #[.int .i64 0, .int .i64 0, .int .i64 0, .int .i64 0, .int .i64 0, .int .u64 0, .int .u64 0, .string ⟨#[]⟩] TSt)) g st c := ⟨blk_alloc h0.d, blk_alloc h0.cfg, h0.on.alloc _, hlt⟩
  have r1 : ((w.alloc (.cells #[.slice c.A c.n c.cap, .int .i64 c.f1, .int .i64 c.f2, .int .i64 c.f3, .int .i64 c.f4, .int .i64 c.f5, .int .i64 c.f6, .int .i64 c.f7, .int .i64 c.f8, .int .i64 c.f9, .int .i64 c.f10, .int .u64 c.f11] TCf)).alloc (.cells #[.int .i64 0, .int .i64 0, .int .i64 0, .int .i64 0, .int .i64 0, .int .u64 0, .int .u64 0, .string ⟨#[]⟩] TSt)).heap[w.heap.size + 1]? = some (.cells #[.int .i64 0, .int .i64 0, .int .i64 0, .int .i64 0, .int .i64 0, .int .u64 0, .int .u64 0, .string ⟨#[]⟩] TSt (0, 0)) := heap_at _ _ _ (by simp)
  obtain ⟨w0, hw0⟩ : ∃ X, X = (w.alloc (.cells #[.slice c.A c.n c.cap, .int .i64 c.f1, .int .i64 c.f2, .int .i64 c.f3, .int .i64 c.f4, .int .i64 c.f5, .int .i64 c.f6, .int .i64 c.f7, .int .i64 c.f8, .int .i64 c.f9, .int .i64 c.f10, .int .u64 c.f11] TCf)).alloc (.cells #[.int .i64 0, .int .i64 0, .int .i64 0, .int .i64 0, .int .i64 0, .int .u64 0, .int .u64 0, .string ⟨#[]⟩] TSt) := ⟨_, rfl⟩
  rw [← hw0] at h1 r1
  have H0 := Lib.hid (And.intro h1 r1)
  have qq := fun i => cell_of_row w0 w.heap.size i _ _ (0, 0) h1.cfg
  have q0 := qq 0; have q1 := qq 1; have q2 := qq 2; have q3 := qq 3; have q4 := qq 4; have q5 := qq 5; have q6 := qq 6; have q7 := qq 7; have q8 := qq 8; have q9 := qq 9; have q10 := qq 10; have q11 := qq 11
  clear qq h0 h1 r1 h
  go_enter Try.func17, Try.ntmps17
  go_upto_region 1 with fail
  rw [← hw0]
  clear hw0
  go_wp2_with fail
  refine (HW.out _).mono ?_
  rintro _ w1 ⟨rfl, b1⟩
  have H1 := Lib.hid (And.intro (H0.out.1.below b1) ((b1.block _ (blk_lt H0.out.2)).trans H0.out.2))
  clear b1 H0 q0 q1 q2 q3 q4 q5 q6 q7 q8 q9 q10 q11
  go_upto_region 3 with fail
  refine wp_region_lit ?_
  refine wpList_buildTo rfl TSt _ rfl (some 16) rfl #[.int .i64 0, .int .i64 0, .int .i64 0, .int .i64 0, .int .i64 0, .int .u64 0, .int .u64 0, .string ⟨#[]⟩] (by kernel_rfl) ?_
  refine wpList_store_rowTo rfl TSt _ _ rfl rfl (w.heap.size + 1) _ rfl rfl TSt _ H1.out.2 (by kernel_rfl) rfl (by simp [Value.oneCell']) ?_
  refine wpList_nil ?_
  have HR := setRow_heap w1 (w.heap.size + 1) _ #[.int .i64 0, .int .i64 0, .int .i64 0, .int .i64 0, .int .i64 0, .int .u64 0, .int .u64 0, .string ⟨#[]⟩] TSt (0, 0) H1.out.2
  have HO := H1.out.1.on.setRow (show w.heap.size ≤ w.heap.size + 1 by omega) #[.int .i64 0, .int .i64 0, .int .i64 0, .int .i64 0, .int .i64 0, .int .u64 0, .int .u64 0, .string ⟨#[]⟩]
  have HD := (setRow_other w1 (w.heap.size + 1) g #[.int .i64 0, .int .i64 0, .int .i64 0, .int .i64 0, .int .i64 0, .int .u64 0, .int .u64 0, .string ⟨#[]⟩] (by have := H1.out.1.lt; omega)).trans H1.out.1.d
  obtain ⟨w2, hw2⟩ : ∃ X, X = w1.setRow (w.heap.size + 1) #[.int .i64 0, .int .i64 0, .int .i64 0, .int .i64 0, .int .i64 0, .int .u64 0, .int .u64 0, .string ⟨#[]⟩] := ⟨_, rfl⟩
  rw [← hw2] at HR HO HD ⊢
  clear hw2
  go_wp2_with fail
  exact bodyPost_ret (results_cell_row Try.results17 _ _ (w.heap.size + 1) TSt _ (0, 0) _ rfl HR Try.underlying44 rfl (by kernel_rfl)) rfl ⟨rfl, HD, HO⟩
set_option maxRecDepth 20000 in
set_option maxHeartbeats 4000000 in
theorem law_few (seed n : Int) (c : Cfg) (h : 20 < c.n ∨ c.n ≤ 20 ∧ 200 < n ∧ n ≤ 1024) (W : World) :
    Calls Try.prog 3 #[.int .u64 seed, .agg c.cells, .int .i64 n] W fun e w' => e = .returned (.bool true) ∧ Below W.heap.size W w' := by
  have hc : (W.alloc (.cells #[.slice c.A c.n c.cap, .int .i64 c.f1, .int .i64 c.f2, .int .i64 c.f3, .int .i64 c.f4, .int .i64 c.f5, .int .i64 c.f6, .int .i64 c.f7, .int .i64 c.f8, .int .i64 c.f9, .int .i64 c.f10, .int .u64 c.f11] TCf)).heap[W.heap.size]? = some (.cells #[.slice c.A c.n c.cap, .int .i64 c.f1, .int .i64 c.f2, .int .i64 c.f3, .int .i64 c.f4, .int .i64 c.f5, .int .i64 c.f6, .int .i64 c.f7, .int .i64 c.f8, .int .i64 c.f9, .int .i64 c.f10, .int .u64 c.f11] TCf (0, 0)) := heap_alloc_new W _
  obtain ⟨w0, hw0⟩ : ∃ X, X = (W.alloc (.cells #[.slice c.A c.n c.cap, .int .i64 c.f1, .int .i64 c.f2, .int .i64 c.f3, .int .i64 c.f4, .int .i64 c.f5, .int .i64 c.f6, .int .i64 c.f7, .int .i64 c.f8, .int .i64 c.f9, .int .i64 c.f10, .int .u64 c.f11] TCf)) := ⟨_, rfl⟩
  have hb0 : Below W.heap.size W w0 := by rw [hw0]; exact (Below.refl _ _).alloc (Nat.le_refl _) _
  rw [← hw0] at hc
  have HB := Lib.hid hb0
  clear hb0
  have q := fun i => cell_of_row w0 (W.heap.size) i _ _ (0, 0) hc; have q0 := q 0; have q1 := q 1; have q2 := q 2; have q3 := q 3; have q4 := q 4; have q5 := q 5; have q6 := q 6; have q7 := q 7; have q8 := q 8; have q9 := q 9; have q10 := q 10; have q11 := q 11; clear q
  clear hc
  have HF : Hid (∀ V, Calls Try.prog 4 #[.agg c.cells] V fun e w' => e = .returned (.bool (decide (c.n ≤ 20))) ∧ Below V.heap.size V w') := Lib.hid fun V => by
    by_cases h : c.n ≤ 20
    · rw [decide_eq_true h]; exact few_yes c h V
    · rw [decide_eq_false h]; exact few_no c (by omega) V
  unfold Cfg.cells at HF ⊢
  rcases h with h | ⟨h, h1, h2⟩
  · rw [decide_eq_false (by omega)] at HF
    clear h
    go_enter Try.func3, Try.ntmps3
    go_upto_region 1 with fail
    rw [← hw0]
    clear hw0
    go_wp2_with fail
    refine (HF.out _).mono ?_
    rintro _ w2 ⟨rfl, b2⟩
    have B2 := Lib.hid (HB.out.trans (b2.mono HB.out.size))
    clear b2 q0 q1 q2 q3 q4 q5 q6 q7 q8 q9 q10 q11
    go_wp2_with fail
    refine (awake_any _).mono ?_
    rintro _ w3 ⟨rfl, b3⟩
    have B3 := Lib.hid (B2.out.trans (b3.mono B2.out.size))
    clear b3
    go_wp2
    go_ret
    exact ⟨rfl, B3.out⟩
  · rw [decide_eq_true h] at HF
    clear h
    go_enter Try.func3, Try.ntmps3
    go_upto_region 1 with fail
    rw [← hw0]
    clear hw0
    go_wp2_with fail
    refine (HF.out _).mono ?_
    rintro _ w2 ⟨rfl, b2⟩
    have B2 := Lib.hid (HB.out.trans (b2.mono HB.out.size))
    clear b2 q0 q1 q2 q3 q4 q5 q6 q7 q8 q9 q10 q11
    go_wp2_with fail
    refine (awake_any _).mono ?_
    rintro _ w3 ⟨rfl, b3⟩
    have B3 := Lib.hid (B2.out.trans (b3.mono B2.out.size))
    clear b3
    go_wp2
    go_ret
    exact ⟨rfl, B3.out⟩
end Go.Proofs.Ytfojmjgnndlfnaa.DiceW
