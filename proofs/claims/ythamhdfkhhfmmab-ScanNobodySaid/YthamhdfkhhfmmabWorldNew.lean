/- A ledger and a world, as they are made of a plain config. -/
import Derived.Test.YthamhdfkhhfmmabWorldBase
namespace Go.Proofs.Ythamhdfkhhfmmab.Wd
open Go Go.RowKit Conf

theorem infoPL : (Try.prog.info? 62).map (fun i => (i.zero, i.size, i.bytes)) = some (some (.pointer none), 1, 8) := by kernel_rfl
theorem own_two {w : World} {base e : Nat} {v : Value} {xs : List Value} (h : w.ownsRow base e 1 v 2 xs) : ∃ g c, v = .slice (some ⟨g, 0, none⟩) 2 c ∧ base ≤ g := by
  rcases h.2 with ⟨_, h0⟩ | ⟨g, cap, cur, rfl, hg, _⟩
  · cases h0
  · exact ⟨g, cap, rfl, hg⟩
theorem own_one {w : World} {base e : Nat} {v : Value} {xs : List Value} (h : w.ownsRow base e 1 v 1 xs) : ∃ g c, v = .slice (some ⟨g, 0, none⟩) 1 c ∧ base ≤ g := by
  rcases h.2 with ⟨_, h0⟩ | ⟨g, cap, cur, rfl, hg, _⟩
  · cases h0
  · exact ⟨g, cap, rfl, hg⟩
theorem own_cells2 {w : World} {base e g c : Nat} {x y : Value} (h : w.ownsRow base e 1 (.slice (some ⟨g, 0, none⟩) 2 c) 2 [x, y]) : w.cell? ⟨g, 0, none⟩ = some x ∧ w.cell? ⟨g, 1, none⟩ = some y := by
  have hc := World.ownsRow.cells h (g := g) rfl
  exact ⟨hc 0 x rfl, hc 1 y rfl⟩
theorem own_cells1 {w : World} {base e g c : Nat} {x : Value} (h : w.ownsRow base e 1 (.slice (some ⟨g, 0, none⟩) 1 c) 1 [x]) : w.cell? ⟨g, 0, none⟩ = some x := World.ownsRow.cells h (g := g) rfl 0 x rfl
/-- a ledger as it is made lies in block L, all of it from block lo on -/
structure LgIs (V : World) (lo L : Nat) (sd : Int) : Prop where
  box : ∃ bk pl g cap S, V.heap[L]? = some (.cells #[.int .i64 sd, .int .i64 4, .int .u64 0, bk, pl, .slice (some ⟨g, 0, none⟩) 1 cap, .slice none 0 0, .slice none 0 0, .map (some S)] TLg (0, 0)) ∧ lo ≤ L ∧ lo ≤ g ∧ ∃ E M N o, V.cell? ⟨g, 0, none⟩ = some (.pointer (some ⟨E, 0, none⟩)) ∧ LnIs V E M N sd o ∧ lo ≤ E ∧ lo ≤ M
theorem LgIs.below {V V' : World} {lo L : Nat} {sd : Int} (h : LgIs V lo L sd) (hb : Below V.heap.size V V') : LgIs V' lo L sd := by
  obtain ⟨bk, pl, g, cap, S, h1, l1, l2, E, M, N, o, h2, h3, l3⟩ := h.box
  exact ⟨bk, pl, g, cap, S, (hb.block _ (lt_of h1)).trans h1, l1, l2, E, M, N, o, (hb.cell (p := ⟨g, 0, none⟩) (World.block_lt_of_cell? V _ h2)).trans h2, h3.below hb, l3⟩
theorem LgIs.set {V : World} {lo L B i : Nat} {sd : Int} {v : Value} (h : LgIs V lo L sd) (hB : B < lo) : LgIs (V.setCell ⟨B, i, none⟩ v) lo L sd := by
  obtain ⟨bk, pl, g, cap, S, h1, l1, l2, E, M, N, o, h2, h3, l3, l4⟩ := h.box
  have far : ∀ k ob, V.heap[k]? = some ob → lo ≤ k → (V.setCell ⟨B, i, none⟩ v).heap[k]? = some ob := fun k ob hk hne =>
    (Below.heap_setCell _ _ _ _ (show k ≠ B by omega)).trans hk
  refine ⟨bk, pl, g, cap, S, far _ _ h1 l1, l1, l2, E, M, N, o, ?_, ⟨far _ _ h3.box l3, far _ _ h3.com l4⟩, l3, l4⟩
  exact (World.cell?_of_block (a := ⟨g, 0, none⟩) (Below.heap_setCell V ⟨B, i, none⟩ v g (by show g ≠ B; omega))).trans h2
/-- while a ledger is made: the config's box, the ledger's, the config's first bit -/
structure LB (W V : World) (u cap L S : Nat) (b : Bool) (sd : Int) (bk pl ln : Value) : Prop where
  box : V.heap[W.heap.size]? = some (.cells #[.slice (some ⟨u, 0, none⟩) 1 cap, .int .i64 1, .int .i64 2, .int .i64 8, .int .i64 8, .int .i64 4, .int .i64 3, .int .i64 2, .int .i64 4, .int .i64 6, .int .i64 0, .int .u64 0] TCf (0, 0))
  lg : V.heap[L]? = some (.cells #[.int .i64 sd, .int .i64 4, .int .u64 0, bk, pl, ln, .slice none 0 0, .slice none 0 0, .map (some S)] TLg (0, 0))
  bit : V.cell? ⟨u, 0, none⟩ = some (.bool b)
  bel : Below W.heap.size W V
  low : W.heap.size < L
section
variable {W V V' : World} {u cap L S : Nat} {b : Bool} {sd : Int} {bk pl ln : Value}
theorem LB.below (h : LB W V u cap L S b sd bk pl ln) (hb : Below V.heap.size V V') : LB W V' u cap L S b sd bk pl ln :=
  ⟨(hb.block _ (lt_of h.box)).trans h.box, (hb.block _ (lt_of h.lg)).trans h.lg, (hb.cell (p := ⟨u, 0, none⟩) (World.block_lt_of_cell? V _ h.bit)).trans h.bit, h.bel.trans (hb.mono h.bel.size), h.low⟩
theorem LB.fr (h : LB W V u cap L S b sd bk pl ln) (i : Nat) : V.frozen? ⟨L, i, none⟩ = false := by simp [World.frozen?, h.lg]
theorem LB.bitL (h : LB W V u cap L S b sd bk pl ln) : u ≠ L := fun e => by
  have h1 := h.bit
  rw [e, cell_of_row V L 0 _ _ (0, 0) h.lg] at h1
  injection h1 with h1
  cases h1
theorem LB.setv (h : LB W V u cap L S b sd bk pl ln) (i : Nat) (v : Value) (bk' pl' ln' : Value) (he : (#[.int .i64 sd, .int .i64 4, .int .u64 0, bk, pl, ln, .slice none 0 0, .slice none 0 0, .map (some S)] : Array Value).setIfInBounds i v = #[.int .i64 sd, .int .i64 4, .int .u64 0, bk', pl', ln', .slice none 0 0, .slice none 0 0, .map (some S)]) : LB W (V.setCell ⟨L, i, none⟩ v) u cap L S b sd bk' pl' ln' :=
  ⟨(Below.heap_setCell _ _ _ _ (by show W.heap.size ≠ L; have := h.low; omega)).trans h.box, by rw [set_at v h.lg, he], by
    have e := Below.heap_setCell V ⟨L, i, none⟩ v u (by show u ≠ L; exact h.bitL)
    exact (World.cell?_of_block (a := ⟨u, 0, none⟩) e).trans h.bit, h.bel.setCell (p := ⟨L, i, none⟩) (by show W.heap.size ≤ L; have := h.low; omega) _, h.low⟩
end
set_option maxRecDepth 20000 in
set_option maxHeartbeats 4000000 in
theorem ledger_new0 (u cap : Nat) (b : Bool) (W : World) (hA : W.cell? ⟨u, 0, none⟩ = some (.bool b)) :
  Calls Try.prog 13 #[.agg #[.slice (some ⟨u, 0, none⟩) 1 cap, .int .i64 1, .int .i64 2, .int .i64 8, .int .i64 8, .int .i64 4, .int .i64 3, .int .i64 2, .int .i64 4, .int .i64 6, .int .i64 0, .int .u64 0], .int .i64 0] W fun e w' => (∃ L, e = .returned (.tuple #[.pointer (some ⟨L, 0, none⟩), .int .i64 0]) ∧ LgIs w' W.heap.size L 0) ∧ Below W.heap.size W w' := by
  obtain ⟨i0, hi, hz0, hz1, hz2⟩ := info_parts infoU
  obtain ⟨j0, hj, hy0, hy1, hy2⟩ := info_parts infoPL
  have hmm := @run_makeMap Try.prog
  have HC : Hid (∀ V, Calls Try.prog 21 #[.agg #[.slice (some ⟨u, 0, none⟩) 1 cap, .int .i64 1, .int .i64 2, .int .i64 8, .int .i64 8, .int .i64 4, .int .i64 3, .int .i64 2, .int .i64 4, .int .i64 6, .int .i64 0, .int .u64 0]] V fun e w' => (∃ s, e = .returned (.tuple #[.string s, .int .i64 0])) ∧ Below V.heap.size V w') :=
  Lib.hid fun V => (check_any (plain (some ⟨u, 0, none⟩) 1 cap 1) V).mono fun e w' h => ⟨⟨_, h.1⟩, h.2⟩
  have hbox := heap_alloc_new W (.cells #[.slice (some ⟨u, 0, none⟩) 1 cap, .int .i64 1, .int .i64 2, .int .i64 8, .int .i64 8, .int .i64 4, .int .i64 3, .int .i64 2, .int .i64 4, .int .i64 6, .int .i64 0, .int .u64 0] TCf)
  have hbel := (Below.refl W.heap.size W).alloc (Nat.le_refl _) (.cells #[.slice (some ⟨u, 0, none⟩) 1 cap, .int .i64 1, .int .i64 2, .int .i64 8, .int .i64 8, .int .i64 4, .int .i64 3, .int .i64 2, .int .i64 4, .int .i64 6, .int .i64 0, .int .u64 0] TCf)
  have hbit := (hbel.cell (p := ⟨u, 0, none⟩) (World.block_lt_of_cell? W _ hA)).trans hA
  obtain ⟨w0, hw0⟩ : ∃ X, X = W.alloc (.cells #[.slice (some ⟨u, 0, none⟩) 1 cap, .int .i64 1, .int .i64 2, .int .i64 8, .int .i64 8, .int .i64 4, .int .i64 3, .int .i64 2, .int .i64 4, .int .i64 6, .int .i64 0, .int .u64 0] TCf) := ⟨_, rfl⟩
  rw [← hw0] at hbox hbel hbit
  have q := fun i => cell_of_row w0 W.heap.size i _ _ (0, 0) hbox
  have q0 := q 0
  have q1 := q 1
  have q2 := q 2
  have q3 := q 3
  have q4 := q 4
  have q5 := q 5
  have q6 := q 6
  have q7 := q 7
  have q8 := q 8
  have q9 := q 9
  have q10 := q 10
  have q11 := q 11
  have H0 := Lib.hid (And.intro hbox (And.intro hbel hbit))
  clear q hbox hbel hbit hA
  go_enter Try.func13, Try.ntmps13
  go_upto_region 1 with fail
  rw [← hw0]
  clear hw0
  go_wp2_with fail
  refine (HC.out _).mono ?_
  rintro _ w1 ⟨⟨s, rfl⟩, b1⟩
  have hbox := (b1.block _ (lt_of H0.out.1)).trans H0.out.1
  have hbel := H0.out.2.1.trans (b1.mono H0.out.2.1.size)
  have hbit := (b1.cell (p := ⟨u, 0, none⟩) (World.block_lt_of_cell? w0 _ H0.out.2.2)).trans H0.out.2.2
  clear b1 H0 q0 q1 q2 q3 q4 q5 q6 q7 q8 q9 q10 q11
  have hr : (w1.alloc (.cells #[.int .u64 0] 22)).ownsRow w1.heap.size 22 1 (.slice (some ⟨w1.heap.size, 0, none⟩) 1 1) 1 [.int .u64 0] := ⟨rfl, Or.inr ⟨w1.heap.size, 1, #[.int .u64 0], rfl, Nat.le_refl _, heap_alloc_new w1 _, by decide, by decide, rfl, rfl⟩⟩
  have hb1 := (Below.refl w1.heap.size w1).alloc (Nat.le_refl _) (.cells #[.int .u64 0] 22)
  obtain ⟨w2, hw2⟩ : ∃ X, X = w1.alloc (.cells #[.int .u64 0] 22) := ⟨_, rfl⟩
  obtain ⟨f, hf⟩ : ∃ X, X = w1.heap.size := ⟨_, rfl⟩
  rw [← hw2] at hr hb1
  have hlt := lt_of hbox
  have hbox2 := (hb1.block _ (lt_of hbox)).trans hbox
  have hbel2 := hbel.trans (hb1.mono hbel.size)
  have hbit2 := (hb1.cell (p := ⟨u, 0, none⟩) (World.block_lt_of_cell? w1 _ hbit)).trans hbit
  have hsz2 : w2.heap.size = f + 1 := by rw [hw2, hf]; simp
  have hul := World.block_lt_of_cell? w1 _ hbit
  rw [← hf] at hr hlt hul
  have H2 := Lib.hid (And.intro hbox2 (And.intro hbel2 (And.intro hbit2 (And.intro hr (And.intro hlt (And.intro hsz2 hul))))))
  clear hbox2 hbel2 hbit2 hr hlt hsz2 hb1 hbox hbel hbit hul
  have q1 := cell_of_row w2 W.heap.size 1 _ _ (0, 0) H2.out.1
  have q11 := cell_of_row w2 W.heap.size 11 _ _ (0, 0) H2.out.1
  go_upto_region 5 with fail
  rw [← hw2, ← hf]
  clear hw2 hf
  go_wp2_with fail
  refine wp_loop_rounds 2 ?_
  rw [rounds_succ]
  have hro := own_below H2.out.2.2.2.1 ((Below.refl _ w2).alloc (Nat.le_refl _) (.cells #[.int .u64 0] 22))
  have HRo := Lib.hid hro
  clear hro
  go_wp2_with (at_builtin; refine wpList_append_own _ rfl _ _ 70 rfl f 22 i0 (.int .u64 0) 1 8 Try.underlying70 hi hz0 hz1 hz2 rfl (by decide) _ _ _ rfl HRo.out ⟨w2.heap.size, 0, none⟩ 1 1 [.int .u64 0] rfl rfl (cell_one_new _ _ _) (one_one rfl) (by decide) (by decide) (by have := H2.out.2.2.2.2.2.1; simp; omega) ?_; intro v1 w3 hown hg _; obtain ⟨g3, c3, rfl, hg3⟩ := own_two hown; have H3 := Lib.hid (And.intro (own_cells2 hown) (And.intro hg3 (Below.grown (((Below.refl _ w2).alloc (Nat.le_refl _) (.cells #[.int .u64 0] 22)).mono (show f ≤ w2.heap.size by have := H2.out.2.2.2.2.2.1; omega)) hg (by have := H2.out.2.2.2.2.2.1; simp; omega) (own_ge HRo.out)))); clear hown hg hg3 HRo)
  rw [rounds_succ]
  have hfs := H2.out.2.2.2.2.2.1
  have hfl := H2.out.2.2.2.2.1
  have hbox3 := (H3.out.2.2.block _ hfl).trans H2.out.1
  have hbel3 := H2.out.2.1.trans (H3.out.2.2.mono (Nat.le_of_lt hfl))
  have hbit3 := (H3.out.2.2.cell (p := ⟨u, 0, none⟩) H2.out.2.2.2.2.2.2).trans H2.out.2.2.1
  have H4 := Lib.hid (And.intro hbox3 (And.intro hbel3 (And.intro hbit3 H3.out.1)))
  clear hfs hfl hbox3 hbel3 hbit3 q1 q11 H3 H2
  have q5 := cell_of_row w3 W.heap.size 5 _ _ (0, 0) H4.out.1
  go_upto_region 10 with fail
  obtain ⟨L, hL⟩ : ∃ X, X = w3.heap.size + 1 := ⟨_, rfl⟩
  obtain ⟨S, hS⟩ : ∃ X, X = w3.heap.size := ⟨_, rfl⟩
  obtain ⟨w5, hw5⟩ : ∃ X, X = (w3.alloc (.map #[] 0)).alloc (.cells #[.int .i64 0, .int .i64 4, .int .u64 0, .pointer none, .pointer none, .slice none 0 0, .slice none 0 0, .slice none 0 0, .map (some w3.heap.size)] TLg) := ⟨_, rfl⟩
  have hB5 : Below w3.heap.size w3 w5 := by rw [hw5]; exact ((Below.refl _ _).alloc (Nat.le_refl _) _).alloc (by simp) _
  have hL5 : w5.heap[L]? = some (.cells #[.int .i64 0, .int .i64 4, .int .u64 0, .pointer none, .pointer none, .slice none 0 0, .slice none 0 0, .slice none 0 0, .map (some w3.heap.size)] TLg (0, 0)) := by rw [hw5, hL]; exact heap_at _ _ _ (by simp)
  have hS5 : w5.heap.size = L + 1 := by rw [hw5, hL]; simp
  have hlb : LB W w5 u cap L S b 0 (.pointer none) (.pointer none) (.slice none 0 0) :=
    ⟨(hB5.block _ (lt_of H4.out.1)).trans H4.out.1, by rw [hL5, hS], (hB5.cell (p := ⟨u, 0, none⟩) (World.block_lt_of_cell? w3 _ H4.out.2.2.1)).trans H4.out.2.2.1, H4.out.2.1.trans (hB5.mono H4.out.2.1.size), by have := lt_of H4.out.1; omega⟩
  have hn0 := (hB5.cell (p := ⟨g3, 0, none⟩) (World.block_lt_of_cell? w3 _ H4.out.2.2.2.1)).trans H4.out.2.2.2.1
  have hn1 := (hB5.cell (p := ⟨g3, 1, none⟩) (World.block_lt_of_cell? w3 _ H4.out.2.2.2.2)).trans H4.out.2.2.2.2
  have HNo := Lib.hid (nonce_new g3 c3 0 0 w5 hn0 hn1)
  have H5 := Lib.hid hlb
  clear hB5 hL5 hS5 hlb hn0 hn1 q5
  rw [← hw5, ← hL]
  clear hw5 hL hS H4
  go_wp2_with fail
  refine HNo.out.mono ?_
  rintro _ w6 ⟨⟨P, rfl⟩, b6⟩
  have hl := H5.out.below b6
  have c3' := cell_of_row w6 L 3 _ _ (0, 0) hl.lg
  have f3' := hl.fr 3
  have H6 := Lib.hid (hl.setv 3 (.pointer (some ⟨P, 0, none⟩)) (.pointer (some ⟨P, 0, none⟩)) (.pointer none) (.slice none 0 0) rfl)
  clear hl b6 HNo H5
  go_upto_region 11 with fail
  obtain ⟨w7, hw7⟩ : ∃ X, X = w6.setCell ⟨L, 3, none⟩ (.pointer (some ⟨P, 0, none⟩)) := ⟨_, rfl⟩
  rw [← hw7] at H6 ⊢
  clear hw7 c3' f3'
  have q4 := cell_of_row w7 W.heap.size 4 _ _ (0, 0) H6.out.box
  go_wp2_with fail
  refine (pool_new _).mono ?_
  rintro _ w8 ⟨rfl, b8⟩
  obtain ⟨p8, hp8⟩ : ∃ X, X = w7.heap.size := ⟨_, rfl⟩
  rw [← hp8]
  have hl := H6.out.below b8
  have c4' := cell_of_row w8 L 4 _ _ (0, 0) hl.lg
  have f4' := hl.fr 4
  have H8 := Lib.hid (hl.setv 4 (.pointer (some ⟨p8, 0, none⟩)) (.pointer (some ⟨P, 0, none⟩)) (.pointer (some ⟨p8, 0, none⟩)) (.slice none 0 0) rfl)
  clear hl b8 H6 q4 hp8
  go_upto_region 12 with fail
  obtain ⟨w9, hw9⟩ : ∃ X, X = w8.setCell ⟨L, 4, none⟩ (.pointer (some ⟨p8, 0, none⟩)) := ⟨_, rfl⟩
  rw [← hw9] at H8 ⊢
  clear hw9 c4' f4'
  have q0 := cell_of_row w9 W.heap.size 0 _ _ (0, 0) H8.out.box
  have hbt := H8.out.bit
  go_wp2_with fail
  refine wp_loop_rounds 2 ?_
  rw [rounds_succ]
  go_wp2_with fail
  refine (line_new 0 b (by decide) _).mono ?_
  rintro _ w10 ⟨⟨E, M, N, rfl, hln, hE, hM⟩, b10⟩
  have hLlt := lt_of H8.out.lg
  have hl := H8.out.below b10
  have c5' := cell_of_row w10 L 5 _ _ (0, 0) hl.lg
  have H10 := Lib.hid (And.intro hl (And.intro hln (And.intro (show L < E by omega) (And.intro (show L < M by omega) (lt_of hl.lg)))))
  clear hl hln hE hM hLlt b10 H8 q0 hbt
  have HNil := Lib.hid (World.ownsRow_nil (w10.alloc (.cells #[.pointer (some ⟨E, 0, none⟩)] 62)) w10.heap.size 62 1)
  go_wp2_with (at_builtin; go_loud (refine wpList_append_own _ rfl _ _ 74 rfl w10.heap.size 62 j0 (.pointer none) 1 8 Try.underlying74 hj hy0 hy1 hy2 rfl (by decide) _ _ _ rfl HNil.out ⟨w10.heap.size, 0, none⟩ 1 1 [.pointer (some ⟨E, 0, none⟩)] rfl rfl (cell_one_new _ _ _) (one_one rfl) (by decide) (by decide) (by simp) ?_; intro v1 z0 hown hg _; obtain ⟨g, c9, rfl, hg9⟩ := own_one hown; have hz : Below w10.heap.size w10 z0 := (((Below.refl _ w10).alloc (Nat.le_refl _) _).grown hg (by simp) (by intro k hk; cases hk)); have hl2 := H10.out.1.below hz; have t5 := cell_of_row z0 L 5 _ _ (0, 0) hl2.lg; have g5 := hl2.fr 5; have HF := Lib.hid (And.intro (hl2.setv 5 (.slice (some ⟨g, 0, none⟩) 1 c9) (.pointer (some ⟨P, 0, none⟩)) (.pointer (some ⟨p8, 0, none⟩)) (.slice (some ⟨g, 0, none⟩) 1 c9) rfl) (And.intro (own_cells1 hown) (And.intro (H10.out.2.1.below hz) hg9))); clear hown hg hz hl2 hg9))
  have hgL : g ≠ L := by have := HF.out.2.2.2; have := H10.out.2.2.2.2; omega
  have HG : Hid (LgIs (z0.setCell ⟨L, 5, none⟩ (.slice (some ⟨g, 0, none⟩) 1 c9)) W.heap.size L 0) := Lib.hid ⟨_, _, g, c9, S, HF.out.1.lg, Nat.le_of_lt HF.out.1.low, by have := HF.out.2.2.2; have := H10.out.2.2.2.2; have := HF.out.1.low; omega, E, M, N, b,
    (World.cell?_of_block (a := ⟨g, 0, none⟩) (Below.heap_setCell z0 ⟨L, 5, none⟩ _ g (by show g ≠ L; exact hgL))).trans HF.out.2.1,
    ⟨(Below.heap_setCell _ _ _ _ (by show E ≠ L; have := H10.out.2.2.1; omega)).trans HF.out.2.2.1.box, (Below.heap_setCell _ _ _ _ (by show M ≠ L; have := H10.out.2.2.2.1; omega)).trans HF.out.2.2.1.com⟩, by have := H10.out.2.2.1; have := HF.out.1.low; omega, by have := H10.out.2.2.2.1; have := HF.out.1.low; omega⟩
  clear hgL c5' t5 g5
  rw [rounds_succ]
  go_wp2
  go_ret2
  exact ⟨⟨L, rfl, HG.out⟩, HF.out.1.bel⟩
set_option maxRecDepth 20000 in
set_option maxHeartbeats 4000000 in
theorem ledger_new1 (u cap : Nat) (b : Bool) (W : World) (hA : W.cell? ⟨u, 0, none⟩ = some (.bool b)) :
  Calls Try.prog 13 #[.agg #[.slice (some ⟨u, 0, none⟩) 1 cap, .int .i64 1, .int .i64 2, .int .i64 8, .int .i64 8, .int .i64 4, .int .i64 3, .int .i64 2, .int .i64 4, .int .i64 6, .int .i64 0, .int .u64 0], .int .i64 1] W fun e w' => (∃ L, e = .returned (.tuple #[.pointer (some ⟨L, 0, none⟩), .int .i64 0]) ∧ LgIs w' W.heap.size L 1) ∧ Below W.heap.size W w' := by
  obtain ⟨i0, hi, hz0, hz1, hz2⟩ := info_parts infoU
  obtain ⟨j0, hj, hy0, hy1, hy2⟩ := info_parts infoPL
  have hmm := @run_makeMap Try.prog
  have HC : Hid (∀ V, Calls Try.prog 21 #[.agg #[.slice (some ⟨u, 0, none⟩) 1 cap, .int .i64 1, .int .i64 2, .int .i64 8, .int .i64 8, .int .i64 4, .int .i64 3, .int .i64 2, .int .i64 4, .int .i64 6, .int .i64 0, .int .u64 0]] V fun e w' => (∃ s, e = .returned (.tuple #[.string s, .int .i64 0])) ∧ Below V.heap.size V w') :=
  Lib.hid fun V => (check_any (plain (some ⟨u, 0, none⟩) 1 cap 1) V).mono fun e w' h => ⟨⟨_, h.1⟩, h.2⟩
  have hbox := heap_alloc_new W (.cells #[.slice (some ⟨u, 0, none⟩) 1 cap, .int .i64 1, .int .i64 2, .int .i64 8, .int .i64 8, .int .i64 4, .int .i64 3, .int .i64 2, .int .i64 4, .int .i64 6, .int .i64 0, .int .u64 0] TCf)
  have hbel := (Below.refl W.heap.size W).alloc (Nat.le_refl _) (.cells #[.slice (some ⟨u, 0, none⟩) 1 cap, .int .i64 1, .int .i64 2, .int .i64 8, .int .i64 8, .int .i64 4, .int .i64 3, .int .i64 2, .int .i64 4, .int .i64 6, .int .i64 0, .int .u64 0] TCf)
  have hbit := (hbel.cell (p := ⟨u, 0, none⟩) (World.block_lt_of_cell? W _ hA)).trans hA
  obtain ⟨w0, hw0⟩ : ∃ X, X = W.alloc (.cells #[.slice (some ⟨u, 0, none⟩) 1 cap, .int .i64 1, .int .i64 2, .int .i64 8, .int .i64 8, .int .i64 4, .int .i64 3, .int .i64 2, .int .i64 4, .int .i64 6, .int .i64 0, .int .u64 0] TCf) := ⟨_, rfl⟩
  rw [← hw0] at hbox hbel hbit
  have q := fun i => cell_of_row w0 W.heap.size i _ _ (0, 0) hbox
  have q0 := q 0
  have q1 := q 1
  have q2 := q 2
  have q3 := q 3
  have q4 := q 4
  have q5 := q 5
  have q6 := q 6
  have q7 := q 7
  have q8 := q 8
  have q9 := q 9
  have q10 := q 10
  have q11 := q 11
  have H0 := Lib.hid (And.intro hbox (And.intro hbel hbit))
  clear q hbox hbel hbit hA
  go_enter Try.func13, Try.ntmps13
  go_upto_region 1 with fail
  rw [← hw0]
  clear hw0
  go_wp2_with fail
  refine (HC.out _).mono ?_
  rintro _ w1 ⟨⟨s, rfl⟩, b1⟩
  have hbox := (b1.block _ (lt_of H0.out.1)).trans H0.out.1
  have hbel := H0.out.2.1.trans (b1.mono H0.out.2.1.size)
  have hbit := (b1.cell (p := ⟨u, 0, none⟩) (World.block_lt_of_cell? w0 _ H0.out.2.2)).trans H0.out.2.2
  clear b1 H0 q0 q1 q2 q3 q4 q5 q6 q7 q8 q9 q10 q11
  have hr : (w1.alloc (.cells #[.int .u64 0] 22)).ownsRow w1.heap.size 22 1 (.slice (some ⟨w1.heap.size, 0, none⟩) 1 1) 1 [.int .u64 0] := ⟨rfl, Or.inr ⟨w1.heap.size, 1, #[.int .u64 0], rfl, Nat.le_refl _, heap_alloc_new w1 _, by decide, by decide, rfl, rfl⟩⟩
  have hb1 := (Below.refl w1.heap.size w1).alloc (Nat.le_refl _) (.cells #[.int .u64 0] 22)
  obtain ⟨w2, hw2⟩ : ∃ X, X = w1.alloc (.cells #[.int .u64 0] 22) := ⟨_, rfl⟩
  obtain ⟨f, hf⟩ : ∃ X, X = w1.heap.size := ⟨_, rfl⟩
  rw [← hw2] at hr hb1
  have hlt := lt_of hbox
  have hbox2 := (hb1.block _ (lt_of hbox)).trans hbox
  have hbel2 := hbel.trans (hb1.mono hbel.size)
  have hbit2 := (hb1.cell (p := ⟨u, 0, none⟩) (World.block_lt_of_cell? w1 _ hbit)).trans hbit
  have hsz2 : w2.heap.size = f + 1 := by rw [hw2, hf]; simp
  have hul := World.block_lt_of_cell? w1 _ hbit
  rw [← hf] at hr hlt hul
  have H2 := Lib.hid (And.intro hbox2 (And.intro hbel2 (And.intro hbit2 (And.intro hr (And.intro hlt (And.intro hsz2 hul))))))
  clear hbox2 hbel2 hbit2 hr hlt hsz2 hb1 hbox hbel hbit hul
  have q1 := cell_of_row w2 W.heap.size 1 _ _ (0, 0) H2.out.1
  have q11 := cell_of_row w2 W.heap.size 11 _ _ (0, 0) H2.out.1
  go_upto_region 5 with fail
  rw [← hw2, ← hf]
  clear hw2 hf
  go_wp2_with fail
  refine wp_loop_rounds 2 ?_
  rw [rounds_succ]
  have hro := own_below H2.out.2.2.2.1 ((Below.refl _ w2).alloc (Nat.le_refl _) (.cells #[.int .u64 0] 22))
  have HRo := Lib.hid hro
  clear hro
  go_wp2_with (at_builtin; refine wpList_append_own _ rfl _ _ 70 rfl f 22 i0 (.int .u64 0) 1 8 Try.underlying70 hi hz0 hz1 hz2 rfl (by decide) _ _ _ rfl HRo.out ⟨w2.heap.size, 0, none⟩ 1 1 [.int .u64 0] rfl rfl (cell_one_new _ _ _) (one_one rfl) (by decide) (by decide) (by have := H2.out.2.2.2.2.2.1; simp; omega) ?_; intro v1 w3 hown hg _; obtain ⟨g3, c3, rfl, hg3⟩ := own_two hown; have H3 := Lib.hid (And.intro (own_cells2 hown) (And.intro hg3 (Below.grown (((Below.refl _ w2).alloc (Nat.le_refl _) (.cells #[.int .u64 0] 22)).mono (show f ≤ w2.heap.size by have := H2.out.2.2.2.2.2.1; omega)) hg (by have := H2.out.2.2.2.2.2.1; simp; omega) (own_ge HRo.out)))); clear hown hg hg3 HRo)
  rw [rounds_succ]
  have hfs := H2.out.2.2.2.2.2.1
  have hfl := H2.out.2.2.2.2.1
  have hbox3 := (H3.out.2.2.block _ hfl).trans H2.out.1
  have hbel3 := H2.out.2.1.trans (H3.out.2.2.mono (Nat.le_of_lt hfl))
  have hbit3 := (H3.out.2.2.cell (p := ⟨u, 0, none⟩) H2.out.2.2.2.2.2.2).trans H2.out.2.2.1
  have H4 := Lib.hid (And.intro hbox3 (And.intro hbel3 (And.intro hbit3 H3.out.1)))
  clear hfs hfl hbox3 hbel3 hbit3 q1 q11 H3 H2
  have q5 := cell_of_row w3 W.heap.size 5 _ _ (0, 0) H4.out.1
  go_upto_region 10 with fail
  obtain ⟨L, hL⟩ : ∃ X, X = w3.heap.size + 1 := ⟨_, rfl⟩
  obtain ⟨S, hS⟩ : ∃ X, X = w3.heap.size := ⟨_, rfl⟩
  obtain ⟨w5, hw5⟩ : ∃ X, X = (w3.alloc (.map #[] 0)).alloc (.cells #[.int .i64 1, .int .i64 4, .int .u64 0, .pointer none, .pointer none, .slice none 0 0, .slice none 0 0, .slice none 0 0, .map (some w3.heap.size)] TLg) := ⟨_, rfl⟩
  have hB5 : Below w3.heap.size w3 w5 := by rw [hw5]; exact ((Below.refl _ _).alloc (Nat.le_refl _) _).alloc (by simp) _
  have hL5 : w5.heap[L]? = some (.cells #[.int .i64 1, .int .i64 4, .int .u64 0, .pointer none, .pointer none, .slice none 0 0, .slice none 0 0, .slice none 0 0, .map (some w3.heap.size)] TLg (0, 0)) := by rw [hw5, hL]; exact heap_at _ _ _ (by simp)
  have hS5 : w5.heap.size = L + 1 := by rw [hw5, hL]; simp
  have hlb : LB W w5 u cap L S b 1 (.pointer none) (.pointer none) (.slice none 0 0) :=
    ⟨(hB5.block _ (lt_of H4.out.1)).trans H4.out.1, by rw [hL5, hS], (hB5.cell (p := ⟨u, 0, none⟩) (World.block_lt_of_cell? w3 _ H4.out.2.2.1)).trans H4.out.2.2.1, H4.out.2.1.trans (hB5.mono H4.out.2.1.size), by have := lt_of H4.out.1; omega⟩
  have hn0 := (hB5.cell (p := ⟨g3, 0, none⟩) (World.block_lt_of_cell? w3 _ H4.out.2.2.2.1)).trans H4.out.2.2.2.1
  have hn1 := (hB5.cell (p := ⟨g3, 1, none⟩) (World.block_lt_of_cell? w3 _ H4.out.2.2.2.2)).trans H4.out.2.2.2.2
  have HNo := Lib.hid (nonce_new g3 c3 0 0 w5 hn0 hn1)
  have H5 := Lib.hid hlb
  clear hB5 hL5 hS5 hlb hn0 hn1 q5
  rw [← hw5, ← hL]
  clear hw5 hL hS H4
  go_wp2_with fail
  refine HNo.out.mono ?_
  rintro _ w6 ⟨⟨P, rfl⟩, b6⟩
  have hl := H5.out.below b6
  have c3' := cell_of_row w6 L 3 _ _ (0, 0) hl.lg
  have f3' := hl.fr 3
  have H6 := Lib.hid (hl.setv 3 (.pointer (some ⟨P, 0, none⟩)) (.pointer (some ⟨P, 0, none⟩)) (.pointer none) (.slice none 0 0) rfl)
  clear hl b6 HNo H5
  go_upto_region 11 with fail
  obtain ⟨w7, hw7⟩ : ∃ X, X = w6.setCell ⟨L, 3, none⟩ (.pointer (some ⟨P, 0, none⟩)) := ⟨_, rfl⟩
  rw [← hw7] at H6 ⊢
  clear hw7 c3' f3'
  have q4 := cell_of_row w7 W.heap.size 4 _ _ (0, 0) H6.out.box
  go_wp2_with fail
  refine (pool_new _).mono ?_
  rintro _ w8 ⟨rfl, b8⟩
  obtain ⟨p8, hp8⟩ : ∃ X, X = w7.heap.size := ⟨_, rfl⟩
  rw [← hp8]
  have hl := H6.out.below b8
  have c4' := cell_of_row w8 L 4 _ _ (0, 0) hl.lg
  have f4' := hl.fr 4
  have H8 := Lib.hid (hl.setv 4 (.pointer (some ⟨p8, 0, none⟩)) (.pointer (some ⟨P, 0, none⟩)) (.pointer (some ⟨p8, 0, none⟩)) (.slice none 0 0) rfl)
  clear hl b8 H6 q4 hp8
  go_upto_region 12 with fail
  obtain ⟨w9, hw9⟩ : ∃ X, X = w8.setCell ⟨L, 4, none⟩ (.pointer (some ⟨p8, 0, none⟩)) := ⟨_, rfl⟩
  rw [← hw9] at H8 ⊢
  clear hw9 c4' f4'
  have q0 := cell_of_row w9 W.heap.size 0 _ _ (0, 0) H8.out.box
  have hbt := H8.out.bit
  go_wp2_with fail
  refine wp_loop_rounds 2 ?_
  rw [rounds_succ]
  go_wp2_with fail
  refine (line_new 1 b (by decide) _).mono ?_
  rintro _ w10 ⟨⟨E, M, N, rfl, hln, hE, hM⟩, b10⟩
  have hLlt := lt_of H8.out.lg
  have hl := H8.out.below b10
  have c5' := cell_of_row w10 L 5 _ _ (0, 0) hl.lg
  have H10 := Lib.hid (And.intro hl (And.intro hln (And.intro (show L < E by omega) (And.intro (show L < M by omega) (lt_of hl.lg)))))
  clear hl hln hE hM hLlt b10 H8 q0 hbt
  have HNil := Lib.hid (World.ownsRow_nil (w10.alloc (.cells #[.pointer (some ⟨E, 0, none⟩)] 62)) w10.heap.size 62 1)
  go_wp2_with (at_builtin; go_loud (refine wpList_append_own _ rfl _ _ 74 rfl w10.heap.size 62 j0 (.pointer none) 1 8 Try.underlying74 hj hy0 hy1 hy2 rfl (by decide) _ _ _ rfl HNil.out ⟨w10.heap.size, 0, none⟩ 1 1 [.pointer (some ⟨E, 0, none⟩)] rfl rfl (cell_one_new _ _ _) (one_one rfl) (by decide) (by decide) (by simp) ?_; intro v1 z0 hown hg _; obtain ⟨g, c9, rfl, hg9⟩ := own_one hown; have hz : Below w10.heap.size w10 z0 := (((Below.refl _ w10).alloc (Nat.le_refl _) _).grown hg (by simp) (by intro k hk; cases hk)); have hl2 := H10.out.1.below hz; have t5 := cell_of_row z0 L 5 _ _ (0, 0) hl2.lg; have g5 := hl2.fr 5; have HF := Lib.hid (And.intro (hl2.setv 5 (.slice (some ⟨g, 0, none⟩) 1 c9) (.pointer (some ⟨P, 0, none⟩)) (.pointer (some ⟨p8, 0, none⟩)) (.slice (some ⟨g, 0, none⟩) 1 c9) rfl) (And.intro (own_cells1 hown) (And.intro (H10.out.2.1.below hz) hg9))); clear hown hg hz hl2 hg9))
  have hgL : g ≠ L := by have := HF.out.2.2.2; have := H10.out.2.2.2.2; omega
  have HG : Hid (LgIs (z0.setCell ⟨L, 5, none⟩ (.slice (some ⟨g, 0, none⟩) 1 c9)) W.heap.size L 1) := Lib.hid ⟨_, _, g, c9, S, HF.out.1.lg, Nat.le_of_lt HF.out.1.low, by have := HF.out.2.2.2; have := H10.out.2.2.2.2; have := HF.out.1.low; omega, E, M, N, b,
    (World.cell?_of_block (a := ⟨g, 0, none⟩) (Below.heap_setCell z0 ⟨L, 5, none⟩ _ g (by show g ≠ L; exact hgL))).trans HF.out.2.1,
    ⟨(Below.heap_setCell _ _ _ _ (by show E ≠ L; have := H10.out.2.2.1; omega)).trans HF.out.2.2.1.box, (Below.heap_setCell _ _ _ _ (by show M ≠ L; have := H10.out.2.2.2.1; omega)).trans HF.out.2.2.1.com⟩, by have := H10.out.2.2.1; have := HF.out.1.low; omega, by have := H10.out.2.2.2.1; have := HF.out.1.low; omega⟩
  clear hgL c5' t5 g5
  rw [rounds_succ]
  go_wp2
  go_ret2
  exact ⟨⟨L, rfl, HG.out⟩, HF.out.1.bel⟩
end Go.Proofs.Ythamhdfkhhfmmab.Wd
