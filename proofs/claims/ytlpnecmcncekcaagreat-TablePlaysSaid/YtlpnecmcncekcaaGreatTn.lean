import Derived.Test.YtlpnecmcncekcaaGreatTableBase
import Derived.Test.YtlpnecmcncekcaaGreatCf
/- A table made. -/
namespace Go.Proofs.YtlpnecmcncekcaaGreat.Mk
open Go Go.RowKit Go.MuLone Conf

abbrev TPS : Nat := 68
abbrev TTb : Nat := 67
abbrev TCf : Nat := 25
def ptrS (x : Nat × Nat) : Value := .pointer (some ⟨x.1, 0, none⟩)
theorem infoPS : (Tryz.prog.info? TPS).map (fun i => (i.zero, i.size, i.bytes)) = some (some (.pointer none), 1, 8) := by kernel_rfl

/-- a table as it is made -/
structure TB (w wr : World) (T : Nat) (v : Value) (ss : List (Nat × Nat)) (c : Cfg) : Prop where
  bel : Below w.heap.size w wr
  lt : w.heap.size < T
  box : wr.heap[w.heap.size]? = some (.cells c.cells TCf (0, 0))
  tab : wr.heap[T]? = some (.cells #[v] TTb (0, 0))
  row : wr.ownsRow (T + 1) TPS 1 v ss.length (ss.map ptrS)
  sh : ∀ x ∈ ss, ShIs wr x.1 x.2 8 [] 0 0 ∧ T < x.1 ∧ T < x.2
theorem own_alloc {w w1 : World} {base e n : Nat} {v : Value} {xs : List Value} (h : w.ownsRow base e 1 v n xs) (hb : Below w.heap.size w w1) : w1.ownsRow base e 1 v n xs := by
  refine ⟨h.1, ?_⟩
  rcases h.2 with h2 | ⟨g, cap, cur, hv, hg, hh, r⟩
  · exact Or.inl h2
  · exact Or.inr ⟨g, cap, cur, hv, hg, (hb.block g (lt_blkC hh)).trans hh, r⟩
theorem own_apart9 {w : World} {base e n k T : Nat} {v : Value} {cs : Array Value} {fr : Nat × Nat} {xs : List Value} (h : w.ownsRow base e 1 v n xs) (hb : w.heap[k]? = some (.cells cs T fr)) (hT : T ≠ e) : some k ≠ v.ownBlock := by
  intro e1
  rcases h.2 with ⟨h2, -⟩ | ⟨g, cap, cur, hv, hg, hh, r⟩
  · rw [h2] at e1; cases e1
  · rw [hv] at e1
    have e2 : k = g := by injection e1
    rw [e2, hh] at hb
    injection hb with hb
    injection hb with _ hb _
    exact hT hb.symm
theorem own_apartM {w : World} {base e n k : Nat} {v : Value} {es : Array MapEntry} {cl : Nat} {xs : List Value} (h : w.ownsRow base e 1 v n xs) (hb : w.heap[k]? = some (.map es cl)) : some k ≠ v.ownBlock := by
  intro e1
  rcases h.2 with ⟨h2, -⟩ | ⟨g, cap, cur, hv, hg, hh, r⟩
  · rw [h2] at e1; cases e1
  · rw [hv] at e1
    have e2 : k = g := by injection e1
    rw [e2, hh] at hb
    injection hb with hb
    cases hb
theorem TB.ahead {w wr w1 : World} {T S B : Nat} {v : Value} {ss : List (Nat × Nat)} {c : Cfg} (h : TB w wr T v ss c) (b1 : Below wr.heap.size wr w1) (h1 : ShIs w1 S B 8 [] 0 0) (hS : wr.heap.size ≤ S) (hB : wr.heap.size ≤ B) :
    w1.heap[T]? = some (.cells #[v] TTb (0, 0)) ∧ w1.ownsRow (T + 1) TPS 1 v ss.length (ss.map ptrS) ∧
    ∀ v1 w2, w2.ownsRow (T + 1) TPS 1 v1 (ss.length + 1) (ss.map ptrS ++ [.pointer (some ⟨S, 0, none⟩)]) → (w1.alloc (.cells #[.pointer (some ⟨S, 0, none⟩)] TPS)).grownBy w2 v.ownBlock →
      w2.heap[T]? = some (.cells #[v] TTb (0, 0)) ∧ TB w (w2.setCell ⟨T, 0, none⟩ v1) T v1 (ss ++ [(S, B)]) c := by
  have hT1 := (b1.block T (lt_blkC h.tab)).trans h.tab
  have hr1 := own_alloc h.row b1
  refine ⟨hT1, hr1, fun v1 w2 ho hg => ?_⟩
  have hr2 := own_alloc hr1 ((Below.refl _ w1).alloc (Nat.le_refl _) (.cells #[.pointer (some ⟨S, 0, none⟩)] TPS))
  have keep : ∀ k o, w1.heap[k]? = some o → some k ≠ v.ownBlock → w2.heap[k]? = some o := fun k o hk hne => by
    have hlt := lt_blkC hk
    rw [hg.block k (by simp; omega) hne, Below.heap_alloc _ _ _ hlt, hk]
  have hTne : some T ≠ v.ownBlock := own_apart9 hr1 hT1 (by decide)
  have hT2 := keep T _ hT1 hTne
  have hC1 := (b1.block _ (lt_blkC h.box)).trans h.box
  have hC2 := keep _ _ hC1 (own_apart9 hr1 hC1 (by decide))
  have hTlt := lt_blkC h.tab
  have bel1 : Below w.heap.size w w1 := h.bel.trans (b1.mono h.bel.size)
  have bel2 : Below w.heap.size w w2 := by
    have b9 := bel1.alloc bel1.size (.cells #[.pointer (some ⟨S, 0, none⟩)] TPS)
    refine b9.grown hg b9.size (fun k hk => ?_)
    rcases hr1.2 with ⟨h2, -⟩ | ⟨g, cap, cur, hv, hgg, hh, r⟩
    · rw [h2] at hk; cases hk
    · rw [hv] at hk; have : g = k := by injection hk
      have := h.lt; omega
  refine ⟨hT2, bel2.setCell (by show w.heap.size ≤ T; exact Nat.le_of_lt h.lt) _, h.lt, ?_, ?_, ?_, ?_⟩
  · rw [Below.heap_setCell _ _ _ _ (by show w.heap.size ≠ T; have := h.lt; omega)]; exact hC2
  · exact (setCell_at v1 hT2).trans rfl
  · have e9 : (ss ++ [(S, B)]).length = ss.length + 1 := by simp
    have e8 : (ss ++ [(S, B)]).map ptrS = ss.map ptrS ++ [.pointer (some ⟨S, 0, none⟩)] := by simp [ptrS]
    rw [e9, e8]
    refine ⟨ho.1, ?_⟩
    rcases ho.2 with h2 | ⟨g, cap, cur, hv, hgg, hh, r⟩
    · exact Or.inl h2
    · exact Or.inr ⟨g, cap, cur, hv, hgg, (Below.heap_setCell _ _ _ _ (by show g ≠ T; omega)).trans hh, r⟩
  · intro x hx
    have go : ∀ S' B', ShIs w1 S' B' 8 [] 0 0 → T < S' → T < B' → ShIs (w2.setCell ⟨T, 0, none⟩ v1) S' B' 8 [] 0 0 := fun S' B' hs h1 h2 => by
      refine ⟨?_, ?_⟩
      · rw [Below.heap_setCell _ _ _ _ (by show S' ≠ T; omega)]
        exact keep _ _ hs.box (own_apart9 hr1 hs.box (by decide))
      · show (World.heap _)[_]? = _
        rw [Below.heap_setCell _ _ _ _ (by show B' ≠ T; omega)]
        exact keep _ _ hs.map (own_apartM hr1 hs.map)
    rcases List.mem_append.1 hx with hx | hx
    · obtain ⟨hs, h2, h3⟩ := h.sh x hx
      exact ⟨go _ _ (hs.below b1) h2 h3, h2, h3⟩
    · rw [List.mem_singleton] at hx
      subst hx
      exact ⟨go _ _ h1 (by omega) (by omega), by show T < S; omega, by show T < B; omega⟩

set_option maxRecDepth 20000 in
set_option maxHeartbeats 2000000 in
theorem tnew_any (c : Cfg) (hc : code c 11 0 = 0) (h2 : c.f2 = 2) (h3 : c.f3 = 8) (w : World) :
    Calls Tryz.prog 9 #[.agg c.cells] w fun e w' => ∃ T v S0 B0 S1 B1, e = .returned (.tuple #[.pointer (some ⟨T, 0, none⟩), .int .i64 0]) ∧ TB w w' T v [(S0, B0), (S1, B1)] c := by
  obtain ⟨i0, hi, hz0, hz1, hz2⟩ := info_parts infoPS
  have HC := Lib.hid (fun V => hc ▸ check_any c V)
  have hcc : c.cells = #[.slice c.A c.n c.cap, .int .i64 c.f1, .int .i64 2, .int .i64 8, .int .i64 c.f4, .int .i64 c.f5, .int .i64 c.f6, .int .i64 c.f7, .int .i64 c.f8, .int .i64 c.f9, .int .i64 c.f10, .int .u64 c.f11] := by rw [← h2, ← h3]; rfl
  have hb0 := heap_alloc_new w (.cells c.cells TCf)
  have bl0 := (Below.refl w.heap.size w).alloc (Nat.le_refl _) (.cells c.cells TCf)
  rw [hcc] at HC hb0 bl0 ⊢
  obtain ⟨w0, hw0⟩ : ∃ X, X = w.alloc (.cells #[.slice c.A c.n c.cap, .int .i64 c.f1, .int .i64 2, .int .i64 8, .int .i64 c.f4, .int .i64 c.f5, .int .i64 c.f6, .int .i64 c.f7, .int .i64 c.f8, .int .i64 c.f9, .int .i64 c.f10, .int .u64 c.f11] TCf) := ⟨_, rfl⟩
  rw [← hw0] at hb0 bl0
  have HX := Lib.hid (And.intro hb0 bl0)
  have q := fun i => cell_of_row w0 w.heap.size i _ _ (0, 0) hb0
  have q0 := q 0; have q1 := q 1; have q2 := q 2; have q3 := q 3; have q4 := q 4; have q5 := q 5; have q6 := q 6; have q7 := q 7; have q8 := q 8; have q9 := q 9; have q10 := q 10; have q11 := q 11
  clear hb0 bl0 h2 h3 q
  go_enter Tryz.func9, Tryz.ntmps9
  go_upto_region 1 with fail
  rw [← hw0]
  clear hw0
  go_wp2_with fail
  refine (HC.out _).mono ?_
  rintro _ w1 ⟨rfl, b1⟩
  clear q0 q1 q2 q3 q4 q5 q6 q7 q8 q9 q10 q11
  have hb1 := (b1.block _ (lt_blkC HX.out.1)).trans HX.out.1
  have bl1 : Below w.heap.size w w1 := HX.out.2.trans (b1.mono HX.out.2.size)
  have hlt1 := lt_blkC hb1
  obtain ⟨T, hT⟩ : ∃ T, T = w1.heap.size := ⟨_, rfl⟩
  obtain ⟨w2, hw2⟩ : ∃ X, X = w1.alloc (.cells #[.slice none 0 0] TTb) := ⟨_, rfl⟩
  have H0 : Hid (TB w w2 T (.slice none 0 0) [] c) := Lib.hid (by
    rw [hw2, hT]
    refine ⟨bl1.alloc bl1.size _, hlt1, ?_, heap_alloc_new w1 _, World.ownsRow_nil _ _ _ _, fun x hx => by cases hx⟩
    rw [hcc]
    exact (Below.heap_alloc _ _ _ hlt1).trans hb1)
  clear b1 hb1 bl1 hlt1 HX
  go_upto_region 5 with fail
  rw [← hw2, ← hT]
  clear hw2 hT
  have hbx := fun (V : World) (v : Value) (ss : List (Nat × Nat)) (h : TB w V T v ss c) => And.intro (cell_of_row V w.heap.size 2 _ _ (0, 0) (hcc ▸ h.box)) (cell_of_row V w.heap.size 3 _ _ (0, 0) (hcc ▸ h.box))
  have HBX := Lib.hid hbx
  clear hbx
  have p2 := (HBX.out _ _ _ H0.out).1
  have p3 := (HBX.out _ _ _ H0.out).2
  go_wp2_with fail
  refine wp_loop_rounds 3 ?_
  rw [rounds_succ]
  go_wp2_with fail
  refine (snew_ok 8 _ (by decide) (by decide)).mono ?_
  rintro _ y0 ⟨⟨S0, B0, rfl, h1, hS, hB⟩, b1⟩
  obtain ⟨hT1, hr1, hnx⟩ := H0.out.ahead b1 h1 hS hB
  have HN0 := Lib.hid hnx
  have t0 := cell_of_row y0 T 0 _ _ (0, 0) hT1
  have g0 : y0.frozen? ⟨T, 0, none⟩ = false := by simp [World.frozen?, hT1]
  have hlt0 : T + 1 ≤ y0.heap.size := lt_blkC hT1
  have HR0 := Lib.hid (own_alloc hr1 ((Below.refl _ y0).alloc (Nat.le_refl _) (.cells #[.pointer (some ⟨S0, 0, none⟩)] TPS)))
  clear hnx hT1 h1 hS hB b1 hr1 H0
  go_wp2_with (at_builtin; go_loud (refine wpList_append_own _ rfl _ _ 65 rfl (T + 1) 68 i0 (.pointer none) 1 8 Tryz.underlying65 hi hz0 hz1 hz2 rfl (by decide) _ _ _ rfl HR0.out ⟨y0.heap.size, 0, none⟩ 1 1 [.pointer (some ⟨S0, 0, none⟩)] rfl rfl (cell_one_new _ _ _) (one_one rfl) (by simp [maxLen]) (by simp) (by simp; try omega) ?_; intro v1 z0 hown hg _; obtain ⟨A1, c1, rfl⟩ := own_form hown; obtain ⟨hT2, hTB⟩ := HN0.out _ z0 hown hg; have t := cell_of_row z0 T 0 _ _ (0, 0) hT2; have g : z0.frozen? ⟨T, 0, none⟩ = false := (by simp [World.frozen?, hT2]); have H1 := Lib.hid (show TB w (z0.setCell ⟨T, 0, none⟩ (.slice A1 1 c1)) T (.slice A1 1 c1) [(S0, B0)] c from hTB); clear hTB hown hg hT2 HN0 HR0 t0 g0 hlt0))
  obtain ⟨x1, hx1⟩ : ∃ X, X = z0.setCell ⟨T, 0, none⟩ (.slice A1 1 c1) := ⟨_, rfl⟩
  rw [← hx1] at H1 ⊢
  clear hx1 t g p2 p3
  have p2 := (HBX.out _ _ _ H1.out).1
  have p3 := (HBX.out _ _ _ H1.out).2
  rw [rounds_succ]
  go_wp2_with fail
  refine (snew_ok 8 _ (by decide) (by decide)).mono ?_
  rintro _ y1 ⟨⟨S1, B1, rfl, h1, hS, hB⟩, b1⟩
  obtain ⟨hT1, hr1, hnx⟩ := H1.out.ahead b1 h1 hS hB
  have HN1 := Lib.hid hnx
  have t1 := cell_of_row y1 T 0 _ _ (0, 0) hT1
  have g1 : y1.frozen? ⟨T, 0, none⟩ = false := by simp [World.frozen?, hT1]
  have hlt1 : T + 1 ≤ y1.heap.size := lt_blkC hT1
  have HR1 := Lib.hid (own_alloc hr1 ((Below.refl _ y1).alloc (Nat.le_refl _) (.cells #[.pointer (some ⟨S1, 0, none⟩)] TPS)))
  clear hnx hT1 h1 hS hB b1 hr1 H1
  go_wp2_with (at_builtin; go_loud (refine wpList_append_own _ rfl _ _ 65 rfl (T + 1) 68 i0 (.pointer none) 1 8 Tryz.underlying65 hi hz0 hz1 hz2 rfl (by decide) _ _ _ rfl HR1.out ⟨y1.heap.size, 0, none⟩ 1 1 [.pointer (some ⟨S1, 0, none⟩)] rfl rfl (cell_one_new _ _ _) (one_one rfl) (by simp [maxLen]) (by simp) (by simp; try omega) ?_; intro v2 z1 hown hg _; obtain ⟨A2, c2, rfl⟩ := own_form hown; obtain ⟨hT2, hTB⟩ := HN1.out _ z1 hown hg; have t := cell_of_row z1 T 0 _ _ (0, 0) hT2; have g : z1.frozen? ⟨T, 0, none⟩ = false := (by simp [World.frozen?, hT2]); have H2 := Lib.hid (show TB w (z1.setCell ⟨T, 0, none⟩ (.slice A2 2 c2)) T (.slice A2 2 c2) [(S0, B0), (S1, B1)] c from hTB); clear hTB hown hg hT2 HN1 HR1 t1 g1 hlt1))
  obtain ⟨x2, hx2⟩ : ∃ X, X = z1.setCell ⟨T, 0, none⟩ (.slice A2 2 c2) := ⟨_, rfl⟩
  rw [← hx2] at H2 ⊢
  clear hx2 t g
  rw [rounds_succ]
  go_wp2
  go_ret2
  exact ⟨T, _, S0, B0, S1, B1, rfl, H2.out⟩
end Go.Proofs.YtlpnecmcncekcaaGreat.Mk
/- A table of two shards: Do of an insert. -/
namespace Go.Proofs.YtlpnecmcncekcaaGreat.Mk
open Go Go.RowKit Go.MuLone

/-- a table of two shards -/
structure TJ (W : World) (T g cap S0 S1 : Nat) : Prop where
  tab : W.heap[T]? = some (.cells #[.slice (some ⟨g, 0, none⟩) 2 cap] TTb (0, 0))
  c0 : W.cell? ⟨g, 0, none⟩ = some (.pointer (some ⟨S0, 0, none⟩))
  c1 : W.cell? ⟨g, 1, none⟩ = some (.pointer (some ⟨S1, 0, none⟩))
theorem TJ.ltT {W : World} {T g cap S0 S1 : Nat} (h : TJ W T g cap S0 S1) : T < W.heap.size := (Array.getElem?_eq_some_iff.1 h.tab).1
theorem TJ.ltg {W : World} {T g cap S0 S1 : Nat} (h : TJ W T g cap S0 S1) : g < W.heap.size := by
  rcases Nat.lt_or_ge g W.heap.size with h1 | h1
  · exact h1
  · have := h.c0; simp [World.cell?, Array.getElem?_eq_none h1] at this
theorem TJ.keep {W V : World} {T g cap S0 S1 : Nat} (h : TJ W T g cap S0 S1) (h1 : V.heap[T]? = W.heap[T]?) (h2 : V.heap[g]? = W.heap[g]?) : TJ V T g cap S0 S1 :=
  ⟨h1.trans h.tab, (World.cell?_of_block (a := ⟨g, 0, none⟩) h2).trans h.c0, (World.cell?_of_block (a := ⟨g, 1, none⟩) h2).trans h.c1⟩
theorem TJ.below {W V : World} {T g cap S0 S1 : Nat} (h : TJ W T g cap S0 S1) (hb : Below W.heap.size W V) : TJ V T g cap S0 S1 := h.keep (hb.block _ h.ltT) (hb.block _ h.ltg)
theorem TJ.only {W V : World} {T g cap S0 S1 S B : Nat} (h : TJ W T g cap S0 S1) (hO : Only2 S B W V) (h1 : T ≠ S) (h2 : T ≠ B) (h3 : g ≠ S) (h4 : g ≠ B) : TJ V T g cap S0 S1 := h.keep (hO.block _ h.ltT h1 h2) (hO.block _ h.ltg h3 h4)
set_option maxRecDepth 20000 in
theorem shards_two {W : World} {T g cap S0 S1 : Nat} (h : TJ W T g cap S0 S1) : Calls Tryz.prog 37 #[.pointer (some ⟨T, 0, none⟩)] W fun e w' => e = .returned (.int .i64 2) ∧ w' = W := by
  have t := cell_of_row W T 0 _ _ (0, 0) h.tab
  clear h
  go_enter Tryz.func37, Tryz.ntmps37
  go_wp2
  go_ret
  exact ⟨rfl, rfl⟩
set_option maxRecDepth 20000 in
theorem at_0 {W : World} {T g cap S0 S1 : Nat} (h : TJ W T g cap S0 S1) : Calls Tryz.prog 29 #[.pointer (some ⟨T, 0, none⟩), .int .i64 0] W fun e w' => e = .returned (.pointer (some ⟨S0, 0, none⟩)) ∧ w' = W := by
  have t := cell_of_row W T 0 _ _ (0, 0) h.tab
  have t0 := h.c0
  have t1 := h.c1
  have H := Lib.hid h
  clear h
  go_enter Tryz.func29, Tryz.ntmps29
  go_wp2_with fail
  refine (shards_two H.out).mono ?_
  rintro _ w' ⟨rfl, rfl⟩
  go_wp2
  go_ret
  exact ⟨rfl, rfl⟩
set_option maxRecDepth 20000 in
theorem at_1 {W : World} {T g cap S0 S1 : Nat} (h : TJ W T g cap S0 S1) : Calls Tryz.prog 29 #[.pointer (some ⟨T, 0, none⟩), .int .i64 1] W fun e w' => e = .returned (.pointer (some ⟨S1, 0, none⟩)) ∧ w' = W := by
  have t := cell_of_row W T 0 _ _ (0, 0) h.tab
  have t0 := h.c0
  have t1 := h.c1
  have H := Lib.hid h
  clear h
  go_enter Tryz.func29, Tryz.ntmps29
  go_wp2_with fail
  refine (shards_two H.out).mono ?_
  rintro _ w' ⟨rfl, rfl⟩
  go_wp2
  go_ret
  exact ⟨rfl, rfl⟩
set_option maxRecDepth 20000 in
theorem of_two {W : World} {T g cap S0 S1 : Nat} (h : TJ W T g cap S0 S1) (k : K3) (h0 : 0 ≤ k.s) (h1 : k.s < 18446744073709551616) (S : Nat)
    (hat : ∀ V, TJ V T g cap S0 S1 → Calls Tryz.prog 29 #[.pointer (some ⟨T, 0, none⟩), .int .i64 (Fnv.keyH k.c k.f k.s % 2)] V fun e w' => e = .returned (.pointer (some ⟨S, 0, none⟩)) ∧ w' = V) :
    Calls Tryz.prog 31 #[.pointer (some ⟨T, 0, none⟩), k.val] W fun e w' => e = .returned (.pointer (some ⟨S, 0, none⟩)) ∧ Below W.heap.size W w' := by
  obtain ⟨kc, kf, ks⟩ := k
  have HSh := Lib.hid (fun V => Fnv.shard_any kc kf ks 2 h0 h1 (by decide) (by decide) V)
  have HAt := Lib.hid hat
  clear h0 h1 hat
  unfold K3.val
  dsimp only at HAt ⊢
  generalize Fnv.keyH kc kf ks % 2 = j at HSh HAt
  have hK := heap_alloc_new W (.cells #[.int .i64 kc, .int .i64 kf, .int .u64 ks] 41)
  have b1 := (Below.refl W.heap.size W).alloc (Nat.le_refl _) (.cells #[.int .i64 kc, .int .i64 kf, .int .u64 ks] 41)
  have h2 := h.below b1
  obtain ⟨W0, hW0⟩ : ∃ X, X = W.alloc (.cells #[.int .i64 kc, .int .i64 kf, .int .u64 ks] 41) := ⟨_, rfl⟩
  rw [← hW0] at hK b1 h2
  have hlt : W.heap.size < W0.heap.size := (Array.getElem?_eq_some_iff.1 hK).1
  have HX := Lib.hid (And.intro hlt (And.intro b1 (And.intro hK h2)))
  clear hlt b1 hK h2 h
  go_enter Tryz.func31, Tryz.ntmps31
  go_upto_region 1 with fail
  rw [← hW0]
  clear hW0
  refine wp_region_held_drew (S := (fun V => V.heap[W.heap.size]? = some (.cells #[.int .i64 kc, .int .i64 kf, .int .u64 ks] 41 (0, 0)) ∧ TJ V T g cap S0 S1)) (by kernel_rfl) ⟨HX.out.2.2.1, HX.out.2.2.2.tab, HX.out.2.2.2.c0, HX.out.2.2.2.c1⟩ (fun hHeld => ?_)
  refine wpAnyH_take (i := 0) (oi := _) (v := ?_) rfl (by kernel_rfl) (by kernel_rfl) (by kernel_rfl) (fun _ _ _ h => h) (Or.inl ⟨by rfl, ?_⟩) (by assumption) ?_
  rotate_left
  · (intro W hSw; (try dsimp only at hSw); go_simp; try with_reducible rfl)
  try simp only [Act.put, List.getElem_toArray, List.getElem_cons_zero, List.setIfInBounds_toArray, List.set_cons_zero, List.set_cons_succ]
  refine wpAnyH_take (i := 1) (oi := _) (v := ?_) rfl (by kernel_rfl) (by kernel_rfl) (by kernel_rfl) (fun _ _ _ h => h) (Or.inl ⟨by rfl, ?_⟩) (by assumption) ?_
  rotate_left
  · (intro V hSw; have q0 := cell_of_row V W.heap.size 0 _ _ (0, 0) hSw.1; have q1 := cell_of_row V W.heap.size 1 _ _ (0, 0) hSw.1; have q2 := cell_of_row V W.heap.size 2 _ _ (0, 0) hSw.1; clear hSw; go_simp; try with_reducible rfl)
  try simp only [Act.put, List.getElem_toArray, List.getElem_cons_succ, List.getElem_cons_zero, List.setIfInBounds_toArray, List.set_cons_zero, List.set_cons_succ]
  refine wpAnyH_take (i := 2) (oi := _) (v := ?_) rfl (by kernel_rfl) (by kernel_rfl) (by kernel_rfl) (fun _ _ _ h => h) (Or.inl ⟨by rfl, ?_⟩) (by assumption) ?_
  rotate_left
  · (intro W hSw; (try dsimp only at hSw); go_simp; try with_reducible rfl)
  try simp only [Act.put, List.getElem_toArray, List.getElem_cons_succ, List.getElem_cons_zero, List.setIfInBounds_toArray, List.set_cons_zero, List.set_cons_succ]
  refine wpAnyH_ready (rs := [3]) (by kernel_rfl) (by simp) ?_
  refine AllReadyH.cons rfl (fun K hK => ?_) AllReadyH.nil
  simp only [List.getElem_toArray, List.getElem_cons_succ, List.getElem_cons_zero]
  rw [if_pos (by rfl)]
  go_simp
  refine (shards_two hHeld.2).mono ?_
  rintro _ w1 ⟨rfl, rfl⟩
  go_wp2_with fail
  refine hK.out _ _ hHeld (fun hHeld => ?_)
  clear hK K
  try simp only [Act.put, List.getElem_toArray, List.getElem_cons_succ, List.getElem_cons_zero, List.setIfInBounds_toArray, List.set_cons_zero, List.set_cons_succ]
  refine wpAnyH_ready (rs := [4]) (by kernel_rfl) (by simp) ?_
  refine AllReadyH.cons rfl (fun K hK => ?_) AllReadyH.nil
  simp only [List.getElem_toArray, List.getElem_cons_succ, List.getElem_cons_zero]
  rw [if_pos (by rfl)]
  go_simp
  refine (HSh.out _).mono ?_
  rintro _ w2 ⟨rfl, b2⟩
  go_wp2_with fail
  refine hK.out _ _ ⟨(b2.block _ HX.out.1).trans hHeld.1, hHeld.2.below b2⟩ (fun hHeld => ?_)
  clear hK K
  try simp only [Act.put, List.getElem_toArray, List.getElem_cons_succ, List.getElem_cons_zero, List.setIfInBounds_toArray, List.set_cons_zero, List.set_cons_succ]
  refine wpAnyH_ready (rs := [5]) (by kernel_rfl) (by simp) ?_
  refine AllReadyH.cons rfl (fun K hK => ?_) AllReadyH.nil
  simp only [List.getElem_toArray, List.getElem_cons_succ, List.getElem_cons_zero]
  rw [if_pos (by rfl)]
  go_simp
  refine (HAt.out _ hHeld.2).mono ?_
  rintro _ w3 ⟨rfl, rfl⟩
  go_wp2_with fail
  refine hK.out _ _ hHeld (fun hHeld => ?_)
  clear hK K
  try simp only [Act.put, List.getElem_toArray, List.getElem_cons_succ, List.getElem_cons_zero, List.setIfInBounds_toArray, List.set_cons_zero, List.set_cons_succ]
  refine wpAnyH_take (i := 6) (oi := _) (v := ?_) rfl (by kernel_rfl) (by kernel_rfl) (by kernel_rfl) (fun _ _ _ h => h) (Or.inl ⟨by rfl, ?_⟩) (by assumption) ?_
  rotate_left
  · (intro W hSw; (try dsimp only at hSw); go_simp; try with_reducible rfl)
  try simp only [Act.put, List.getElem_toArray, List.getElem_cons_succ, List.getElem_cons_zero, List.setIfInBounds_toArray, List.set_cons_zero, List.set_cons_succ]
  refine wpAnyH_done (by kernel_rfl) ?_ _
  have hb := HX.out.2.1.drew.trans (b2.mono HX.out.2.1.size)
  clear b2 HX
  go_wp2
  go_ret
  exact ⟨rfl, hb⟩
set_option maxRecDepth 20000 in
set_option maxHeartbeats 2000000 in
theorem tdo_ins {W : World} {T g cap S0 S1 : Nat} (h : TJ W T g cap S0 S1) (who : Int) (k : K3) (sd ac ep nn : Int) (h0 : 0 ≤ k.s) (h1 : k.s < 18446744073709551616) (S B : Nat) (room : Int) (l : List Ms) (clock : Nat)
    (hat : ∀ V, TJ V T g cap S0 S1 → Calls Tryz.prog 29 #[.pointer (some ⟨T, 0, none⟩), .int .i64 (Fnv.keyH k.c k.f k.s % 2)] V fun e w' => e = .returned (.pointer (some ⟨S, 0, none⟩)) ∧ w' = V)
    (hs : ShIs W S B room l clock 0) :
    Calls Tryz.prog 11 #[.pointer (some ⟨T, 0, none⟩), opV 1 who k sd ac ep nn] W fun e w' => e = .returned (retV (insR room l k)) ∧ ShIs w' S B room (insL room l clock k).1 (insL room l clock k).2 0 ∧ Only2 S B W w' := by
  have HOf := Lib.hid (fun V (hV : TJ V T g cap S0 S1) => of_two hV k h0 h1 S hat)
  have HIn := Lib.hid (fun V (hV : ShIs V S B room l clock 0) => sins_any S B room l clock k V hV)
  clear h0 h1 hat
  generalize insR room l k = r at HIn ⊢
  generalize insL room l clock k = L at HIn ⊢
  obtain ⟨kc, kf, ks⟩ := k
  unfold opV retV
  unfold K3.val at HOf HIn
  dsimp only at HOf HIn ⊢
  have hK := heap_two W (.cells #[.int .i64 1, .int .i64 who, .int .i64 kc, .int .i64 kf, .int .u64 ks, .int .i64 sd, .int .i64 ac, .int .u64 ep, .int .u64 nn] 43) (.cells #[.int .i64 0, .int .u64 0, .int .u64 0, .int .u64 0] 38)
  have b1 := below_two W (.cells #[.int .i64 1, .int .i64 who, .int .i64 kc, .int .i64 kf, .int .u64 ks, .int .i64 sd, .int .i64 ac, .int .u64 ep, .int .u64 nn] 43) (.cells #[.int .i64 0, .int .u64 0, .int .u64 0, .int .u64 0] 38)
  have hne := And.intro hs.ltS hs.ltB
  obtain ⟨W0, hW0⟩ : ∃ X, X = (W.alloc (.cells #[.int .i64 1, .int .i64 who, .int .i64 kc, .int .i64 kf, .int .u64 ks, .int .i64 sd, .int .i64 ac, .int .u64 ep, .int .u64 nn] 43)).alloc (.cells #[.int .i64 0, .int .u64 0, .int .u64 0, .int .u64 0] 38) := ⟨_, rfl⟩
  rw [← hW0] at hK b1
  have hlt : W.heap.size + 1 < W0.heap.size := (Array.getElem?_eq_some_iff.1 hK.2).1
  have p2 := cell_of_row W0 W.heap.size 2 _ _ (0, 0) hK.1
  have p3 := cell_of_row W0 W.heap.size 3 _ _ (0, 0) hK.1
  have p4 := cell_of_row W0 W.heap.size 4 _ _ (0, 0) hK.1
  have HX := Lib.hid (And.intro hlt (And.intro b1 (And.intro hK (And.intro (h.below b1) (hs.below b1)))))
  have HNe := Lib.hid hne
  clear hlt b1 hK h hs hne
  go_enter Tryz.func11, Tryz.ntmps11
  go_upto_region 1 with fail
  rw [← hW0]
  clear hW0
  go_wp2_with fail
  refine (HOf.out _ HX.out.2.2.2.1).mono ?_
  rintro _ w2 ⟨rfl, b2⟩
  have hK2 := And.intro ((b2.block _ (by have := HX.out.1; omega)).trans HX.out.2.2.1.1) ((b2.block _ HX.out.1).trans HX.out.2.2.1.2)
  have hb2 : Below W.heap.size W w2 := HX.out.2.1.trans (b2.mono HX.out.2.1.size)
  have hlt2 : W.heap.size + 1 < w2.heap.size := (Array.getElem?_eq_some_iff.1 hK2.2).1
  have hs2 := HX.out.2.2.2.2.below b2
  have H2 := Lib.hid (And.intro hlt2 (And.intro hb2 (And.intro hK2 hs2)))
  have r0 := cell_of_row w2 W.heap.size 0 _ _ (0, 0) hK2.1
  have r1 := cell_of_row w2 W.heap.size 1 _ _ (0, 0) hK2.1
  have r2 := cell_of_row w2 W.heap.size 2 _ _ (0, 0) hK2.1
  have r3 := cell_of_row w2 W.heap.size 3 _ _ (0, 0) hK2.1
  have r4 := cell_of_row w2 W.heap.size 4 _ _ (0, 0) hK2.1
  clear b2 hK2 hb2 hlt2 hs2 HX p2 p3 p4
  go_wp2_with fail
  refine (HIn.out _ H2.out.2.2.2).mono ?_
  rintro _ w3 ⟨rfl, h3, hO3⟩
  have hK3 := box_off H2.out.2.2.1.2 hO3 (by have := HNe.out; omega) (by have := HNe.out; omega)
  have hO : Only2 S B W w3 := (Only2.of_below H2.out.2.1).trans hO3
  have c0 := cell_of_row w3 (W.heap.size + 1) 0 _ _ (0, 0) hK3
  have c1 := cell_of_row w3 (W.heap.size + 1) 1 _ _ (0, 0) hK3
  have c2 := cell_of_row w3 (W.heap.size + 1) 2 _ _ (0, 0) hK3
  have c3 := cell_of_row w3 (W.heap.size + 1) 3 _ _ (0, 0) hK3
  have f3 : ∀ i, w3.frozen? ⟨W.heap.size + 1, i, none⟩ = false := fun i => by simp [World.frozen?, hK3]
  have hs := row_set4 (.int .i64 r) (.int .u64 0) (.int .u64 0) (.int .u64 0) rfl hK3
  have hO4 : Only2 S B W ((((w3.setCell ⟨W.heap.size + 1, 0, none⟩ (.int .i64 r)).setCell ⟨W.heap.size + 1, 1, none⟩ (.int .u64 0)).setCell ⟨W.heap.size + 1, 2, none⟩ (.int .u64 0)).setCell ⟨W.heap.size + 1, 3, none⟩ (.int .u64 0)) := (((hO.setNew (Nat.le_succ _) 0 _).setNew (Nat.le_succ _) 1 _).setNew (Nat.le_succ _) 2 _).setNew (Nat.le_succ _) 3 _
  have hs4 : ShIs ((((w3.setCell ⟨W.heap.size + 1, 0, none⟩ (.int .i64 r)).setCell ⟨W.heap.size + 1, 1, none⟩ (.int .u64 0)).setCell ⟨W.heap.size + 1, 2, none⟩ (.int .u64 0)).setCell ⟨W.heap.size + 1, 3, none⟩ (.int .u64 0)) S B room L.1 L.2 0 := ⟨(hs.2.1 S (by have := HNe.out; omega)).trans h3.box, (hs.2.1 B (by have := HNe.out; omega)).trans h3.map⟩
  have HY := Lib.hid (And.intro hs.1 (And.intro hs4 hO4))
  clear hs hO4 hs4 h3 hO3 hO hK3 H2 HIn HOf HNe
  go_wp2
  generalize ((((w3.setCell ⟨W.heap.size + 1, 0, none⟩ (.int .i64 r)).setCell ⟨W.heap.size + 1, 1, none⟩ (.int .u64 0)).setCell ⟨W.heap.size + 1, 2, none⟩ (.int .u64 0)).setCell ⟨W.heap.size + 1, 3, none⟩ (.int .u64 0)) = V4 at HY ⊢
  have u0 := cell_of_row V4 (W.heap.size + 1) 0 _ _ (0, 0) HY.out.1
  have u1 := cell_of_row V4 (W.heap.size + 1) 1 _ _ (0, 0) HY.out.1
  have u2 := cell_of_row V4 (W.heap.size + 1) 2 _ _ (0, 0) HY.out.1
  have u3 := cell_of_row V4 (W.heap.size + 1) 3 _ _ (0, 0) HY.out.1
  simp [bodyPost, results, Tryz.results11, go_sem, u0, u1, u2, u3]
  exact HY.out.2
end Go.Proofs.YtlpnecmcncekcaaGreat.Mk
/- A table made, of any many shards. -/
namespace Go.Proofs.YtlpnecmcncekcaaGreat.Mk
open Go Go.RowKit Go.MuLone Conf

/-- a table of n shards: the i-th one lies at block 'sh i' -/
structure TN (W : World) (T g cap n : Nat) (sh : Nat → Nat) : Prop where
  tab : W.heap[T]? = some (.cells #[.slice (some ⟨g, 0, none⟩) n cap] TTb (0, 0))
  cell : ∀ i, i < n → W.cell? ⟨g, i, none⟩ = some (.pointer (some ⟨sh i, 0, none⟩))
theorem TN.ltT {W : World} {T g cap n : Nat} {sh : Nat → Nat} (h : TN W T g cap n sh) : T < W.heap.size := (Array.getElem?_eq_some_iff.1 h.tab).1
theorem TN.ltg {W : World} {T g cap n : Nat} {sh : Nat → Nat} (h : TN W T g cap n sh) (hn : 0 < n) : g < W.heap.size := by
  rcases Nat.lt_or_ge g W.heap.size with h1 | h1
  · exact h1
  · have := h.cell 0 hn; simp [World.cell?, Array.getElem?_eq_none h1] at this
theorem TN.keep {W V : World} {T g cap n : Nat} {sh : Nat → Nat} (h : TN W T g cap n sh) (h1 : V.heap[T]? = W.heap[T]?) (h2 : V.heap[g]? = W.heap[g]?) : TN V T g cap n sh :=
  ⟨h1.trans h.tab, fun i hi => (World.cell?_of_block (a := ⟨g, i, none⟩) h2).trans (h.cell i hi)⟩
theorem TN.below {W V : World} {T g cap n : Nat} {sh : Nat → Nat} (h : TN W T g cap n sh) (hn : 0 < n) (hb : Below W.heap.size W V) : TN V T g cap n sh := h.keep (hb.block _ h.ltT) (hb.block _ (h.ltg hn))
theorem TN.only {W V : World} {T g cap n S B : Nat} {sh : Nat → Nat} (h : TN W T g cap n sh) (hn : 0 < n) (hO : Only2 S B W V) (h1 : T ≠ S) (h2 : T ≠ B) (h3 : g ≠ S) (h4 : g ≠ B) : TN V T g cap n sh := h.keep (hO.block _ h.ltT h1 h2) (hO.block _ (h.ltg hn) h3 h4)
set_option maxRecDepth 20000 in
theorem shards_n {W : World} {T g cap n : Nat} {sh : Nat → Nat} (h : TN W T g cap n sh) : Calls Tryz.prog 37 #[.pointer (some ⟨T, 0, none⟩)] W fun e w' => e = .returned (.int .i64 (n : Int)) ∧ w' = W := by
  have t := cell_of_row W T 0 _ _ (0, 0) h.tab
  clear h
  go_enter Tryz.func37, Tryz.ntmps37
  go_wp2
  go_ret
  exact ⟨rfl, rfl⟩
set_option maxRecDepth 20000 in
theorem at_n {W : World} {T g cap n : Nat} {sh : Nat → Nat} (h : TN W T g cap n sh) (i : Nat) (hi : i < n) : Calls Tryz.prog 29 #[.pointer (some ⟨T, 0, none⟩), .int .i64 (i : Int)] W fun e w' => e = .returned (.pointer (some ⟨sh i, 0, none⟩)) ∧ w' = W := by
  have t := cell_of_row W T 0 _ _ (0, 0) h.tab
  have t0 := h.cell i hi
  have H := Lib.hid h
  clear h
  go_enter Tryz.func29, Tryz.ntmps29
  go_wp2_with fail
  refine (shards_n H.out).mono ?_
  rintro _ w' ⟨rfl, rfl⟩
  go_wp2
  go_ret
  exact ⟨rfl, rfl⟩
set_option maxRecDepth 20000 in
theorem of_n {W : World} {T g cap n : Nat} {sh : Nat → Nat} (h : TN W T g cap n sh) (k : K3) (h0 : 0 ≤ k.s) (h1 : k.s < 18446744073709551616) (hn0 : 0 < n) (hn : n ≤ 8) (j : Nat) (hj : Fnv.keyH k.c k.f k.s % (n : Int) = (j : Int)) (hjn : j < n) :
    Calls Tryz.prog 31 #[.pointer (some ⟨T, 0, none⟩), k.val] W fun e w' => e = .returned (.pointer (some ⟨sh j, 0, none⟩)) ∧ Below W.heap.size W w' := by
  obtain ⟨kc, kf, ks⟩ := k
  have HSh := Lib.hid (fun V => hj ▸ Fnv.shard_any kc kf ks (n : Int) h0 h1 (by omega) (by omega) V)
  clear hj
  have HAt := Lib.hid (fun V (hV : TN V T g cap n sh) => at_n hV j hjn)
  have HN := Lib.hid hn0
  clear h0 h1 hjn hn hn0
  unfold K3.val
  dsimp only at HAt ⊢
  have hK := heap_alloc_new W (.cells #[.int .i64 kc, .int .i64 kf, .int .u64 ks] 41)
  have b1 := (Below.refl W.heap.size W).alloc (Nat.le_refl _) (.cells #[.int .i64 kc, .int .i64 kf, .int .u64 ks] 41)
  have h2 := h.below HN.out b1
  obtain ⟨W0, hW0⟩ : ∃ X, X = W.alloc (.cells #[.int .i64 kc, .int .i64 kf, .int .u64 ks] 41) := ⟨_, rfl⟩
  rw [← hW0] at hK b1 h2
  have hlt : W.heap.size < W0.heap.size := (Array.getElem?_eq_some_iff.1 hK).1
  have HX := Lib.hid (And.intro hlt (And.intro b1 (And.intro hK h2)))
  clear hlt b1 hK h2 h
  go_enter Tryz.func31, Tryz.ntmps31
  go_upto_region 1 with fail
  rw [← hW0]
  clear hW0
  refine wp_region_held_drew (S := (fun V => V.heap[W.heap.size]? = some (.cells #[.int .i64 kc, .int .i64 kf, .int .u64 ks] 41 (0, 0)) ∧ TN V T g cap n sh)) (by kernel_rfl) ⟨HX.out.2.2.1, HX.out.2.2.2.tab, HX.out.2.2.2.cell⟩ (fun hHeld => ?_)
  refine wpAnyH_take (i := 0) (oi := _) (v := ?_) rfl (by kernel_rfl) (by kernel_rfl) (by kernel_rfl) (fun _ _ _ h => h) (Or.inl ⟨by rfl, ?_⟩) (by assumption) ?_
  rotate_left
  · (intro W hSw; (try dsimp only at hSw); go_simp; try with_reducible rfl)
  try simp only [Act.put, List.getElem_toArray, List.getElem_cons_zero, List.setIfInBounds_toArray, List.set_cons_zero, List.set_cons_succ]
  refine wpAnyH_take (i := 1) (oi := _) (v := ?_) rfl (by kernel_rfl) (by kernel_rfl) (by kernel_rfl) (fun _ _ _ h => h) (Or.inl ⟨by rfl, ?_⟩) (by assumption) ?_
  rotate_left
  · (intro V hSw; have q0 := cell_of_row V W.heap.size 0 _ _ (0, 0) hSw.1; have q1 := cell_of_row V W.heap.size 1 _ _ (0, 0) hSw.1; have q2 := cell_of_row V W.heap.size 2 _ _ (0, 0) hSw.1; clear hSw; go_simp; try with_reducible rfl)
  try simp only [Act.put, List.getElem_toArray, List.getElem_cons_succ, List.getElem_cons_zero, List.setIfInBounds_toArray, List.set_cons_zero, List.set_cons_succ]
  refine wpAnyH_take (i := 2) (oi := _) (v := ?_) rfl (by kernel_rfl) (by kernel_rfl) (by kernel_rfl) (fun _ _ _ h => h) (Or.inl ⟨by rfl, ?_⟩) (by assumption) ?_
  rotate_left
  · (intro W hSw; (try dsimp only at hSw); go_simp; try with_reducible rfl)
  try simp only [Act.put, List.getElem_toArray, List.getElem_cons_succ, List.getElem_cons_zero, List.setIfInBounds_toArray, List.set_cons_zero, List.set_cons_succ]
  refine wpAnyH_ready (rs := [3]) (by kernel_rfl) (by simp) ?_
  refine AllReadyH.cons rfl (fun K hK => ?_) AllReadyH.nil
  simp only [List.getElem_toArray, List.getElem_cons_succ, List.getElem_cons_zero]
  rw [if_pos (by rfl)]
  go_simp
  refine (shards_n hHeld.2).mono ?_
  rintro _ w1 ⟨rfl, rfl⟩
  go_wp2_with fail
  refine hK.out _ _ hHeld (fun hHeld => ?_)
  clear hK K
  try simp only [Act.put, List.getElem_toArray, List.getElem_cons_succ, List.getElem_cons_zero, List.setIfInBounds_toArray, List.set_cons_zero, List.set_cons_succ]
  refine wpAnyH_ready (rs := [4]) (by kernel_rfl) (by simp) ?_
  refine AllReadyH.cons rfl (fun K hK => ?_) AllReadyH.nil
  simp only [List.getElem_toArray, List.getElem_cons_succ, List.getElem_cons_zero]
  rw [if_pos (by rfl)]
  go_simp
  refine (HSh.out _).mono ?_
  rintro _ w2 ⟨rfl, b2⟩
  go_wp2_with fail
  refine hK.out _ _ ⟨(b2.block _ HX.out.1).trans hHeld.1, hHeld.2.below HN.out b2⟩ (fun hHeld => ?_)
  clear hK K
  try simp only [Act.put, List.getElem_toArray, List.getElem_cons_succ, List.getElem_cons_zero, List.setIfInBounds_toArray, List.set_cons_zero, List.set_cons_succ]
  refine wpAnyH_ready (rs := [5]) (by kernel_rfl) (by simp) ?_
  refine AllReadyH.cons rfl (fun K hK => ?_) AllReadyH.nil
  simp only [List.getElem_toArray, List.getElem_cons_succ, List.getElem_cons_zero]
  rw [if_pos (by rfl)]
  go_simp
  refine (HAt.out _ hHeld.2).mono ?_
  rintro _ w3 ⟨rfl, rfl⟩
  go_wp2_with fail
  refine hK.out _ _ hHeld (fun hHeld => ?_)
  clear hK K
  try simp only [Act.put, List.getElem_toArray, List.getElem_cons_succ, List.getElem_cons_zero, List.setIfInBounds_toArray, List.set_cons_zero, List.set_cons_succ]
  refine wpAnyH_take (i := 6) (oi := _) (v := ?_) rfl (by kernel_rfl) (by kernel_rfl) (by kernel_rfl) (fun _ _ _ h => h) (Or.inl ⟨by rfl, ?_⟩) (by assumption) ?_
  rotate_left
  · (intro W hSw; (try dsimp only at hSw); go_simp; try with_reducible rfl)
  try simp only [Act.put, List.getElem_toArray, List.getElem_cons_succ, List.getElem_cons_zero, List.setIfInBounds_toArray, List.set_cons_zero, List.set_cons_succ]
  refine wpAnyH_done (by kernel_rfl) ?_ _
  have hb := HX.out.2.1.drew.trans (b2.mono HX.out.2.1.size)
  clear b2 HX
  go_wp2
  go_ret
  exact ⟨rfl, hb⟩

set_option maxRecDepth 20000 in
set_option maxHeartbeats 4000000 in
theorem tnew_n (c : Cfg) (n : Nat) (hn0 : 0 < n) (hn : n ≤ 8) (hc : code c 11 0 = 0) (h2 : c.f2 = (n : Int)) (h3 : c.f3 = 8) (w : World) :
    Calls Tryz.prog 9 #[.agg c.cells] w fun e w' => ∃ T v ss, e = .returned (.tuple #[.pointer (some ⟨T, 0, none⟩), .int .i64 0]) ∧ ss.length = n ∧ TB w w' T v ss c := by
  obtain ⟨i0, hi, hz0, hz1, hz2⟩ := info_parts infoPS
  have HC := Lib.hid (fun V => hc ▸ check_any c V)
  have hcc : c.cells = #[.slice c.A c.n c.cap, .int .i64 c.f1, .int .i64 (n : Int), .int .i64 8, .int .i64 c.f4, .int .i64 c.f5, .int .i64 c.f6, .int .i64 c.f7, .int .i64 c.f8, .int .i64 c.f9, .int .i64 c.f10, .int .u64 c.f11] := by rw [← h2, ← h3]; rfl
  have hb0 := heap_alloc_new w (.cells c.cells TCf)
  have bl0 := (Below.refl w.heap.size w).alloc (Nat.le_refl _) (.cells c.cells TCf)
  rw [hcc] at HC hb0 bl0 ⊢
  obtain ⟨w0, hw0⟩ : ∃ X, X = w.alloc (.cells #[.slice c.A c.n c.cap, .int .i64 c.f1, .int .i64 (n : Int), .int .i64 8, .int .i64 c.f4, .int .i64 c.f5, .int .i64 c.f6, .int .i64 c.f7, .int .i64 c.f8, .int .i64 c.f9, .int .i64 c.f10, .int .u64 c.f11] TCf) := ⟨_, rfl⟩
  rw [← hw0] at hb0 bl0
  have HX := Lib.hid (And.intro hb0 bl0)
  have q := fun i => cell_of_row w0 w.heap.size i _ _ (0, 0) hb0
  have q0 := q 0; have q1 := q 1; have q2 := q 2; have q3 := q 3; have q4 := q 4; have q5 := q 5; have q6 := q 6; have q7 := q 7; have q8 := q 8; have q9 := q 9; have q10 := q 10; have q11 := q 11
  clear hb0 bl0 h2 h3 q
  go_enter Tryz.func9, Tryz.ntmps9
  go_upto_region 1 with fail
  rw [← hw0]
  clear hw0
  go_wp2_with fail
  refine (HC.out _).mono ?_
  rintro _ w1 ⟨rfl, b1⟩
  clear q0 q1 q2 q3 q4 q5 q6 q7 q8 q9 q10 q11
  have hb1 := (b1.block _ (lt_blkC HX.out.1)).trans HX.out.1
  have bl1 : Below w.heap.size w w1 := HX.out.2.trans (b1.mono HX.out.2.size)
  have hlt1 := lt_blkC hb1
  obtain ⟨T, hT⟩ : ∃ T, T = w1.heap.size := ⟨_, rfl⟩
  obtain ⟨w2, hw2⟩ : ∃ X, X = w1.alloc (.cells #[.slice none 0 0] TTb) := ⟨_, rfl⟩
  have H0 : Hid (TB w w2 T (.slice none 0 0) [] c) := Lib.hid (by
    rw [hw2, hT]
    refine ⟨bl1.alloc bl1.size _, hlt1, ?_, heap_alloc_new w1 _, World.ownsRow_nil _ _ _ _, fun x hx => by cases hx⟩
    rw [hcc]
    exact (Below.heap_alloc _ _ _ hlt1).trans hb1)
  clear b1 hb1 bl1 hlt1 HX
  go_upto_region 5 with fail
  rw [← hw2, ← hT]
  clear hw2 hT
  have hbx := fun (V : World) (v : Value) (ss : List (Nat × Nat)) (h : TB w V T v ss c) => And.intro (cell_of_row V w.heap.size 2 _ _ (0, 0) (hcc ▸ h.box)) (cell_of_row V w.heap.size 3 _ _ (0, 0) (hcc ▸ h.box))
  have HBX := Lib.hid hbx
  clear hbx
  have p2 := (HBX.out _ _ _ H0.out).1
  have p3 := (HBX.out _ _ _ H0.out).2
  go_wp2_with fail
  have HN := Lib.hid (And.intro hn0 hn)
  go_loopw [21] (fun i wr => ∃ k : Nat, i = .int .i64 (k : Int) ∧ k ≤ n ∧ ∃ v ss, ss.length = k ∧ TB w wr T v ss c) (fun i _ => n - (intOf i).toNat)
  case atStart => exact ⟨0, rfl, Nat.zero_le _, _, [], rfl, H0.out⟩
  case round =>
    obtain ⟨k, rfl, hk, v, ss, hss, hB⟩ := hrel
    have H1 := Lib.hid hB
    have q2 := (HBX.out _ _ _ hB).1
    have q3 := (HBX.out _ _ _ hB).2
    clear hB
    go_wp2_with fail
    · refine (snew_ok 8 _ (by decide) (by decide)).mono ?_
      rintro _ y0 ⟨⟨S0, B0, rfl, h1, hS, hB⟩, b1⟩
      obtain ⟨hT1, hr1, hnx⟩ := H1.out.ahead b1 h1 hS hB
      have HN0 := Lib.hid hnx
      have t0 := cell_of_row y0 T 0 _ _ (0, 0) hT1
      have g0 : y0.frozen? ⟨T, 0, none⟩ = false := by simp [World.frozen?, hT1]
      have hlt0 : T + 1 ≤ y0.heap.size := lt_blkC hT1
      have HR0 := Lib.hid (own_alloc hr1 ((Below.refl _ y0).alloc (Nat.le_refl _) (.cells #[.pointer (some ⟨S0, 0, none⟩)] TPS)))
      clear hnx hT1 h1 hS hB b1 hr1 H1 p2 p3 q2 q3
      go_wp2_with (at_builtin; go_loud (refine wpList_append_own _ rfl _ _ 65 rfl (T + 1) 68 i0 (.pointer none) 1 8 Tryz.underlying65 hi hz0 hz1 hz2 rfl (by decide) _ _ _ rfl HR0.out ⟨y0.heap.size, 0, none⟩ 1 1 [.pointer (some ⟨S0, 0, none⟩)] rfl rfl (cell_one_new _ _ _) (one_one rfl) (by have := HN.out; simp [maxLen]; omega) (by have := HN.out; simp; omega) (by simp; try omega) ?_; intro v1 z0 hown hg _; obtain ⟨A1, c1, rfl⟩ := own_form hown; obtain ⟨hT2, hTB⟩ := HN0.out _ z0 hown hg; have t := cell_of_row z0 T 0 _ _ (0, 0) hT2; have g : z0.frozen? ⟨T, 0, none⟩ = false := (by simp [World.frozen?, hT2]); have H2 := Lib.hid (And.intro hT2 hTB); clear hTB hown hg hT2 HN0 HR0 t0 g0 hlt0))
      go_roundw
      case rel => exact ⟨k + 1, by go_num, by omega, _, ss ++ [(S0, B0)], by simp; omega, hss ▸ H2.out.2⟩
      case measure => simp [intOf]; omega
    · have hkn : k = n := by omega
      go_wp2
      go_ret2
      exact ⟨T, _, ss, rfl, by omega, H1.out⟩
end Go.Proofs.YtlpnecmcncekcaaGreat.Mk
/- A table made, of any many shards, of any room. -/
namespace Go.Proofs.YtlpnecmcncekcaaGreat.Mk
open Go Go.RowKit Go.MuLone Conf

/-- a table as it is made -/
structure TR (room : Int) (w wr : World) (T : Nat) (v : Value) (ss : List (Nat × Nat)) (c : Cfg) : Prop where
  bel : Below w.heap.size w wr
  lt : w.heap.size < T
  box : wr.heap[w.heap.size]? = some (.cells c.cells TCf (0, 0))
  tab : wr.heap[T]? = some (.cells #[v] TTb (0, 0))
  row : wr.ownsRow (T + 1) TPS 1 v ss.length (ss.map ptrS)
  sh : ∀ x ∈ ss, ShIs wr x.1 x.2 room [] 0 0 ∧ T < x.1 ∧ T < x.2
  ap : ss.Pairwise (fun x y => x.1 < y.1 ∧ x.1 < y.2 ∧ x.2 < y.1 ∧ x.2 < y.2)
theorem TR.ahead {room : Int} {w wr w1 : World} {T S B : Nat} {v : Value} {ss : List (Nat × Nat)} {c : Cfg} (h : TR room w wr T v ss c) (b1 : Below wr.heap.size wr w1) (h1 : ShIs w1 S B room [] 0 0) (hS : wr.heap.size ≤ S) (hB : wr.heap.size ≤ B) :
    w1.heap[T]? = some (.cells #[v] TTb (0, 0)) ∧ w1.ownsRow (T + 1) TPS 1 v ss.length (ss.map ptrS) ∧
    ∀ v1 w2, w2.ownsRow (T + 1) TPS 1 v1 (ss.length + 1) (ss.map ptrS ++ [.pointer (some ⟨S, 0, none⟩)]) → (w1.alloc (.cells #[.pointer (some ⟨S, 0, none⟩)] TPS)).grownBy w2 v.ownBlock →
      w2.heap[T]? = some (.cells #[v] TTb (0, 0)) ∧ TR room w (w2.setCell ⟨T, 0, none⟩ v1) T v1 (ss ++ [(S, B)]) c := by
  have hT1 := (b1.block T (lt_blkC h.tab)).trans h.tab
  have hr1 := own_alloc h.row b1
  refine ⟨hT1, hr1, fun v1 w2 ho hg => ?_⟩
  have hr2 := own_alloc hr1 ((Below.refl _ w1).alloc (Nat.le_refl _) (.cells #[.pointer (some ⟨S, 0, none⟩)] TPS))
  have keep : ∀ k o, w1.heap[k]? = some o → some k ≠ v.ownBlock → w2.heap[k]? = some o := fun k o hk hne => by
    have hlt := lt_blkC hk
    rw [hg.block k (by simp; omega) hne, Below.heap_alloc _ _ _ hlt, hk]
  have hTne : some T ≠ v.ownBlock := own_apart9 hr1 hT1 (by decide)
  have hT2 := keep T _ hT1 hTne
  have hC1 := (b1.block _ (lt_blkC h.box)).trans h.box
  have hC2 := keep _ _ hC1 (own_apart9 hr1 hC1 (by decide))
  have hTlt := lt_blkC h.tab
  have bel1 : Below w.heap.size w w1 := h.bel.trans (b1.mono h.bel.size)
  have bel2 : Below w.heap.size w w2 := by
    have b9 := bel1.alloc bel1.size (.cells #[.pointer (some ⟨S, 0, none⟩)] TPS)
    refine b9.grown hg b9.size (fun k hk => ?_)
    rcases hr1.2 with ⟨h2, -⟩ | ⟨g, cap, cur, hv, hgg, hh, r⟩
    · rw [h2] at hk; cases hk
    · rw [hv] at hk; have : g = k := by injection hk
      have := h.lt; omega
  refine ⟨hT2, bel2.setCell (by show w.heap.size ≤ T; exact Nat.le_of_lt h.lt) _, h.lt, ?_, ?_, ?_, ?_, ?_⟩
  · rw [Below.heap_setCell _ _ _ _ (by show w.heap.size ≠ T; have := h.lt; omega)]; exact hC2
  · exact (setCell_at v1 hT2).trans rfl
  · have e9 : (ss ++ [(S, B)]).length = ss.length + 1 := by simp
    have e8 : (ss ++ [(S, B)]).map ptrS = ss.map ptrS ++ [.pointer (some ⟨S, 0, none⟩)] := by simp [ptrS]
    rw [e9, e8]
    refine ⟨ho.1, ?_⟩
    rcases ho.2 with h2 | ⟨g, cap, cur, hv, hgg, hh, r⟩
    · exact Or.inl h2
    · exact Or.inr ⟨g, cap, cur, hv, hgg, (Below.heap_setCell _ _ _ _ (by show g ≠ T; omega)).trans hh, r⟩
  · intro x hx
    have go : ∀ S' B', ShIs w1 S' B' room [] 0 0 → T < S' → T < B' → ShIs (w2.setCell ⟨T, 0, none⟩ v1) S' B' room [] 0 0 := fun S' B' hs h1 h2 => by
      refine ⟨?_, ?_⟩
      · rw [Below.heap_setCell _ _ _ _ (by show S' ≠ T; omega)]
        exact keep _ _ hs.box (own_apart9 hr1 hs.box (by decide))
      · show (World.heap _)[_]? = _
        rw [Below.heap_setCell _ _ _ _ (by show B' ≠ T; omega)]
        exact keep _ _ hs.map (own_apartM hr1 hs.map)
    rcases List.mem_append.1 hx with hx | hx
    · obtain ⟨hs, h2, h3⟩ := h.sh x hx
      exact ⟨go _ _ (hs.below b1) h2 h3, h2, h3⟩
    · rw [List.mem_singleton] at hx
      subst hx
      exact ⟨go _ _ h1 (by omega) (by omega), by show T < S; omega, by show T < B; omega⟩
  · rw [List.pairwise_append]
    refine ⟨h.ap, List.pairwise_singleton _ _, fun x hx y hy => ?_⟩
    rw [List.mem_singleton] at hy
    subst hy
    have h1 := (h.sh x hx).1.ltS
    have h2 := (h.sh x hx).1.ltB
    exact ⟨by show x.1 < S; omega, by show x.1 < B; omega, by show x.2 < S; omega, by show x.2 < B; omega⟩
set_option maxRecDepth 20000 in
set_option maxHeartbeats 4000000 in
theorem tnew_r (room : Int) (hr1 : 1 ≤ room) (hr2 : room ≤ 64) (c : Cfg) (n : Nat) (hn0 : 0 < n) (hn : n ≤ 8) (hc : code c 11 0 = 0) (h2 : c.f2 = (n : Int)) (h3 : c.f3 = room) (w : World) :
    Calls Tryz.prog 9 #[.agg c.cells] w fun e w' => ∃ T v ss, e = .returned (.tuple #[.pointer (some ⟨T, 0, none⟩), .int .i64 0]) ∧ ss.length = n ∧ TR room w w' T v ss c := by
  obtain ⟨i0, hi, hz0, hz1, hz2⟩ := info_parts infoPS
  have HRm := Lib.hid (And.intro hr1 hr2)
  clear hr1 hr2
  have HC := Lib.hid (fun V => hc ▸ check_any c V)
  have hcc : c.cells = #[.slice c.A c.n c.cap, .int .i64 c.f1, .int .i64 (n : Int), .int .i64 room, .int .i64 c.f4, .int .i64 c.f5, .int .i64 c.f6, .int .i64 c.f7, .int .i64 c.f8, .int .i64 c.f9, .int .i64 c.f10, .int .u64 c.f11] := by rw [← h2, ← h3]; rfl
  have hb0 := heap_alloc_new w (.cells c.cells TCf)
  have bl0 := (Below.refl w.heap.size w).alloc (Nat.le_refl _) (.cells c.cells TCf)
  rw [hcc] at HC hb0 bl0 ⊢
  obtain ⟨w0, hw0⟩ : ∃ X, X = w.alloc (.cells #[.slice c.A c.n c.cap, .int .i64 c.f1, .int .i64 (n : Int), .int .i64 room, .int .i64 c.f4, .int .i64 c.f5, .int .i64 c.f6, .int .i64 c.f7, .int .i64 c.f8, .int .i64 c.f9, .int .i64 c.f10, .int .u64 c.f11] TCf) := ⟨_, rfl⟩
  rw [← hw0] at hb0 bl0
  have HX := Lib.hid (And.intro hb0 bl0)
  have q := fun i => cell_of_row w0 w.heap.size i _ _ (0, 0) hb0
  have q0 := q 0; have q1 := q 1; have q2 := q 2; have q3 := q 3; have q4 := q 4; have q5 := q 5; have q6 := q 6; have q7 := q 7; have q8 := q 8; have q9 := q 9; have q10 := q 10; have q11 := q 11
  clear hb0 bl0 h2 h3 q
  go_enter Tryz.func9, Tryz.ntmps9
  go_upto_region 1 with fail
  rw [← hw0]
  clear hw0
  go_wp2_with fail
  refine (HC.out _).mono ?_
  rintro _ w1 ⟨rfl, b1⟩
  clear q0 q1 q2 q3 q4 q5 q6 q7 q8 q9 q10 q11
  have hb1 := (b1.block _ (lt_blkC HX.out.1)).trans HX.out.1
  have bl1 : Below w.heap.size w w1 := HX.out.2.trans (b1.mono HX.out.2.size)
  have hlt1 := lt_blkC hb1
  obtain ⟨T, hT⟩ : ∃ T, T = w1.heap.size := ⟨_, rfl⟩
  obtain ⟨w2, hw2⟩ : ∃ X, X = w1.alloc (.cells #[.slice none 0 0] TTb) := ⟨_, rfl⟩
  have H0 : Hid (TR room w w2 T (.slice none 0 0) [] c) := Lib.hid (by
    rw [hw2, hT]
    refine ⟨bl1.alloc bl1.size _, hlt1, ?_, heap_alloc_new w1 _, World.ownsRow_nil _ _ _ _, fun x hx => (by cases hx), List.Pairwise.nil⟩
    rw [hcc]
    exact (Below.heap_alloc _ _ _ hlt1).trans hb1)
  clear b1 hb1 bl1 hlt1 HX
  go_upto_region 5 with fail
  rw [← hw2, ← hT]
  clear hw2 hT
  have hbx := fun (V : World) (v : Value) (ss : List (Nat × Nat)) (h : TR room w V T v ss c) => And.intro (cell_of_row V w.heap.size 2 _ _ (0, 0) (hcc ▸ h.box)) (cell_of_row V w.heap.size 3 _ _ (0, 0) (hcc ▸ h.box))
  have HBX := Lib.hid hbx
  clear hbx
  have p2 := (HBX.out _ _ _ H0.out).1
  have p3 := (HBX.out _ _ _ H0.out).2
  go_wp2_with fail
  have HN := Lib.hid (And.intro hn0 hn)
  go_loopw [21] (fun i wr => ∃ k : Nat, i = .int .i64 (k : Int) ∧ k ≤ n ∧ ∃ v ss, ss.length = k ∧ TR room w wr T v ss c) (fun i _ => n - (intOf i).toNat)
  case atStart => exact ⟨0, rfl, Nat.zero_le _, _, [], rfl, H0.out⟩
  case round =>
    obtain ⟨k, rfl, hk, v, ss, hss, hB⟩ := hrel
    have H1 := Lib.hid hB
    have q2 := (HBX.out _ _ _ hB).1
    have q3 := (HBX.out _ _ _ hB).2
    clear hB
    go_wp2_with fail
    · refine (snew_ok room _ HRm.out.1 HRm.out.2).mono ?_
      rintro _ y0 ⟨⟨S0, B0, rfl, h1, hS, hB⟩, b1⟩
      obtain ⟨hT1, hr1, hnx⟩ := H1.out.ahead b1 h1 hS hB
      have HN0 := Lib.hid hnx
      have t0 := cell_of_row y0 T 0 _ _ (0, 0) hT1
      have g0 : y0.frozen? ⟨T, 0, none⟩ = false := by simp [World.frozen?, hT1]
      have hlt0 : T + 1 ≤ y0.heap.size := lt_blkC hT1
      have HR0 := Lib.hid (own_alloc hr1 ((Below.refl _ y0).alloc (Nat.le_refl _) (.cells #[.pointer (some ⟨S0, 0, none⟩)] TPS)))
      clear hnx hT1 h1 hS hB b1 hr1 H1 p2 p3 q2 q3
      go_wp2_with (at_builtin; go_loud (refine wpList_append_own _ rfl _ _ 65 rfl (T + 1) 68 i0 (.pointer none) 1 8 Tryz.underlying65 hi hz0 hz1 hz2 rfl (by decide) _ _ _ rfl HR0.out ⟨y0.heap.size, 0, none⟩ 1 1 [.pointer (some ⟨S0, 0, none⟩)] rfl rfl (cell_one_new _ _ _) (one_one rfl) (by have := HN.out; simp [maxLen]; omega) (by have := HN.out; simp; omega) (by simp; try omega) ?_; intro v1 z0 hown hg _; obtain ⟨A1, c1, rfl⟩ := own_form hown; obtain ⟨hT2, hTB⟩ := HN0.out _ z0 hown hg; have t := cell_of_row z0 T 0 _ _ (0, 0) hT2; have g : z0.frozen? ⟨T, 0, none⟩ = false := (by simp [World.frozen?, hT2]); have H2 := Lib.hid (And.intro hT2 hTB); clear hTB hown hg hT2 HN0 HR0 t0 g0 hlt0))
      go_roundw
      case rel => exact ⟨k + 1, by go_num, by omega, _, ss ++ [(S0, B0)], by simp; omega, hss ▸ H2.out.2⟩
      case measure => simp [intOf]; omega
    · have hkn : k = n := by omega
      go_wp2
      go_ret2
      exact ⟨T, _, ss, rfl, by omega, H1.out⟩
end Go.Proofs.YtlpnecmcncekcaaGreat.Mk
