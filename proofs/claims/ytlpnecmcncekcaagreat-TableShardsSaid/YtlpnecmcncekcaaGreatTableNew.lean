/- A table made. -/
import Derived.Test.YtlpnecmcncekcaaGreatTableBase
import Derived.Test.YtlpnecmcncekcaaGreatConfPlainRow
namespace Go.Proofs.YtlpnecmcncekcaaGreat.Mk
open Go Go.RowKit Go.MuLone Conf

abbrev TPS : Nat := 68
abbrev TTb : Nat := 67
abbrev TCf : Nat := 25
def ptrS (x : Nat × Nat) : Value := .pointer (some ⟨x.1, 0, none⟩)
theorem infoPS : (Tryz.prog.info? TPS).map (fun i => (i.zero, i.size, i.bytes)) = some (some (.pointer none), 1, 8) := by kernel_rfl

/-- a table as it is made -/
structure TB (w wr : World) (T : Nat) (v : Value) (ss : List (Nat × Nat)) (c : Cfg) : Prop where
  bel : Below w.heap.size w wr
  lt : w.heap.size < T
  box : wr.heap[w.heap.size]? = some (.cells c.cells TCf (0, 0))
  tab : wr.heap[T]? = some (.cells #[v] TTb (0, 0))
  row : wr.ownsRow (T + 1) TPS 1 v ss.length (ss.map ptrS)
  sh : ∀ x ∈ ss, ShIs wr x.1 x.2 8 [] 0 0 ∧ T < x.1 ∧ T < x.2
theorem own_alloc {w w1 : World} {base e n : Nat} {v : Value} {xs : List Value} (h : w.ownsRow base e 1 v n xs) (hb : Below w.heap.size w w1) : w1.ownsRow base e 1 v n xs := by
  refine ⟨h.1, ?_⟩
  rcases h.2 with h2 | ⟨g, cap, cur, hv, hg, hh, r⟩
  · exact Or.inl h2
  · exact Or.inr ⟨g, cap, cur, hv, hg, (hb.block g (lt_blkC hh)).trans hh, r⟩
theorem own_apart9 {w : World} {base e n k T : Nat} {v : Value} {cs : Array Value} {fr : Nat × Nat} {xs : List Value} (h : w.ownsRow base e 1 v n xs) (hb : w.heap[k]? = some (.cells cs T fr)) (hT : T ≠ e) : some k ≠ v.ownBlock := by
  intro e1
  rcases h.2 with ⟨h2, -⟩ | ⟨g, cap, cur, hv, hg, hh, r⟩
  · rw [h2] at e1; cases e1
  · rw [hv] at e1
    have e2 : k = g := by injection e1
    rw [e2, hh] at hb
    injection hb with hb
    injection hb with _ hb _
    exact hT hb.symm
theorem own_apartM {w : World} {base e n k : Nat} {v : Value} {es : Array MapEntry} {cl : Nat} {xs : List Value} (h : w.ownsRow base e 1 v n xs) (hb : w.heap[k]? = some (.map es cl)) : some k ≠ v.ownBlock := by
  intro e1
  rcases h.2 with ⟨h2, -⟩ | ⟨g, cap, cur, hv, hg, hh, r⟩
  · rw [h2] at e1; cases e1
  · rw [hv] at e1
    have e2 : k = g := by injection e1
    rw [e2, hh] at hb
    injection hb with hb
    cases hb
theorem TB.ahead {w wr w1 : World} {T S B : Nat} {v : Value} {ss : List (Nat × Nat)} {c : Cfg} (h : TB w wr T v ss c) (b1 : Below wr.heap.size wr w1) (h1 : ShIs w1 S B 8 [] 0 0) (hS : wr.heap.size ≤ S) (hB : wr.heap.size ≤ B) :
    w1.heap[T]? = some (.cells #[v] TTb (0, 0)) ∧ w1.ownsRow (T + 1) TPS 1 v ss.length (ss.map ptrS) ∧
    ∀ v1 w2, w2.ownsRow (T + 1) TPS 1 v1 (ss.length + 1) (ss.map ptrS ++ [.pointer (some ⟨S, 0, none⟩)]) → (w1.alloc (.cells #[.pointer (some ⟨S, 0, none⟩)] TPS)).grownBy w2 v.ownBlock →
      w2.heap[T]? = some (.cells #[v] TTb (0, 0)) ∧ TB w (w2.setCell ⟨T, 0, none⟩ v1) T v1 (ss ++ [(S, B)]) c := by
  have hT1 := (b1.block T (lt_blkC h.tab)).trans h.tab
  have hr1 := own_alloc h.row b1
  refine ⟨hT1, hr1, fun v1 w2 ho hg => ?_⟩
  have hr2 := own_alloc hr1 ((Below.refl _ w1).alloc (Nat.le_refl _) (.cells #[.pointer (some ⟨S, 0, none⟩)] TPS))
  have keep : ∀ k o, w1.heap[k]? = some o → some k ≠ v.ownBlock → w2.heap[k]? = some o := fun k o hk hne => by
    have hlt := lt_blkC hk
    rw [hg.block k (by simp; omega) hne, Below.heap_alloc _ _ _ hlt, hk]
  have hTne : some T ≠ v.ownBlock := own_apart9 hr1 hT1 (by decide)
  have hT2 := keep T _ hT1 hTne
  have hC1 := (b1.block _ (lt_blkC h.box)).trans h.box
  have hC2 := keep _ _ hC1 (own_apart9 hr1 hC1 (by decide))
  have hTlt := lt_blkC h.tab
  have bel1 : Below w.heap.size w w1 := h.bel.trans (b1.mono h.bel.size)
  have bel2 : Below w.heap.size w w2 := by
    have b9 := bel1.alloc bel1.size (.cells #[.pointer (some ⟨S, 0, none⟩)] TPS)
    refine b9.grown hg b9.size (fun k hk => ?_)
    rcases hr1.2 with ⟨h2, -⟩ | ⟨g, cap, cur, hv, hgg, hh, r⟩
    · rw [h2] at hk; cases hk
    · rw [hv] at hk; have : g = k := by injection hk
      have := h.lt; omega
  refine ⟨hT2, bel2.setCell (by show w.heap.size ≤ T; exact Nat.le_of_lt h.lt) _, h.lt, ?_, ?_, ?_, ?_⟩
  · rw [Below.heap_setCell _ _ _ _ (by show w.heap.size ≠ T; have := h.lt; omega)]; exact hC2
  · exact (setCell_at v1 hT2).trans rfl
  · have e9 : (ss ++ [(S, B)]).length = ss.length + 1 := by simp
    have e8 : (ss ++ [(S, B)]).map ptrS = ss.map ptrS ++ [.pointer (some ⟨S, 0, none⟩)] := by simp [ptrS]
    rw [e9, e8]
    refine ⟨ho.1, ?_⟩
    rcases ho.2 with h2 | ⟨g, cap, cur, hv, hgg, hh, r⟩
    · exact Or.inl h2
    · exact Or.inr ⟨g, cap, cur, hv, hgg, (Below.heap_setCell _ _ _ _ (by show g ≠ T; omega)).trans hh, r⟩
  · intro x hx
    have go : ∀ S' B', ShIs w1 S' B' 8 [] 0 0 → T < S' → T < B' → ShIs (w2.setCell ⟨T, 0, none⟩ v1) S' B' 8 [] 0 0 := fun S' B' hs h1 h2 => by
      refine ⟨?_, ?_⟩
      · rw [Below.heap_setCell _ _ _ _ (by show S' ≠ T; omega)]
        exact keep _ _ hs.box (own_apart9 hr1 hs.box (by decide))
      · show (World.heap _)[_]? = _
        rw [Below.heap_setCell _ _ _ _ (by show B' ≠ T; omega)]
        exact keep _ _ hs.map (own_apartM hr1 hs.map)
    rcases List.mem_append.1 hx with hx | hx
    · obtain ⟨hs, h2, h3⟩ := h.sh x hx
      exact ⟨go _ _ (hs.below b1) h2 h3, h2, h3⟩
    · rw [List.mem_singleton] at hx
      subst hx
      exact ⟨go _ _ h1 (by omega) (by omega), by show T < S; omega, by show T < B; omega⟩

set_option maxRecDepth 20000 in
set_option maxHeartbeats 2000000 in
theorem tnew_any (c : Cfg) (hc : code c 11 0 = 0) (h2 : c.f2 = 2) (h3 : c.f3 = 8) (w : World) :
    Calls Tryz.prog 9 #[.agg c.cells] w fun e w' => ∃ T v S0 B0 S1 B1, e = .returned (.tuple #[.pointer (some ⟨T, 0, none⟩), .int .i64 0]) ∧ TB w w' T v [(S0, B0), (S1, B1)] c := by
  obtain ⟨i0, hi, hz0, hz1, hz2⟩ := info_parts infoPS
  have HC := Lib.hid (fun V => hc ▸ check_any c V)
  have hcc : c.cells = #[.slice c.A c.n c.cap, .int .i64 c.f1, .int .i64 2, .int .i64 8, .int .i64 c.f4, .int .i64 c.f5, .int .i64 c.f6, .int .i64 c.f7, .int .i64 c.f8, .int .i64 c.f9, .int .i64 c.f10, .int .u64 c.f11] := by rw [← h2, ← h3]; rfl
  have hb0 := heap_alloc_new w (.cells c.cells TCf)
  have bl0 := (Below.refl w.heap.size w).alloc (Nat.le_refl _) (.cells c.cells TCf)
  rw [hcc] at HC hb0 bl0 ⊢
  obtain ⟨w0, hw0⟩ : ∃ X, X = w.alloc (.cells #[.slice c.A c.n c.cap, .int .i64 c.f1, .int .i64 2, .int .i64 8, .int .i64 c.f4, .int .i64 c.f5, .int .i64 c.f6, .int .i64 c.f7, .int .i64 c.f8, .int .i64 c.f9, .int .i64 c.f10, .int .u64 c.f11] TCf) := ⟨_, rfl⟩
  rw [← hw0] at hb0 bl0
  have HX := Lib.hid (And.intro hb0 bl0)
  have q := fun i => cell_of_row w0 w.heap.size i _ _ (0, 0) hb0
  have q0 := q 0; have q1 := q 1; have q2 := q 2; have q3 := q 3; have q4 := q 4; have q5 := q 5; have q6 := q 6; have q7 := q 7; have q8 := q 8; have q9 := q 9; have q10 := q 10; have q11 := q 11
  clear hb0 bl0 h2 h3 q
  go_enter Tryz.func9, Tryz.ntmps9
  go_upto_region 1 with fail
  rw [← hw0]
  clear hw0
  go_wp2_with fail
  refine (HC.out _).mono ?_
  rintro _ w1 ⟨rfl, b1⟩
  clear q0 q1 q2 q3 q4 q5 q6 q7 q8 q9 q10 q11
  have hb1 := (b1.block _ (lt_blkC HX.out.1)).trans HX.out.1
  have bl1 : Below w.heap.size w w1 := HX.out.2.trans (b1.mono HX.out.2.size)
  have hlt1 := lt_blkC hb1
  obtain ⟨T, hT⟩ : ∃ T, T = w1.heap.size := ⟨_, rfl⟩
  obtain ⟨w2, hw2⟩ : ∃ X, X = w1.alloc (.cells #[.slice none 0 0] TTb) := ⟨_, rfl⟩
  have H0 : Hid (TB w w2 T (.slice none 0 0) [] c) := Lib.hid (by
    rw [hw2, hT]
    refine ⟨bl1.alloc bl1.size _, hlt1, ?_, heap_alloc_new w1 _, World.ownsRow_nil _ _ _ _, fun x hx => by cases hx⟩
    rw [hcc]
    exact (Below.heap_alloc _ _ _ hlt1).trans hb1)
  clear b1 hb1 bl1 hlt1 HX
  go_upto_region 5 with fail
  rw [← hw2, ← hT]
  clear hw2 hT
  have hbx := fun (V : World) (v : Value) (ss : List (Nat × Nat)) (h : TB w V T v ss c) => And.intro (cell_of_row V w.heap.size 2 _ _ (0, 0) (hcc ▸ h.box)) (cell_of_row V w.heap.size 3 _ _ (0, 0) (hcc ▸ h.box))
  have HBX := Lib.hid hbx
  clear hbx
  have p2 := (HBX.out _ _ _ H0.out).1
  have p3 := (HBX.out _ _ _ H0.out).2
  go_wp2_with fail
  refine wp_loop_rounds 3 ?_
  rw [rounds_succ]
  go_wp2_with fail
  refine (snew_ok 8 _ (by decide) (by decide)).mono ?_
  rintro _ y0 ⟨⟨S0, B0, rfl, h1, hS, hB⟩, b1⟩
  obtain ⟨hT1, hr1, hnx⟩ := H0.out.ahead b1 h1 hS hB
  have HN0 := Lib.hid hnx
  have t0 := cell_of_row y0 T 0 _ _ (0, 0) hT1
  have g0 : y0.frozen? ⟨T, 0, none⟩ = false := by simp [World.frozen?, hT1]
  have hlt0 : T + 1 ≤ y0.heap.size := lt_blkC hT1
  have HR0 := Lib.hid (own_alloc hr1 ((Below.refl _ y0).alloc (Nat.le_refl _) (.cells #[.pointer (some ⟨S0, 0, none⟩)] TPS)))
  clear hnx hT1 h1 hS hB b1 hr1 H0
  go_wp2_with (at_builtin; go_loud (refine wpList_append_own _ rfl _ _ 65 rfl (T + 1) 68 i0 (.pointer none) 1 8 Tryz.underlying65 hi hz0 hz1 hz2 rfl (by decide) _ _ _ rfl HR0.out ⟨y0.heap.size, 0, none⟩ 1 1 [.pointer (some ⟨S0, 0, none⟩)] rfl rfl (cell_one_new _ _ _) (one_one rfl) (by simp [maxLen]) (by simp) (by simp; try omega) ?_; intro v1 z0 hown hg _; obtain ⟨A1, c1, rfl⟩ := own_form hown; obtain ⟨hT2, hTB⟩ := HN0.out _ z0 hown hg; have t := cell_of_row z0 T 0 _ _ (0, 0) hT2; have g : z0.frozen? ⟨T, 0, none⟩ = false := (by simp [World.frozen?, hT2]); have H1 := Lib.hid (show TB w (z0.setCell ⟨T, 0, none⟩ (.slice A1 1 c1)) T (.slice A1 1 c1) [(S0, B0)] c from hTB); clear hTB hown hg hT2 HN0 HR0 t0 g0 hlt0))
  obtain ⟨x1, hx1⟩ : ∃ X, X = z0.setCell ⟨T, 0, none⟩ (.slice A1 1 c1) := ⟨_, rfl⟩
  rw [← hx1] at H1 ⊢
  clear hx1 t g p2 p3
  have p2 := (HBX.out _ _ _ H1.out).1
  have p3 := (HBX.out _ _ _ H1.out).2
  rw [rounds_succ]
  go_wp2_with fail
  refine (snew_ok 8 _ (by decide) (by decide)).mono ?_
  rintro _ y1 ⟨⟨S1, B1, rfl, h1, hS, hB⟩, b1⟩
  obtain ⟨hT1, hr1, hnx⟩ := H1.out.ahead b1 h1 hS hB
  have HN1 := Lib.hid hnx
  have t1 := cell_of_row y1 T 0 _ _ (0, 0) hT1
  have g1 : y1.frozen? ⟨T, 0, none⟩ = false := by simp [World.frozen?, hT1]
  have hlt1 : T + 1 ≤ y1.heap.size := lt_blkC hT1
  have HR1 := Lib.hid (own_alloc hr1 ((Below.refl _ y1).alloc (Nat.le_refl _) (.cells #[.pointer (some ⟨S1, 0, none⟩)] TPS)))
  clear hnx hT1 h1 hS hB b1 hr1 H1
  go_wp2_with (at_builtin; go_loud (refine wpList_append_own _ rfl _ _ 65 rfl (T + 1) 68 i0 (.pointer none) 1 8 Tryz.underlying65 hi hz0 hz1 hz2 rfl (by decide) _ _ _ rfl HR1.out ⟨y1.heap.size, 0, none⟩ 1 1 [.pointer (some ⟨S1, 0, none⟩)] rfl rfl (cell_one_new _ _ _) (one_one rfl) (by simp [maxLen]) (by simp) (by simp; try omega) ?_; intro v2 z1 hown hg _; obtain ⟨A2, c2, rfl⟩ := own_form hown; obtain ⟨hT2, hTB⟩ := HN1.out _ z1 hown hg; have t := cell_of_row z1 T 0 _ _ (0, 0) hT2; have g : z1.frozen? ⟨T, 0, none⟩ = false := (by simp [World.frozen?, hT2]); have H2 := Lib.hid (show TB w (z1.setCell ⟨T, 0, none⟩ (.slice A2 2 c2)) T (.slice A2 2 c2) [(S0, B0), (S1, B1)] c from hTB); clear hTB hown hg hT2 HN1 HR1 t1 g1 hlt1))
  obtain ⟨x2, hx2⟩ : ∃ X, X = z1.setCell ⟨T, 0, none⟩ (.slice A2 2 c2) := ⟨_, rfl⟩
  rw [← hx2] at H2 ⊢
  clear hx2 t g
  rw [rounds_succ]
  go_wp2
  go_ret2
  exact ⟨T, _, S0, B0, S1, B1, rfl, H2.out⟩
end Go.Proofs.YtlpnecmcncekcaaGreat.Mk
