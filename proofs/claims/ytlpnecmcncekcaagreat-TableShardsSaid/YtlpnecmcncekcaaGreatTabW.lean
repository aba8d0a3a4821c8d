import Derived.Test.YtlpnecmcncekcaaGreatTabNew
import Derived.Test.YtlpnecmcncekcaaGreatTabOps
import Derived.Test.YtlpnecmcncekcaaGreatShardMath
/- A table made, of any many shards, of any room. -/
namespace Go.Proofs.YtlpnecmcncekcaaGreat.Mk
open Go Go.RowKit Go.MuLone Conf

/-- a table as it is made -/
structure TR (room : Int) (w wr : World) (T : Nat) (v : Value) (ss : List (Nat × Nat)) (c : Cfg) : Prop where
  bel : Below w.heap.size w wr
  lt : w.heap.size < T
  box : wr.heap[w.heap.size]? = some (.cells c.cells TCf (0, 0))
  tab : wr.heap[T]? = some (.cells #[v] TTb (0, 0))
  row : wr.ownsRow (T + 1) TPS 1 v ss.length (ss.map ptrS)
  sh : ∀ x ∈ ss, ShIs wr x.1 x.2 room [] 0 0 ∧ T < x.1 ∧ T < x.2
  ap : ss.Pairwise (fun x y => x.1 < y.1 ∧ x.1 < y.2 ∧ x.2 < y.1 ∧ x.2 < y.2)
theorem TR.ahead {room : Int} {w wr w1 : World} {T S B : Nat} {v : Value} {ss : List (Nat × Nat)} {c : Cfg} (h : TR room w wr T v ss c) (b1 : Below wr.heap.size wr w1) (h1 : ShIs w1 S B room [] 0 0) (hS : wr.heap.size ≤ S) (hB : wr.heap.size ≤ B) :
    w1.heap[T]? = some (.cells #[v] TTb (0, 0)) ∧ w1.ownsRow (T + 1) TPS 1 v ss.length (ss.map ptrS) ∧
    ∀ v1 w2, w2.ownsRow (T + 1) TPS 1 v1 (ss.length + 1) (ss.map ptrS ++ [.pointer (some ⟨S, 0, none⟩)]) → (w1.alloc (.cells #[.pointer (some ⟨S, 0, none⟩)] TPS)).grownBy w2 v.ownBlock →
      w2.heap[T]? = some (.cells #[v] TTb (0, 0)) ∧ TR room w (w2.setCell ⟨T, 0, none⟩ v1) T v1 (ss ++ [(S, B)]) c := by
  have hT1 := (b1.block T (lt_blkC h.tab)).trans h.tab
  have hr1 := own_alloc h.row b1
  refine ⟨hT1, hr1, fun v1 w2 ho hg => ?_⟩
  have hr2 := own_alloc hr1 ((Below.refl _ w1).alloc (Nat.le_refl _) (.cells #[.pointer (some ⟨S, 0, none⟩)] TPS))
  have keep : ∀ k o, w1.heap[k]? = some o → some k ≠ v.ownBlock → w2.heap[k]? = some o := fun k o hk hne => by
    have hlt := lt_blkC hk
    rw [hg.block k (by simp; omega) hne, Below.heap_alloc _ _ _ hlt, hk]
  have hTne : some T ≠ v.ownBlock := own_apart9 hr1 hT1 (by decide)
  have hT2 := keep T _ hT1 hTne
  have hC1 := (b1.block _ (lt_blkC h.box)).trans h.box
  have hC2 := keep _ _ hC1 (own_apart9 hr1 hC1 (by decide))
  have hTlt := lt_blkC h.tab
  have bel1 : Below w.heap.size w w1 := h.bel.trans (b1.mono h.bel.size)
  have bel2 : Below w.heap.size w w2 := by
    have b9 := bel1.alloc bel1.size (.cells #[.pointer (some ⟨S, 0, none⟩)] TPS)
    refine b9.grown hg b9.size (fun k hk => ?_)
    rcases hr1.2 with ⟨h2, -⟩ | ⟨g, cap, cur, hv, hgg, hh, r⟩
    · rw [h2] at hk; cases hk
    · rw [hv] at hk; have : g = k := by injection hk
      have := h.lt; omega
  refine ⟨hT2, bel2.setCell (by show w.heap.size ≤ T; exact Nat.le_of_lt h.lt) _, h.lt, ?_, ?_, ?_, ?_, ?_⟩
  · rw [Below.heap_setCell _ _ _ _ (by show w.heap.size ≠ T; have := h.lt; omega)]; exact hC2
  · exact (setCell_at v1 hT2).trans rfl
  · have e9 : (ss ++ [(S, B)]).length = ss.length + 1 := by simp
    have e8 : (ss ++ [(S, B)]).map ptrS = ss.map ptrS ++ [.pointer (some ⟨S, 0, none⟩)] := by simp [ptrS]
    rw [e9, e8]
    refine ⟨ho.1, ?_⟩
    rcases ho.2 with h2 | ⟨g, cap, cur, hv, hgg, hh, r⟩
    · exact Or.inl h2
    · exact Or.inr ⟨g, cap, cur, hv, hgg, (Below.heap_setCell _ _ _ _ (by show g ≠ T; omega)).trans hh, r⟩
  · intro x hx
    have go : ∀ S' B', ShIs w1 S' B' room [] 0 0 → T < S' → T < B' → ShIs (w2.setCell ⟨T, 0, none⟩ v1) S' B' room [] 0 0 := fun S' B' hs h1 h2 => by
      refine ⟨?_, ?_⟩
      · rw [Below.heap_setCell _ _ _ _ (by show S' ≠ T; omega)]
        exact keep _ _ hs.box (own_apart9 hr1 hs.box (by decide))
      · show (World.heap _)[_]? = _
        rw [Below.heap_setCell _ _ _ _ (by show B' ≠ T; omega)]
        exact keep _ _ hs.map (own_apartM hr1 hs.map)
    rcases List.mem_append.1 hx with hx | hx
    · obtain ⟨hs, h2, h3⟩ := h.sh x hx
      exact ⟨go _ _ (hs.below b1) h2 h3, h2, h3⟩
    · rw [List.mem_singleton] at hx
      subst hx
      exact ⟨go _ _ h1 (by omega) (by omega), by show T < S; omega, by show T < B; omega⟩
  · rw [List.pairwise_append]
    refine ⟨h.ap, List.pairwise_singleton _ _, fun x hx y hy => ?_⟩
    rw [List.mem_singleton] at hy
    subst hy
    have h1 := (h.sh x hx).1.ltS
    have h2 := (h.sh x hx).1.ltB
    exact ⟨by show x.1 < S; omega, by show x.1 < B; omega, by show x.2 < S; omega, by show x.2 < B; omega⟩
set_option maxRecDepth 20000 in
set_option maxHeartbeats 4000000 in
theorem tnew_r (room : Int) (hr1 : 1 ≤ room) (hr2 : room ≤ 64) (c : Cfg) (n : Nat) (hn0 : 0 < n) (hn : n ≤ 8) (hc : code c 11 0 = 0) (h2 : c.f2 = (n : Int)) (h3 : c.f3 = room) (w : World) :
    Calls Tryz.prog 9 #[.agg c.cells] w fun e w' => ∃ T v ss, e = .returned (.tuple #[.pointer (some ⟨T, 0, none⟩), .int .i64 0]) ∧ ss.length = n ∧ TR room w w' T v ss c := by
  obtain ⟨i0, hi, hz0, hz1, hz2⟩ := info_parts infoPS
  have HRm := Lib.hid (And.intro hr1 hr2)
  clear hr1 hr2
  have HC := Lib.hid (fun V => hc ▸ check_any c V)
  have hcc : c.cells = #[.slice c.A c.n c.cap, .int .i64 c.f1, .int .i64 (n : Int), .int .i64 room, .int .i64 c.f4, .int .i64 c.f5, .int .i64 c.f6, .int .i64 c.f7, .int .i64 c.f8, .int .i64 c.f9, .int .i64 c.f10, .int .u64 c.f11] := by rw [← h2, ← h3]; rfl
  have hb0 := heap_alloc_new w (.cells c.cells TCf)
  have bl0 := (Below.refl w.heap.size w).alloc (Nat.le_refl _) (.cells c.cells TCf)
  rw [hcc] at HC hb0 bl0 ⊢
  obtain ⟨w0, hw0⟩ : ∃ X, X = w.alloc (.cells #[.slice c.A c.n c.cap, .int .i64 c.f1, .int .i64 (n : Int), .int .i64 room, .int .i64 c.f4, .int .i64 c.f5, .int .i64 c.f6, .int .i64 c.f7, .int .i64 c.f8, .int .i64 c.f9, .int .i64 c.f10, .int .u64 c.f11] TCf) := ⟨_, rfl⟩
  rw [← hw0] at hb0 bl0
  have HX := Lib.hid (And.intro hb0 bl0)
  have q := fun i => cell_of_row w0 w.heap.size i _ _ (0, 0) hb0
  have q0 := q 0; have q1 := q 1; have q2 := q 2; have q3 := q 3; have q4 := q 4; have q5 := q 5; have q6 := q 6; have q7 := q 7; have q8 := q 8; have q9 := q 9; have q10 := q 10; have q11 := q 11
  clear hb0 bl0 h2 h3 q
  go_enter Tryz.func9, Tryz.ntmps9
  go_upto_region 1 with fail
  rw [← hw0]
  clear hw0
  go_wp2_with fail
  refine (HC.out _).mono ?_
  rintro _ w1 ⟨rfl, b1⟩
  clear q0 q1 q2 q3 q4 q5 q6 q7 q8 q9 q10 q11
  have hb1 := (b1.block _ (lt_blkC HX.out.1)).trans HX.out.1
  have bl1 : Below w.heap.size w w1 := HX.out.2.trans (b1.mono HX.out.2.size)
  have hlt1 := lt_blkC hb1
  obtain ⟨T, hT⟩ : ∃ T, T = w1.heap.size := ⟨_, rfl⟩
  obtain ⟨w2, hw2⟩ : ∃ X, X = w1.alloc (.cells #[.slice none 0 0] TTb) := ⟨_, rfl⟩
  have H0 : Hid (TR room w w2 T (.slice none 0 0) [] c) := Lib.hid (by
    rw [hw2, hT]
    refine ⟨bl1.alloc bl1.size _, hlt1, ?_, heap_alloc_new w1 _, World.ownsRow_nil _ _ _ _, fun x hx => (by cases hx), List.Pairwise.nil⟩
    rw [hcc]
    exact (Below.heap_alloc _ _ _ hlt1).trans hb1)
  clear b1 hb1 bl1 hlt1 HX
  go_upto_region 5 with fail
  rw [← hw2, ← hT]
  clear hw2 hT
  have hbx := fun (V : World) (v : Value) (ss : List (Nat × Nat)) (h : TR room w V T v ss c) => And.intro (cell_of_row V w.heap.size 2 _ _ (0, 0) (hcc ▸ h.box)) (cell_of_row V w.heap.size 3 _ _ (0, 0) (hcc ▸ h.box))
  have HBX := Lib.hid hbx
  clear hbx
  have p2 := (HBX.out _ _ _ H0.out).1
  have p3 := (HBX.out _ _ _ H0.out).2
  go_wp2_with fail
  have HN := Lib.hid (And.intro hn0 hn)
  go_loopw [21] (fun i wr => ∃ k : Nat, i = .int .i64 (k : Int) ∧ k ≤ n ∧ ∃ v ss, ss.length = k ∧ TR room w wr T v ss c) (fun i _ => n - (intOf i).toNat)
  case atStart => exact ⟨0, rfl, Nat.zero_le _, _, [], rfl, H0.out⟩
  case round =>
    obtain ⟨k, rfl, hk, v, ss, hss, hB⟩ := hrel
    have H1 := Lib.hid hB
    have q2 := (HBX.out _ _ _ hB).1
    have q3 := (HBX.out _ _ _ hB).2
    clear hB
    go_wp2_with fail
    · refine (snew_ok room _ HRm.out.1 HRm.out.2).mono ?_
      rintro _ y0 ⟨⟨S0, B0, rfl, h1, hS, hB⟩, b1⟩
      obtain ⟨hT1, hr1, hnx⟩ := H1.out.ahead b1 h1 hS hB
      have HN0 := Lib.hid hnx
      have t0 := cell_of_row y0 T 0 _ _ (0, 0) hT1
      have g0 : y0.frozen? ⟨T, 0, none⟩ = false := by simp [World.frozen?, hT1]
      have hlt0 : T + 1 ≤ y0.heap.size := lt_blkC hT1
      have HR0 := Lib.hid (own_alloc hr1 ((Below.refl _ y0).alloc (Nat.le_refl _) (.cells #[.pointer (some ⟨S0, 0, none⟩)] TPS)))
      clear hnx hT1 h1 hS hB b1 hr1 H1 p2 p3 q2 q3
      go_wp2_with (at_builtin; go_loud (refine wpList_append_own _ rfl _ _ 65 rfl (T + 1) 68 i0 (.pointer none) 1 8 Tryz.underlying65 hi hz0 hz1 hz2 rfl (by decide) _ _ _ rfl HR0.out ⟨y0.heap.size, 0, none⟩ 1 1 [.pointer (some ⟨S0, 0, none⟩)] rfl rfl (cell_one_new _ _ _) (one_one rfl) (by have := HN.out; simp [maxLen]; omega) (by have := HN.out; simp; omega) (by simp; try omega) ?_; intro v1 z0 hown hg _; obtain ⟨A1, c1, rfl⟩ := own_form hown; obtain ⟨hT2, hTB⟩ := HN0.out _ z0 hown hg; have t := cell_of_row z0 T 0 _ _ (0, 0) hT2; have g : z0.frozen? ⟨T, 0, none⟩ = false := (by simp [World.frozen?, hT2]); have H2 := Lib.hid (And.intro hT2 hTB); clear hTB hown hg hT2 HN0 HR0 t0 g0 hlt0))
      go_roundw
      case rel => exact ⟨k + 1, by go_num, by omega, _, ss ++ [(S0, B0)], by simp; omega, hss ▸ H2.out.2⟩
      case measure => simp [intOf]; omega
    · have hkn : k = n := by omega
      go_wp2
      go_ret2
      exact ⟨T, _, ss, rfl, by omega, H1.out⟩
end Go.Proofs.YtlpnecmcncekcaaGreat.Mk
/- A table whose 'of' is known: Do of a complete, an expire, of a kind that isn't. -/
namespace Go.Proofs.YtlpnecmcncekcaaGreat.Mk
open Go Go.RowKit Go.MuLone

set_option maxRecDepth 20000 in
set_option maxHeartbeats 2000000 in
theorem xdo_complete {W : World} {T : Nat} (who : Int) (k : K3) (sd ac ep nn : Int) (S B : Nat) (room : Int) (l : List Ms) (clock : Nat) (r : Int) (L : List Ms × Nat)
    (hof : ∀ V, Below W.heap.size W V → Calls Tryz.prog 31 #[.pointer (some ⟨T, 0, none⟩), k.val] V fun e w' => e = .returned (.pointer (some ⟨S, 0, none⟩)) ∧ Below V.heap.size V w')
    (hop : ∀ V, ShIs V S B room l clock 0 → Calls Tryz.prog 54 #[.pointer (some ⟨S, 0, none⟩), k.val, .int .i64 who] V fun e w' => e = .returned (.int .i64 r) ∧ ShIs w' S B room L.1 L.2 0 ∧ Only2 S B V w')
    (hs : ShIs W S B room l clock 0) :
    Calls Tryz.prog 11 #[.pointer (some ⟨T, 0, none⟩), opV 4 who k sd ac ep nn] W fun e w' => e = .returned (retV r) ∧ ShIs w' S B room L.1 L.2 0 ∧ Only2 S B W w' := by
  have HOf := Lib.hid hof
  have HOp := Lib.hid hop
  have HNe := Lib.hid (And.intro hs.ltS hs.ltB)
  clear hof hop
  unfold retV
  obtain ⟨kc, kf, ks⟩ := k
  unfold opV
  unfold K3.val at HOf HOp
  dsimp only at HOf HOp
  have hK := heap_two W (.cells #[.int .i64 4, .int .i64 who, .int .i64 kc, .int .i64 kf, .int .u64 ks, .int .i64 sd, .int .i64 ac, .int .u64 ep, .int .u64 nn] 43) (.cells #[.int .i64 0, .int .u64 0, .int .u64 0, .int .u64 0] 38)
  have b1 := below_two W (.cells #[.int .i64 4, .int .i64 who, .int .i64 kc, .int .i64 kf, .int .u64 ks, .int .i64 sd, .int .i64 ac, .int .u64 ep, .int .u64 nn] 43) (.cells #[.int .i64 0, .int .u64 0, .int .u64 0, .int .u64 0] 38)
  obtain ⟨W0, hW0⟩ : ∃ X, X = (W.alloc (.cells #[.int .i64 4, .int .i64 who, .int .i64 kc, .int .i64 kf, .int .u64 ks, .int .i64 sd, .int .i64 ac, .int .u64 ep, .int .u64 nn] 43)).alloc (.cells #[.int .i64 0, .int .u64 0, .int .u64 0, .int .u64 0] 38) := ⟨_, rfl⟩
  dsimp only
  rw [← hW0] at hK b1
  have hlt : W.heap.size + 1 < W0.heap.size := (Array.getElem?_eq_some_iff.1 hK.2).1
  have p2 := cell_of_row W0 W.heap.size 2 _ _ (0, 0) hK.1
  have p3 := cell_of_row W0 W.heap.size 3 _ _ (0, 0) hK.1
  have p4 := cell_of_row W0 W.heap.size 4 _ _ (0, 0) hK.1
  have HX := Lib.hid (And.intro hlt (And.intro b1 (And.intro hK (hs.below b1))))
  clear hlt b1 hK hs
  go_enter Tryz.func11, Tryz.ntmps11
  go_upto_region 1 with fail
  rw [← hW0]
  clear hW0
  go_wp2_with fail
  refine (HOf.out _ HX.out.2.1).mono ?_
  rintro _ w2 ⟨rfl, b2⟩
  have hK2 := And.intro ((b2.block _ (by have := HX.out.1; omega)).trans HX.out.2.2.1.1) ((b2.block _ HX.out.1).trans HX.out.2.2.1.2)
  have hb2 : Below W.heap.size W w2 := HX.out.2.1.trans (b2.mono HX.out.2.1.size)
  have hlt2 : W.heap.size + 1 < w2.heap.size := (Array.getElem?_eq_some_iff.1 hK2.2).1
  have hs2 := HX.out.2.2.2.below b2
  have H2 := Lib.hid (And.intro hlt2 (And.intro hb2 (And.intro hK2 hs2)))
  have p0 := cell_of_row w2 W.heap.size 0 _ _ (0, 0) hK2.1
  have p1 := cell_of_row w2 W.heap.size 1 _ _ (0, 0) hK2.1
  have p2' := cell_of_row w2 W.heap.size 2 _ _ (0, 0) hK2.1
  have p3' := cell_of_row w2 W.heap.size 3 _ _ (0, 0) hK2.1
  have p4' := cell_of_row w2 W.heap.size 4 _ _ (0, 0) hK2.1
  clear b2 hK2 hb2 hlt2 hs2 HX HOf p2 p3 p4
  go_upto_region 11 with fail
  refine wp_region_held_drew (S := (fun V => V.heap[W.heap.size]? = some (.cells #[.int .i64 4, .int .i64 who, .int .i64 kc, .int .i64 kf, .int .u64 ks, .int .i64 sd, .int .i64 ac, .int .u64 ep, .int .u64 nn] 43 (0, 0)) ∧ ∃ e, V.heap[W.heap.size + 1]? = some (.cells #[.int .i64 e, .int .u64 0, .int .u64 0, .int .u64 0] 38 (0, 0)))) (by kernel_rfl) ⟨H2.out.2.2.1.1, 0, H2.out.2.2.1.2⟩ (fun hHeld => ?_)
  refine wpAnyH_take (i := 0) (oi := _) (v := ?_) rfl (by kernel_rfl) (by kernel_rfl) (by kernel_rfl) (fun _ _ _ h => h) (Or.inl ⟨by rfl, ?_⟩) (by assumption) ?_
  rotate_left
  · (intro W hSw; (try dsimp only at hSw); go_simp; try with_reducible rfl)
  try simp only [Act.put, List.getElem_toArray, List.getElem_cons_zero, List.setIfInBounds_toArray, List.set_cons_zero, List.set_cons_succ]
  refine wpAnyH_take (i := 1) (oi := _) (v := ?_) rfl (by kernel_rfl) (by kernel_rfl) (by kernel_rfl) (fun _ _ _ h => h) (Or.inl ⟨by rfl, ?_⟩) (by assumption) ?_
  rotate_left
  · (intro W hSw; (try dsimp only at hSw); go_simp; try with_reducible rfl)
  try simp only [Act.put, List.getElem_toArray, List.getElem_cons_succ, List.getElem_cons_zero, List.setIfInBounds_toArray, List.set_cons_zero, List.set_cons_succ]
  refine wpAnyH_take (i := 2) (oi := _) (v := ?_) rfl (by kernel_rfl) (by kernel_rfl) (by kernel_rfl) (fun _ _ _ h => h) (Or.inl ⟨by rfl, ?_⟩) (by assumption) ?_
  rotate_left
  · (intro V hSw; have q0 := cell_of_row V W.heap.size 0 _ _ (0, 0) hSw.1; have q1 := cell_of_row V W.heap.size 1 _ _ (0, 0) hSw.1; have q2 := cell_of_row V W.heap.size 2 _ _ (0, 0) hSw.1; have q3 := cell_of_row V W.heap.size 3 _ _ (0, 0) hSw.1; have q4 := cell_of_row V W.heap.size 4 _ _ (0, 0) hSw.1; clear hSw; go_simp; try with_reducible rfl)
  try simp only [Act.put, List.getElem_toArray, List.getElem_cons_succ, List.getElem_cons_zero, List.setIfInBounds_toArray, List.set_cons_zero, List.set_cons_succ]
  refine wpAnyH_take (i := 4) (oi := _) (v := ?_) rfl (by kernel_rfl) (by kernel_rfl) (by kernel_rfl) (fun _ _ _ h => h) (Or.inl ⟨by rfl, ?_⟩) (by assumption) ?_
  rotate_left
  · (intro W hSw; (try dsimp only at hSw); go_simp; try with_reducible rfl)
  try simp only [Act.put, List.getElem_toArray, List.getElem_cons_succ, List.getElem_cons_zero, List.setIfInBounds_toArray, List.set_cons_zero, List.set_cons_succ]
  refine wpAnyH_take (i := 5) (oi := _) (v := ?_) rfl (by kernel_rfl) (by kernel_rfl) (by kernel_rfl) (fun _ _ _ h => h) (Or.inl ⟨by rfl, ?_⟩) (by assumption) ?_
  rotate_left
  · (intro V hSw; have q0 := cell_of_row V W.heap.size 0 _ _ (0, 0) hSw.1; have q1 := cell_of_row V W.heap.size 1 _ _ (0, 0) hSw.1; have q2 := cell_of_row V W.heap.size 2 _ _ (0, 0) hSw.1; have q3 := cell_of_row V W.heap.size 3 _ _ (0, 0) hSw.1; have q4 := cell_of_row V W.heap.size 4 _ _ (0, 0) hSw.1; clear hSw; go_simp; try with_reducible rfl)
  try simp only [Act.put, List.getElem_toArray, List.getElem_cons_succ, List.getElem_cons_zero, List.setIfInBounds_toArray, List.set_cons_zero, List.set_cons_succ]
  refine wpAnyH_take (i := 6) (oi := _) (v := ?_) rfl (by kernel_rfl) (by kernel_rfl) (by kernel_rfl) (fun _ _ _ h => h) (Or.inl ⟨by rfl, ?_⟩) (by assumption) ?_
  rotate_left
  · (intro W hSw; (try dsimp only at hSw); go_simp; try with_reducible rfl)
  try simp only [Act.put, List.getElem_toArray, List.getElem_cons_succ, List.getElem_cons_zero, List.setIfInBounds_toArray, List.set_cons_zero, List.set_cons_succ]
  refine wpAnyH_take (i := 7) (oi := _) (v := ?_) rfl (by kernel_rfl) (by kernel_rfl) (by kernel_rfl) (fun _ _ _ h => h) (Or.inl ⟨by rfl, ?_⟩) (by assumption) ?_
  rotate_left
  · (intro V hSw; have q0 := cell_of_row V W.heap.size 0 _ _ (0, 0) hSw.1; have q1 := cell_of_row V W.heap.size 1 _ _ (0, 0) hSw.1; have q2 := cell_of_row V W.heap.size 2 _ _ (0, 0) hSw.1; have q3 := cell_of_row V W.heap.size 3 _ _ (0, 0) hSw.1; have q4 := cell_of_row V W.heap.size 4 _ _ (0, 0) hSw.1; clear hSw; go_simp; try with_reducible rfl)
  try simp only [Act.put, List.getElem_toArray, List.getElem_cons_succ, List.getElem_cons_zero, List.setIfInBounds_toArray, List.set_cons_zero, List.set_cons_succ]
  refine wpAnyH_ready (rs := [3]) (by kernel_rfl) (by simp) ?_
  refine AllReadyH.cons rfl (fun K hK => ?_) AllReadyH.nil
  simp only [List.getElem_toArray, List.getElem_cons_succ, List.getElem_cons_zero]
  rw [if_pos (by rfl)]
  go_simp
  refine (byComplete (some ⟨S, 0, none⟩) _).mono ?_
  rintro _ w3 ⟨rfl, rfl⟩
  go_wp2_with fail
  refine hK.out _ _ hHeld (fun hHeld => ?_)
  clear hK K
  try simp only [Act.put, List.getElem_toArray, List.getElem_cons_succ, List.getElem_cons_zero, List.setIfInBounds_toArray, List.set_cons_zero, List.set_cons_succ]
  refine wpAnyH_ready (rs := [8]) (by kernel_rfl) (by simp) ?_
  refine AllReadyH.cons rfl (fun K hK => ?_) AllReadyH.nil
  simp only [List.getElem_toArray, List.getElem_cons_succ, List.getElem_cons_zero]
  rw [if_pos (by rfl)]
  go_simp
  refine (HOp.out w2.drew ⟨H2.out.2.2.2.box, H2.out.2.2.2.map⟩).mono ?_
  rintro _ w4 ⟨rfl, h4, hO4⟩
  go_wp2_with fail
  refine hK.out _ _ ⟨box_off hHeld.1 hO4 (by have := HNe.out; omega) (by have := HNe.out; omega), hHeld.2.imp fun _ h => box_off h hO4 (by have := HNe.out; omega) (by have := HNe.out; omega)⟩ (fun hHeld => ?_)
  clear hK K
  try simp only [Act.put, List.getElem_toArray, List.getElem_cons_succ, List.getElem_cons_zero, List.setIfInBounds_toArray, List.set_cons_zero, List.set_cons_succ]
  refine wpAnyH_take (i := 9) (oi := _) (v := ?_) rfl (by kernel_rfl) (by kernel_rfl) (by kernel_rfl) (fun _ _ _ h => h) (Or.inl ⟨by rfl, ?_⟩) (by assumption) ?_
  rotate_left
  · (intro W hSw; (try dsimp only at hSw); go_simp; try with_reducible rfl)
  try simp only [Act.put, List.getElem_toArray, List.getElem_cons_succ, List.getElem_cons_zero, List.setIfInBounds_toArray, List.set_cons_zero, List.set_cons_succ]
  obtain ⟨e0, hE⟩ := hHeld.2
  have c0 := cell_of_row w4 (W.heap.size + 1) 0 _ _ (0, 0) hE
  have c1 := cell_of_row w4 (W.heap.size + 1) 1 _ _ (0, 0) hE
  have c2 := cell_of_row w4 (W.heap.size + 1) 2 _ _ (0, 0) hE
  have c3 := cell_of_row w4 (W.heap.size + 1) 3 _ _ (0, 0) hE
  have f3 : ∀ i, w4.frozen? ⟨W.heap.size + 1, i, none⟩ = false := fun i => by simp [World.frozen?, hE]
  have hO : Only2 S B W w4 := ((Only2.of_below H2.out.2.1).drew).trans hO4
  have hs := row_set4 (.int .i64 r) (.int .u64 0) (.int .u64 0) (.int .u64 0) rfl hE
  have hO5 : Only2 S B W ((((w4.setCell ⟨W.heap.size + 1, 0, none⟩ (.int .i64 r)).setCell ⟨W.heap.size + 1, 1, none⟩ (.int .u64 0)).setCell ⟨W.heap.size + 1, 2, none⟩ (.int .u64 0)).setCell ⟨W.heap.size + 1, 3, none⟩ (.int .u64 0)) := (((hO.setNew (Nat.le_succ _) 0 _).setNew (Nat.le_succ _) 1 _).setNew (Nat.le_succ _) 2 _).setNew (Nat.le_succ _) 3 _
  have hs5 : ShIs ((((w4.setCell ⟨W.heap.size + 1, 0, none⟩ (.int .i64 r)).setCell ⟨W.heap.size + 1, 1, none⟩ (.int .u64 0)).setCell ⟨W.heap.size + 1, 2, none⟩ (.int .u64 0)).setCell ⟨W.heap.size + 1, 3, none⟩ (.int .u64 0)) S B room L.1 L.2 0 := ⟨(hs.2.1 S (by have := HNe.out; omega)).trans h4.box, (hs.2.1 B (by have := HNe.out; omega)).trans h4.map⟩
  have HS := Lib.hid (And.intro hs (And.intro hs5 hO5))
  clear hs hO5 hs5 hO h4 hO4
  refine wpAnyH_ready (rs := [10]) (by kernel_rfl) (by simp) ?_
  refine AllReadyH.cons rfl (fun K hK => ?_) AllReadyH.nil
  simp only [List.getElem_toArray, List.getElem_cons_succ, List.getElem_cons_zero]
  rw [if_pos (by rfl)]
  go_simp
  refine hK.out _ _ ⟨(HS.out.1.2.1 _ (by omega)).trans hHeld.1, r, HS.out.1.1⟩ (fun hHeld => ?_)
  clear hK K
  try simp only [Act.put, List.getElem_toArray, List.getElem_cons_succ, List.getElem_cons_zero, List.setIfInBounds_toArray, List.set_cons_zero, List.set_cons_succ]
  refine wpAnyH_done (by kernel_rfl) ?_ _
  have HY := Lib.hid (And.intro HS.out.1.1 HS.out.2)
  generalize ((((w4.setCell ⟨W.heap.size + 1, 0, none⟩ (.int .i64 r)).setCell ⟨W.heap.size + 1, 1, none⟩ (.int .u64 0)).setCell ⟨W.heap.size + 1, 2, none⟩ (.int .u64 0)).setCell ⟨W.heap.size + 1, 3, none⟩ (.int .u64 0)) = V4 at HY ⊢
  have r0 := cell_of_row V4 (W.heap.size + 1) 0 _ _ (0, 0) HY.out.1
  have r1 := cell_of_row V4 (W.heap.size + 1) 1 _ _ (0, 0) HY.out.1
  have r2 := cell_of_row V4 (W.heap.size + 1) 2 _ _ (0, 0) HY.out.1
  have r3 := cell_of_row V4 (W.heap.size + 1) 3 _ _ (0, 0) HY.out.1
  go_wp2
  simp [bodyPost, results, Tryz.results11, go_sem, r0, r1, r2, r3]
  exact HY.out.2
set_option maxRecDepth 20000 in
set_option maxHeartbeats 2000000 in
theorem xdo_expire {W : World} {T : Nat} (who : Int) (k : K3) (sd ac ep nn : Int) (S B : Nat) (room : Int) (l : List Ms) (clock : Nat)
    (hof : ∀ V, Below W.heap.size W V → Calls Tryz.prog 31 #[.pointer (some ⟨T, 0, none⟩), k.val] V fun e w' => e = .returned (.pointer (some ⟨S, 0, none⟩)) ∧ Below V.heap.size V w')
    (hs : ShIs W S B room l clock 0) :
    Calls Tryz.prog 11 #[.pointer (some ⟨T, 0, none⟩), opV 5 who k sd ac ep nn] W fun e w' => e = .returned (retV (chgR 3 0 k l)) ∧ ShIs w' S B room (chgL 3 0 k l clock (delM k l, clock)).1 (chgL 3 0 k l clock (delM k l, clock)).2 0 ∧ Only2 S B W w' := by
  have HOf := Lib.hid hof
  have HIn := Lib.hid (fun V (hV : ShIs V S B room l clock 0) => expire_any S B room l clock k V hV)
  clear hof
  generalize chgR 3 0 k l = r at HIn ⊢
  generalize chgL 3 0 k l clock (delM k l, clock) = L at HIn ⊢
  obtain ⟨kc, kf, ks⟩ := k
  unfold opV retV
  unfold K3.val at HOf HIn
  dsimp only at HOf HIn ⊢
  have hK := heap_two W (.cells #[.int .i64 5, .int .i64 who, .int .i64 kc, .int .i64 kf, .int .u64 ks, .int .i64 sd, .int .i64 ac, .int .u64 ep, .int .u64 nn] 43) (.cells #[.int .i64 0, .int .u64 0, .int .u64 0, .int .u64 0] 38)
  have b1 := below_two W (.cells #[.int .i64 5, .int .i64 who, .int .i64 kc, .int .i64 kf, .int .u64 ks, .int .i64 sd, .int .i64 ac, .int .u64 ep, .int .u64 nn] 43) (.cells #[.int .i64 0, .int .u64 0, .int .u64 0, .int .u64 0] 38)
  have hne := And.intro hs.ltS hs.ltB
  obtain ⟨W0, hW0⟩ : ∃ X, X = (W.alloc (.cells #[.int .i64 5, .int .i64 who, .int .i64 kc, .int .i64 kf, .int .u64 ks, .int .i64 sd, .int .i64 ac, .int .u64 ep, .int .u64 nn] 43)).alloc (.cells #[.int .i64 0, .int .u64 0, .int .u64 0, .int .u64 0] 38) := ⟨_, rfl⟩
  rw [← hW0] at hK b1
  have hlt : W.heap.size + 1 < W0.heap.size := (Array.getElem?_eq_some_iff.1 hK.2).1
  have p2 := cell_of_row W0 W.heap.size 2 _ _ (0, 0) hK.1
  have p3 := cell_of_row W0 W.heap.size 3 _ _ (0, 0) hK.1
  have p4 := cell_of_row W0 W.heap.size 4 _ _ (0, 0) hK.1
  have HX := Lib.hid (And.intro hlt (And.intro b1 (And.intro hK (hs.below b1))))
  have HNe := Lib.hid hne
  clear hlt b1 hK hs hne
  go_enter Tryz.func11, Tryz.ntmps11
  go_upto_region 1 with fail
  rw [← hW0]
  clear hW0
  go_wp2_with fail
  refine (HOf.out _ HX.out.2.1).mono ?_
  rintro _ w2 ⟨rfl, b2⟩
  have hK2 := And.intro ((b2.block _ (by have := HX.out.1; omega)).trans HX.out.2.2.1.1) ((b2.block _ HX.out.1).trans HX.out.2.2.1.2)
  have hb2 : Below W.heap.size W w2 := HX.out.2.1.trans (b2.mono HX.out.2.1.size)
  have hlt2 : W.heap.size + 1 < w2.heap.size := (Array.getElem?_eq_some_iff.1 hK2.2).1
  have hs2 := HX.out.2.2.2.below b2
  have H2 := Lib.hid (And.intro hlt2 (And.intro hb2 (And.intro hK2 hs2)))
  have r0 := cell_of_row w2 W.heap.size 0 _ _ (0, 0) hK2.1
  have r1 := cell_of_row w2 W.heap.size 1 _ _ (0, 0) hK2.1
  have r2 := cell_of_row w2 W.heap.size 2 _ _ (0, 0) hK2.1
  have r3 := cell_of_row w2 W.heap.size 3 _ _ (0, 0) hK2.1
  have r4 := cell_of_row w2 W.heap.size 4 _ _ (0, 0) hK2.1
  clear b2 hK2 hb2 hlt2 hs2 HX p2 p3 p4
  go_wp2_with fail
  refine (HIn.out _ H2.out.2.2.2).mono ?_
  rintro _ w3 ⟨rfl, h3, hO3⟩
  have hK3 := box_off H2.out.2.2.1.2 hO3 (by have := HNe.out; omega) (by have := HNe.out; omega)
  have hO : Only2 S B W w3 := (Only2.of_below H2.out.2.1).trans hO3
  have c0 := cell_of_row w3 (W.heap.size + 1) 0 _ _ (0, 0) hK3
  have c1 := cell_of_row w3 (W.heap.size + 1) 1 _ _ (0, 0) hK3
  have c2 := cell_of_row w3 (W.heap.size + 1) 2 _ _ (0, 0) hK3
  have c3 := cell_of_row w3 (W.heap.size + 1) 3 _ _ (0, 0) hK3
  have f3 : ∀ i, w3.frozen? ⟨W.heap.size + 1, i, none⟩ = false := fun i => by simp [World.frozen?, hK3]
  have hs := row_set4 (.int .i64 r) (.int .u64 0) (.int .u64 0) (.int .u64 0) rfl hK3
  have hO4 : Only2 S B W ((((w3.setCell ⟨W.heap.size + 1, 0, none⟩ (.int .i64 r)).setCell ⟨W.heap.size + 1, 1, none⟩ (.int .u64 0)).setCell ⟨W.heap.size + 1, 2, none⟩ (.int .u64 0)).setCell ⟨W.heap.size + 1, 3, none⟩ (.int .u64 0)) := (((hO.setNew (Nat.le_succ _) 0 _).setNew (Nat.le_succ _) 1 _).setNew (Nat.le_succ _) 2 _).setNew (Nat.le_succ _) 3 _
  have hs4 : ShIs ((((w3.setCell ⟨W.heap.size + 1, 0, none⟩ (.int .i64 r)).setCell ⟨W.heap.size + 1, 1, none⟩ (.int .u64 0)).setCell ⟨W.heap.size + 1, 2, none⟩ (.int .u64 0)).setCell ⟨W.heap.size + 1, 3, none⟩ (.int .u64 0)) S B room L.1 L.2 0 := ⟨(hs.2.1 S (by have := HNe.out; omega)).trans h3.box, (hs.2.1 B (by have := HNe.out; omega)).trans h3.map⟩
  have HY := Lib.hid (And.intro hs.1 (And.intro hs4 hO4))
  clear hs hO4 hs4 h3 hO3 hO hK3 H2 HIn HOf HNe
  go_wp2
  generalize ((((w3.setCell ⟨W.heap.size + 1, 0, none⟩ (.int .i64 r)).setCell ⟨W.heap.size + 1, 1, none⟩ (.int .u64 0)).setCell ⟨W.heap.size + 1, 2, none⟩ (.int .u64 0)).setCell ⟨W.heap.size + 1, 3, none⟩ (.int .u64 0)) = V4 at HY ⊢
  have u0 := cell_of_row V4 (W.heap.size + 1) 0 _ _ (0, 0) HY.out.1
  have u1 := cell_of_row V4 (W.heap.size + 1) 1 _ _ (0, 0) HY.out.1
  have u2 := cell_of_row V4 (W.heap.size + 1) 2 _ _ (0, 0) HY.out.1
  have u3 := cell_of_row V4 (W.heap.size + 1) 3 _ _ (0, 0) HY.out.1
  simp [bodyPost, results, Tryz.results11, go_sem, u0, u1, u2, u3]
  exact HY.out.2
set_option maxRecDepth 20000 in
set_option maxHeartbeats 2000000 in
theorem xdo_other {W : World} {T : Nat} (kd who : Int) (k : K3) (sd ac ep nn : Int) (h1 : kd ≠ 1) (h2 : kd ≠ 2) (h3 : kd ≠ 3) (h4 : kd ≠ 4) (h5 : kd ≠ 5) (S : Nat)
    (hof : ∀ V, Below W.heap.size W V → Calls Tryz.prog 31 #[.pointer (some ⟨T, 0, none⟩), k.val] V fun e w' => e = .returned (.pointer (some ⟨S, 0, none⟩)) ∧ Below V.heap.size V w') :
    Calls Tryz.prog 11 #[.pointer (some ⟨T, 0, none⟩), opV kd who k sd ac ep nn] W fun e w' => e = .returned (retV 1) ∧ Below W.heap.size W w' := by
  have HOf := Lib.hid hof
  clear hof
  unfold retV
  obtain ⟨kc, kf, ks⟩ := k
  unfold opV
  unfold K3.val at HOf
  dsimp only at HOf
  have hK := heap_two W (.cells #[.int .i64 kd, .int .i64 who, .int .i64 kc, .int .i64 kf, .int .u64 ks, .int .i64 sd, .int .i64 ac, .int .u64 ep, .int .u64 nn] 43) (.cells #[.int .i64 0, .int .u64 0, .int .u64 0, .int .u64 0] 38)
  have b1 := below_two W (.cells #[.int .i64 kd, .int .i64 who, .int .i64 kc, .int .i64 kf, .int .u64 ks, .int .i64 sd, .int .i64 ac, .int .u64 ep, .int .u64 nn] 43) (.cells #[.int .i64 0, .int .u64 0, .int .u64 0, .int .u64 0] 38)
  obtain ⟨W0, hW0⟩ : ∃ X, X = (W.alloc (.cells #[.int .i64 kd, .int .i64 who, .int .i64 kc, .int .i64 kf, .int .u64 ks, .int .i64 sd, .int .i64 ac, .int .u64 ep, .int .u64 nn] 43)).alloc (.cells #[.int .i64 0, .int .u64 0, .int .u64 0, .int .u64 0] 38) := ⟨_, rfl⟩
  dsimp only
  rw [← hW0] at hK b1
  have hlt : W.heap.size + 1 < W0.heap.size := (Array.getElem?_eq_some_iff.1 hK.2).1
  have p2 := cell_of_row W0 W.heap.size 2 _ _ (0, 0) hK.1
  have p3 := cell_of_row W0 W.heap.size 3 _ _ (0, 0) hK.1
  have p4 := cell_of_row W0 W.heap.size 4 _ _ (0, 0) hK.1
  have HX := Lib.hid (And.intro hlt (And.intro b1 hK))
  clear hlt b1 hK
  go_enter Tryz.func11, Tryz.ntmps11
  go_upto_region 1 with fail
  rw [← hW0]
  clear hW0
  go_wp2_with fail
  refine (HOf.out _ HX.out.2.1).mono ?_
  rintro _ w2 ⟨rfl, b2⟩
  have hK2 := And.intro ((b2.block _ (by have := HX.out.1; omega)).trans HX.out.2.2.1) ((b2.block _ HX.out.1).trans HX.out.2.2.2)
  have hb2 : Below W.heap.size W w2 := HX.out.2.1.trans (b2.mono HX.out.2.1.size)
  have hlt2 : W.heap.size + 1 < w2.heap.size := (Array.getElem?_eq_some_iff.1 hK2.2).1
  have H2 := Lib.hid (And.intro hlt2 (And.intro hb2 hK2))
  have p0 := cell_of_row w2 W.heap.size 0 _ _ (0, 0) hK2.1
  have p1 := cell_of_row w2 W.heap.size 1 _ _ (0, 0) hK2.1
  have p2' := cell_of_row w2 W.heap.size 2 _ _ (0, 0) hK2.1
  have p3' := cell_of_row w2 W.heap.size 3 _ _ (0, 0) hK2.1
  have p4' := cell_of_row w2 W.heap.size 4 _ _ (0, 0) hK2.1
  clear b2 hK2 hb2 hlt2 HX p2 p3 p4
  have c0 := cell_of_row w2 (W.heap.size + 1) 0 _ _ (0, 0) H2.out.2.2.2
  have c1 := cell_of_row w2 (W.heap.size + 1) 1 _ _ (0, 0) H2.out.2.2.2
  have c2 := cell_of_row w2 (W.heap.size + 1) 2 _ _ (0, 0) H2.out.2.2.2
  have c3 := cell_of_row w2 (W.heap.size + 1) 3 _ _ (0, 0) H2.out.2.2.2
  have f3 : ∀ i, w2.frozen? ⟨W.heap.size + 1, i, none⟩ = false := fun i => by simp [World.frozen?, H2.out.2.2.2]
  have hs := row_set4 (.int .i64 1) (.int .u64 0) (.int .u64 0) (.int .u64 0) rfl H2.out.2.2.2
  have hb4 := hs.2.2 _ _ H2.out.2.1 (by omega)
  have HS := Lib.hid (And.intro hs hb4)
  clear hs hb4
  clear H2
  go_wp2
  have HY := Lib.hid (And.intro HS.out.1.1 HS.out.2)
  generalize ((((w2.setCell ⟨W.heap.size + 1, 0, none⟩ (.int .i64 1)).setCell ⟨W.heap.size + 1, 1, none⟩ (.int .u64 0)).setCell ⟨W.heap.size + 1, 2, none⟩ (.int .u64 0)).setCell ⟨W.heap.size + 1, 3, none⟩ (.int .u64 0)) = V4 at HY ⊢
  have r0 := cell_of_row V4 (W.heap.size + 1) 0 _ _ (0, 0) HY.out.1
  have r1 := cell_of_row V4 (W.heap.size + 1) 1 _ _ (0, 0) HY.out.1
  have r2 := cell_of_row V4 (W.heap.size + 1) 2 _ _ (0, 0) HY.out.1
  have r3 := cell_of_row V4 (W.heap.size + 1) 3 _ _ (0, 0) HY.out.1
  simp [bodyPost, results, Tryz.results11, go_sem, r0, r1, r2, r3]
  exact HY.out.2
end Go.Proofs.YtlpnecmcncekcaaGreat.Mk
/- What an act with a shard answers, and what its map is behind it. -/
namespace Go.Proofs.YtlpnecmcncekcaaGreat.Mk
open Go Go.RowKit Go.MuLone

set_option maxRecDepth 20000 in
theorem claim_few (S : Nat) (who : Int) (k : K3) (W : World) (hw : who < 1) : Calls Tryz.prog 52 #[.pointer (some ⟨S, 0, none⟩), k.val, .int .i64 who] W fun e w' => e = .returned (.int .i64 1) ∧ Below W.heap.size W w' := by
  obtain ⟨kc, kf, ks⟩ := k
  unfold K3.val
  have b2 := ((Below.refl W.heap.size W).alloc (Nat.le_refl _) (.cells #[.pointer (some ⟨S, 0, none⟩)] 68)).alloc (by simp) (.cells #[.int .i64 kc, .int .i64 kf, .int .u64 ks] 41)
  have b3 := b2.alloc (by simp; try omega) (.cells #[.int .i64 who] 3)
  go_enter Tryz.func52, Tryz.ntmps52
  go_wp2
  go_ret
  exact ⟨rfl, b3⟩
/-- what an act answers, and what the map is behind it; m: its kind, modulo 5 -/
def actRes (m room who : Int) (k : K3) (l : List Ms) (clock : Nat) : Int × List Ms × Nat :=
  if m = 1 then (insR room l k, insL room l clock k)
  else if m = 2 then (if who < 1 then (1, l, clock) else (chgR 1 who k l, chgL 1 who k l clock (putM k ⟨k, 2, who⟩ l clock)))
  else if m = 3 then (chgR 2 who k l, chgL 2 who k l clock (putM k ⟨k, 1, 0⟩ l clock))
  else if m = 4 then (chgR 2 who k l, chgL 2 who k l clock (putM k ⟨k, 3, 0⟩ l clock))
  else (chgR 3 0 k l, chgL 3 0 k l clock (delM k l, clock))
section
variable {m room who : Int} {k : K3} {l : List Ms} {clock : Nat}
theorem chg_found {st who : Int} (h : chgR st who k l = 0) : entM k l ≠ none := by
  intro e
  simp [chgR, e] at h
theorem chgL_cases (st who : Int) (P : List Ms × Nat) : (chgR st who k l = 0 ∧ chgL st who k l clock P = P) ∨ (chgR st who k l ≠ 0 ∧ chgL st who k l clock P = (l, clock)) := by
  unfold chgL
  by_cases h : chgR st who k l = 0
  · exact Or.inl ⟨h, if_pos h⟩
  · exact Or.inr ⟨h, if_neg h⟩
theorem insL_cases : (insR room l k = 0 ∧ entM k l = none ∧ (l.length : Int) < room ∧ insL room l clock k = putM k ⟨k, 1, 0⟩ l clock) ∨ (insR room l k ≠ 0 ∧ insL room l clock k = (l, clock)) := by
  unfold insL
  by_cases h : insR room l k = 0
  · refine Or.inl ⟨h, ?_, ?_, if_pos h⟩
    · unfold insR at h
      by_cases h1 : (at? k l 0).isSome
      · rw [if_pos h1] at h; cases h
      · exact (at_none l 0).1 (by simpa using h1)
    · unfold insR at h
      split at h
      · cases h
      · split at h
        · cases h
        · omega
  · exact Or.inr ⟨h, if_neg h⟩
/-- the four ways of an act: nothing turns; an entry is laid under a new key, or under an old one, or goes -/
theorem actRes_cases (m room who : Int) (k : K3) (l : List Ms) (clock : Nat) :
    ((actRes m room who k l clock).1 ≠ 0 ∧ (actRes m room who k l clock).2 = (l, clock)) ∨
    ((actRes m room who k l clock).1 = 0 ∧ m = 1 ∧ entM k l = none ∧ (l.length : Int) < room ∧ (actRes m room who k l clock).2 = putM k ⟨k, 1, 0⟩ l clock) ∨
    ((actRes m room who k l clock).1 = 0 ∧ (m = 2 ∨ m = 3 ∨ m = 4) ∧ entM k l ≠ none ∧ ∃ st ow, (actRes m room who k l clock).2 = putM k ⟨k, st, ow⟩ l clock) ∨
    ((actRes m room who k l clock).1 = 0 ∧ m ≠ 1 ∧ m ≠ 2 ∧ m ≠ 3 ∧ m ≠ 4 ∧ entM k l ≠ none ∧ (actRes m room who k l clock).2 = (delM k l, clock)) := by
  unfold actRes
  by_cases h1 : m = 1
  · rw [if_pos h1]
    rcases insL_cases (room := room) (k := k) (l := l) (clock := clock) with ⟨a, b, c, d⟩ | ⟨a, b⟩
    · exact Or.inr (Or.inl ⟨a, h1, b, c, d⟩)
    · exact Or.inl ⟨a, b⟩
  rw [if_neg h1]
  by_cases h2 : m = 2
  · rw [if_pos h2]
    by_cases hw : who < 1
    · rw [if_pos hw]; exact Or.inl ⟨by simp, rfl⟩
    · rw [if_neg hw]
      rcases chgL_cases (k := k) (l := l) (clock := clock) 1 who (putM k ⟨k, 2, who⟩ l clock) with ⟨a, b⟩ | ⟨a, b⟩
      · exact Or.inr (Or.inr (Or.inl ⟨a, Or.inl h2, chg_found a, _, _, b⟩))
      · exact Or.inl ⟨a, b⟩
  rw [if_neg h2]
  by_cases h3 : m = 3
  · rw [if_pos h3]
    rcases chgL_cases (k := k) (l := l) (clock := clock) 2 who (putM k ⟨k, 1, 0⟩ l clock) with ⟨a, b⟩ | ⟨a, b⟩
    · exact Or.inr (Or.inr (Or.inl ⟨a, Or.inr (Or.inl h3), chg_found a, _, _, b⟩))
    · exact Or.inl ⟨a, b⟩
  rw [if_neg h3]
  by_cases h4 : m = 4
  · rw [if_pos h4]
    rcases chgL_cases (k := k) (l := l) (clock := clock) 2 who (putM k ⟨k, 3, 0⟩ l clock) with ⟨a, b⟩ | ⟨a, b⟩
    · exact Or.inr (Or.inr (Or.inl ⟨a, Or.inr (Or.inr h4), chg_found a, _, _, b⟩))
    · exact Or.inl ⟨a, b⟩
  rw [if_neg h4]
  rcases chgL_cases (k := k) (l := l) (clock := clock) 3 0 (delM k l, clock) with ⟨a, b⟩ | ⟨a, b⟩
  · exact Or.inr (Or.inr (Or.inr ⟨a, h1, h2, h3, h4, chg_found a, b⟩))
  · exact Or.inl ⟨a, b⟩
theorem act_ok (h : MOk l clock) : MOk (actRes m room who k l clock).2.1 (actRes m room who k l clock).2.2 := by
  rcases actRes_cases m room who k l clock with ⟨_, e⟩ | ⟨_, _, _, _, e⟩ | ⟨_, _, _, st, ow, e⟩ | ⟨_, _, _, _, _, hn, e⟩
  · rw [e]; exact h
  · rw [e]; exact h.put rfl
  · rw [e]; exact h.put rfl
  · rw [e]; exact h.del hn
theorem act_len (h : (l.length : Int) ≤ room) : ((actRes m room who k l clock).2.1.length : Int) ≤ room := by
  rcases actRes_cases m room who k l clock with ⟨_, e⟩ | ⟨_, _, hn, hl, e⟩ | ⟨_, _, hn, st, ow, e⟩ | ⟨_, _, _, _, _, hn, e⟩
  · rw [e]; exact h
  · rw [e]; have := (len_put (k := k) (e := ⟨k, 1, 0⟩) (l := l) (clock := clock)).1; omega
  · rw [e, (len_put (k := k) (e := ⟨k, st, ow⟩) (l := l) (clock := clock)).2 hn]; exact h
  · rw [e]; have := len_del (k := k) (l := l); show ((delM k l).length : Int) ≤ room; omega
theorem act_none (h : (actRes m room who k l clock).1 ≠ 0) : (actRes m room who k l clock).2 = (l, clock) := by
  rcases actRes_cases m room who k l clock with ⟨_, e⟩ | ⟨a, _⟩ | ⟨a, _⟩ | ⟨a, _⟩
  · exact e
  · exact absurd a h
  · exact absurd a h
  · exact absurd a h
theorem act_other {k' : K3} (hk : k' ≠ k) : entM k' (actRes m room who k l clock).2.1 = entM k' l := by
  rcases actRes_cases m room who k l clock with ⟨_, e⟩ | ⟨_, _, _, _, e⟩ | ⟨_, _, _, st, ow, e⟩ | ⟨_, _, _, _, _, hn, e⟩
  · rw [e]
  · rw [e]; exact ent_put_other hk
  · rw [e]; exact ent_put_other hk
  · rw [e]; exact ent_del_other hk hn
theorem act_own (h : MOk l clock) (hn : entM k l ≠ none) : (entM k (actRes m room who k l clock).2.1).isSome = !(decide ((actRes m room who k l clock).1 = 0) && decide (m ≠ 1 ∧ m ≠ 2 ∧ m ≠ 3 ∧ m ≠ 4)) := by
  rcases actRes_cases m room who k l clock with ⟨a, e⟩ | ⟨_, _, hn', _⟩ | ⟨a, hm, _, st, ow, e⟩ | ⟨a, h1, h2, h3, h4, _, e⟩
  · rw [e, decide_eq_false a]
    cases hh : entM k l with
    | none => exact absurd hh hn
    | some _ => rfl
  · exact absurd hn' hn
  · rw [e, ent_put_own, decide_eq_false (show ¬ (m ≠ 1 ∧ m ≠ 2 ∧ m ≠ 3 ∧ m ≠ 4) by omega)]
    simp
  · rw [e, decide_eq_true a, decide_eq_true ⟨h1, h2, h3, h4⟩]
    show (entM k (delM k l)).isSome = _
    rw [ent_del_own h hn]
    rfl
end
end Go.Proofs.YtlpnecmcncekcaaGreat.Mk
/- A whole table: all its shards, each with its map. -/
namespace Go.Proofs.YtlpnecmcncekcaaGreat.Mk
open Go Go.RowKit Go.MuLone Conf

/-- All that stood stands as it was, but the blocks from lo up to hi. -/
structure Rng (lo hi : Nat) (w w' : World) : Prop where
  os : w'.os = w.os
  tape : w'.tape = w.tape
  output : w'.output = w.output
  size : w.heap.size ≤ w'.heap.size
  block : ∀ k, k < w.heap.size → (k < lo ∨ hi ≤ k) → w'.heap[k]? = w.heap[k]?
theorem Rng.refl (lo hi : Nat) (w : World) : Rng lo hi w w := ⟨rfl, rfl, rfl, Nat.le_refl _, fun _ _ _ => rfl⟩
theorem Rng.trans {lo hi : Nat} {a b c : World} (h : Rng lo hi a b) (g : Rng lo hi b c) : Rng lo hi a c :=
  ⟨g.os.trans h.os, g.tape.trans h.tape, g.output.trans h.output, Nat.le_trans h.size g.size, fun k hk h1 => (g.block k (Nat.lt_of_lt_of_le hk h.size) h1).trans (h.block k hk h1)⟩
theorem Rng.of_only {lo hi S B : Nat} {a b : World} (h : Only2 S B a b) (hS : lo ≤ S ∧ S < hi) (hB : lo ≤ B ∧ B < hi) : Rng lo hi a b :=
  ⟨h.os, h.tape, h.output, h.size, fun k hk h1 => h.block k hk (by omega) (by omega)⟩
theorem Rng.of_below {lo hi : Nat} {a b : World} (h : Below a.heap.size a b) : Rng lo hi a b := ⟨h.os, h.tape, h.output, h.size, fun k hk _ => h.block k hk⟩
theorem Rng.below {lo hi M : Nat} {a b c : World} (h : Below M a b) (g : Rng lo hi b c) (hM : M ≤ lo) (hb : M ≤ b.heap.size) : Below M a c :=
  ⟨g.os.trans h.os, g.tape.trans h.tape, g.output.trans h.output, Nat.le_trans h.size g.size, fun k hk => (g.block k (Nat.lt_of_lt_of_le hk hb) (Or.inl (by omega))).trans (h.block k hk)⟩
/-- where the shards and their maps lie -/
structure Lay where
  T : Nat
  g : Nat
  cap : Nat
  n : Nat
  lo : Nat
  hi : Nat
  sh : Nat → Nat
  mp : Nat → Nat
  room : Int
/-- what each shard's map is -/
abbrev Maps := Nat → List Ms × Nat
def upd (M : Maps) (j : Nat) (x : List Ms × Nat) : Maps := fun i => if i = j then x else M i
structure Lay.ok (y : Lay) : Prop where
  n0 : 0 < y.n
  n8 : y.n ≤ 8
  r64 : y.room ≤ 64
  r0 : 0 ≤ y.room
  ap : ∀ i j, i < y.n → j < y.n → i ≠ j → y.sh i ≠ y.sh j ∧ y.sh i ≠ y.mp j ∧ y.mp i ≠ y.sh j ∧ y.mp i ≠ y.mp j
  ne : ∀ i, i < y.n → y.T ≠ y.sh i ∧ y.T ≠ y.mp i ∧ y.g ≠ y.sh i ∧ y.g ≠ y.mp i
  rT : y.lo ≤ y.T ∧ y.T < y.hi
  rg : y.lo ≤ y.g ∧ y.g < y.hi
  rs : ∀ i, i < y.n → (y.lo ≤ y.sh i ∧ y.sh i < y.hi) ∧ (y.lo ≤ y.mp i ∧ y.mp i < y.hi)
structure MapsOk (y : Lay) (M : Maps) : Prop where
  ok : ∀ i, i < y.n → MOk (M i).1 (M i).2
  len : ∀ i, i < y.n → ((M i).1.length : Int) ≤ y.room
  key : ∀ i, i < y.n → ∀ x ∈ (M i).1, Fnv.keyH x.1.c x.1.f x.1.s % (y.n : Int) = (i : Int)
structure WT (V : World) (y : Lay) (M : Maps) : Prop where
  tn : TN V y.T y.g y.cap y.n y.sh
  is : ∀ i, i < y.n → ShIs V (y.sh i) (y.mp i) y.room (M i).1 (M i).2 0
section
variable {V V' : World} {y : Lay} {M : Maps}
theorem WT.keep (h : WT V y M) (hy : y.ok) (hk : ∀ k, y.lo ≤ k → k < y.hi → k < V.heap.size → V'.heap[k]? = V.heap[k]?) : WT V' y M :=
  ⟨h.tn.keep (hk _ hy.rT.1 hy.rT.2 h.tn.ltT) (hk _ hy.rg.1 hy.rg.2 (h.tn.ltg hy.n0)), fun i hi =>
    ⟨(hk _ (hy.rs i hi).1.1 (hy.rs i hi).1.2 (h.is i hi).ltS).trans (h.is i hi).box, (hk _ (hy.rs i hi).2.1 (hy.rs i hi).2.2 (h.is i hi).ltB).trans (h.is i hi).map⟩⟩
theorem WT.below (h : WT V y M) (hy : y.ok) (hb : Below V.heap.size V V') : WT V' y M := h.keep hy fun k _ _ hk => hb.block k hk
theorem WT.off {lo hi : Nat} (h : WT V y M) (hy : y.ok) (hR : Rng lo hi V V') (hd : y.hi ≤ lo ∨ hi ≤ y.lo) : WT V' y M := h.keep hy fun k h1 h2 hk => hR.block k hk (by omega)
theorem WT.drew (h : WT V y M) : WT V.drew y M := ⟨⟨h.tn.tab, h.tn.cell⟩, fun i hi => ⟨(h.is i hi).box, (h.is i hi).map⟩⟩
/-- one shard turns -/
theorem WT.turn (h : WT V y M) (hy : y.ok) {j : Nat} (hj : j < y.n) {x : List Ms × Nat} (hs : ShIs V' (y.sh j) (y.mp j) y.room x.1 x.2 0) (hO : Only2 (y.sh j) (y.mp j) V V') : WT V' y (upd M j x) := by
  have ne := hy.ne j hj
  refine ⟨h.tn.only hy.n0 hO ne.1 ne.2.1 ne.2.2.1 ne.2.2.2, fun i hi => ?_⟩
  unfold upd
  by_cases e : i = j
  · subst e
    rw [if_pos rfl]
    exact hs
  · rw [if_neg e]
    have ap := hy.ap i j hi hj e
    exact ⟨(hO.block _ (h.is i hi).ltS ap.1 ap.2.1).trans (h.is i hi).box, (hO.block _ (h.is i hi).ltB ap.2.2.1 ap.2.2.2).trans (h.is i hi).map⟩
theorem upd_self {j : Nat} : upd M j (M j) = M := by
  funext i
  unfold upd
  by_cases e : i = j
  · rw [if_pos e, e]
  · rw [if_neg e]
theorem upd_at {j : Nat} {x : List Ms × Nat} : upd M j x j = x := by simp [upd]
theorem upd_off {i j : Nat} {x : List Ms × Nat} (h : i ≠ j) : upd M j x i = M i := by simp [upd, h]
/-- the shard of a key -/
def own (n : Nat) (k : K3) : Nat := (Fnv.keyH k.c k.f k.s % (n : Int)).toNat
theorem own_eq {n : Nat} (h : 0 < n) (k : K3) : Fnv.keyH k.c k.f k.s % (n : Int) = (own n k : Int) := by
  have := Int.emod_nonneg (Fnv.keyH k.c k.f k.s) (show (n : Int) ≠ 0 by omega)
  unfold own
  omega
theorem own_lt {n : Nat} (h : 0 < n) (k : K3) : own n k < n := by
  have h1 := own_eq h k
  have := Int.emod_lt_of_pos (Fnv.keyH k.c k.f k.s) (show 0 < (n : Int) by omega)
  omega
theorem WT.of (h : WT V y M) (hy : y.ok) (k : K3) (hk : 0 ≤ k.s ∧ k.s < 18446744073709551616) : ∀ V', Below V.heap.size V V' → Calls Tryz.prog 31 #[.pointer (some ⟨y.T, 0, none⟩), k.val] V' fun e w' => e = .returned (.pointer (some ⟨y.sh (own y.n k), 0, none⟩)) ∧ Below V'.heap.size V' w' := fun _ hb =>
  of_n (h.below hy hb).tn k hk.1 hk.2 hy.n0 hy.n8 _ (own_eq hy.n0 k) (own_lt hy.n0 k)
/-- an operation that came in -/
structure Op9 where
  kd : Int
  who : Int
  k : K3
  sd : Int
  ac : Int
  ep : Int
  nn : Int
def Op9.val (o : Op9) : Value := opV o.kd o.who o.k o.sd o.ac o.ep o.nn
def Op9.ok (o : Op9) : Prop := 0 ≤ o.k.s ∧ o.k.s < 18446744073709551616
/-- what it answers, and what the map of its key's shard is behind it -/
def tRes (o : Op9) (room : Int) (x : List Ms × Nat) : Int × List Ms × Nat :=
  if 1 ≤ o.kd ∧ o.kd ≤ 5 then actRes (o.kd % 5) room o.who o.k x.1 x.2 else (1, x.1, x.2)
/-- .. of a whole table -/
def tAns (o : Op9) (n : Nat) (room : Int) (M : Maps) : Int := (tRes o room (M (own n o.k))).1
def tMaps (o : Op9) (n : Nat) (room : Int) (M : Maps) : Maps := upd M (own n o.k) (tRes o room (M (own n o.k))).2
theorem tdo (o : Op9) (ho : o.ok) (h : WT V y M) (hy : y.ok) :
    Calls Tryz.prog 11 #[.pointer (some ⟨y.T, 0, none⟩), o.val] V fun e w' => e = .returned (retV (tAns o y.n y.room M)) ∧ WT w' y (tMaps o y.n y.room M) ∧ Only2 (y.sh (own y.n o.k)) (y.mp (own y.n o.k)) V w' := by
  have hof := h.of hy o.k ho
  have hj := own_lt hy.n0 o.k
  have hs := h.is _ hj
  unfold tAns tMaps
  have fin : ∀ (r : Int) (L : List Ms × Nat), tRes o y.room (M (own y.n o.k)) = (r, L) → ∀ (e : Ending) (w' : World), (e = .returned (retV r) ∧ ShIs w' (y.sh (own y.n o.k)) (y.mp (own y.n o.k)) y.room L.1 L.2 0 ∧ Only2 (y.sh (own y.n o.k)) (y.mp (own y.n o.k)) V w') →
      e = .returned (retV (tRes o y.room (M (own y.n o.k))).1) ∧ WT w' y (upd M (own y.n o.k) (tRes o y.room (M (own y.n o.k))).2) ∧ Only2 (y.sh (own y.n o.k)) (y.mp (own y.n o.k)) V w' := fun r L e0 e w' ⟨h1, h2, h3⟩ => by
    rw [e0]
    exact ⟨h1, h.turn hy hj h2 h3, h3⟩
  generalize hJ : own y.n o.k = j at *
  generalize hX : M j = x at *
  obtain ⟨l, clock⟩ := x
  obtain ⟨kd, who, k, sd, ac, ep, nn⟩ := o
  unfold Op9.val
  dsimp only at hof hs fin ⊢
  have e5 : ∀ m : Int, m % 5 = m % 5 := fun _ => rfl
  by_cases h1 : kd = 1
  · subst h1
    exact (xdo_ins who k sd ac ep nn _ _ y.room l clock hof hs).mono (fin _ _ rfl)
  by_cases h2 : kd = 2
  · subst h2
    by_cases hw : who < 1
    · refine (xdo_claim who k sd ac ep nn _ _ y.room l clock 1 (l, clock) hof (fun U hU => (claim_few _ who k U hw).mono fun e w' hb => ⟨hb.1, hU.below hb.2, Only2.of_below hb.2⟩) hs).mono (fin _ _ ?_)
      simp [tRes, actRes, hw]
    · refine (xdo_claim who k sd ac ep nn _ _ y.room l clock _ _ hof (fun U hU => claim_any _ _ _ who l clock k U hU (by omega)) hs).mono (fin _ _ ?_)
      simp [tRes, actRes, hw]
  by_cases h3 : kd = 3
  · subst h3
    exact (xdo_release who k sd ac ep nn _ _ y.room l clock _ _ hof (fun U hU => release_any _ _ _ who l clock k U hU) hs).mono (fin _ _ rfl)
  by_cases h4 : kd = 4
  · subst h4
    exact (xdo_complete who k sd ac ep nn _ _ y.room l clock _ _ hof (fun U hU => complete_any _ _ _ who l clock k U hU) hs).mono (fin _ _ rfl)
  by_cases h5' : kd = 5
  · subst h5'
    exact (xdo_expire who k sd ac ep nn _ _ y.room l clock hof hs).mono (fin _ _ rfl)
  · refine (xdo_other kd who k sd ac ep nn h1 h2 h3 h4 h5' _ hof).mono fun e w' hb => fin 1 (l, clock) ?_ e w' ⟨hb.1, hs.below hb.2, Only2.of_below hb.2⟩
    unfold tRes
    rw [if_neg (by dsimp only; omega)]
theorem tmaps_ok (o : Op9) (hm : MapsOk y M) (hy : y.ok) : MapsOk y (tMaps o y.n y.room M) := by
  have hj := own_lt hy.n0 o.k
  have main : MOk (tRes o y.room (M (own y.n o.k))).2.1 (tRes o y.room (M (own y.n o.k))).2.2 ∧ ((tRes o y.room (M (own y.n o.k))).2.1.length : Int) ≤ y.room ∧ ∀ x ∈ (tRes o y.room (M (own y.n o.k))).2.1, Fnv.keyH x.1.c x.1.f x.1.s % (y.n : Int) = (own y.n o.k : Int) := by
    unfold tRes
    by_cases hk : 1 ≤ o.kd ∧ o.kd ≤ 5
    · rw [if_pos hk]
      refine ⟨act_ok (hm.ok _ hj), act_len (hm.len _ hj), fun x hx => ?_⟩
      by_cases he : x.1 = o.k
      · rw [he]; exact own_eq hy.n0 o.k
      · have hn := (act_ok (m := o.kd % 5) (room := y.room) (who := o.who) (k := o.k) (hm.ok _ hj)).keys
        have h1 := ent_of_mem hn x hx
        rw [act_other he] at h1
        obtain ⟨z, hz, h2, -⟩ := ent_mem h1
        rw [← h2]
        exact hm.key _ hj z hz
    · rw [if_neg hk]
      exact ⟨hm.ok _ hj, hm.len _ hj, hm.key _ hj⟩
  refine ⟨fun i hi => ?_, fun i hi => ?_, fun i hi => ?_⟩ <;>
    (unfold tMaps
     by_cases e : i = own y.n o.k
     · rw [e, upd_at]
       first | exact main.1 | exact main.2.1 | exact main.2.2
     · rw [upd_off e]
       first | exact hm.ok i hi | exact hm.len i hi | exact hm.key i hi)
/-- a table as it is made -/
theorem wt_of {w wr : World} {T n : Nat} {v : Value} {ss : List (Nat × Nat)} {c : Cfg} {room : Int} (h : TR room w wr T v ss c) (hn : ss.length = n) (h0 : 0 < n) (h8 : n ≤ 8) (hr0 : 0 ≤ room) (hr : room ≤ 64) :
    ∃ y : Lay, y.T = T ∧ y.n = n ∧ y.room = room ∧ y.lo = w.heap.size + 1 ∧ y.hi = wr.heap.size ∧ y.ok ∧ WT wr y (fun _ => ([], 0)) ∧ MapsOk y (fun _ => ([], 0)) ∧ w.heap.size < wr.heap.size := by
  have hTl := lt_blkC h.tab
  have hlt := h.lt
  rcases h.row.2 with ⟨_, h2⟩ | ⟨g, cap, cur, hv, hg, hh, h1, h2, h3, h4⟩
  · simp at h2; rw [h2] at hn; simp at hn; omega
  · rw [hn] at hv
    have hgl := lt_blkC hh
    have hget : ∀ i, i < n → ss.getD i (0, 0) ∈ ss ∧ ss[i]? = some (ss.getD i (0, 0)) := fun i hi => by
      rw [List.getD_eq_getElem?_getD, List.getElem?_eq_getElem (show i < ss.length by omega)]
      exact ⟨List.getElem_mem _, rfl⟩
    have hap : ∀ i j, i < j → j < n → (fun x y : Nat × Nat => x.1 < y.1 ∧ x.1 < y.2 ∧ x.2 < y.1 ∧ x.2 < y.2) (ss.getD i (0, 0)) (ss.getD j (0, 0)) := fun i j hij hj => by
      have := List.pairwise_iff_getElem.1 h.ap i j (by omega) (by omega) hij
      rwa [List.getD_eq_getElem?_getD, List.getD_eq_getElem?_getD, List.getElem?_eq_getElem (show i < ss.length by omega), List.getElem?_eq_getElem (show j < ss.length by omega)]
    refine ⟨⟨T, g, cap, n, w.heap.size + 1, wr.heap.size, fun i => (ss.getD i (0, 0)).1, fun i => (ss.getD i (0, 0)).2, room⟩, rfl, rfl, rfl, rfl, rfl, ⟨h0, h8, hr, hr0, fun i j hi hj e => ?_, fun i hi => ?_, ⟨by show w.heap.size + 1 ≤ T; omega, hTl⟩, ⟨by show w.heap.size + 1 ≤ g; omega, hgl⟩, fun i hi => ?_⟩, ⟨⟨by rw [← hv]; exact h.tab, fun i hi => ?_⟩, fun i hi => (h.sh _ (hget i hi).1).1⟩, ⟨fun _ _ => MOk.nil, fun _ _ => by simpa using hr0, fun _ _ x hx => by simp at hx⟩, by omega⟩
    · rcases Nat.lt_or_gt_of_ne e with e | e
      · have := hap i j e hj; dsimp only at this ⊢; omega
      · have := hap j i e hi; dsimp only at this ⊢; omega
    · have hs := h.sh _ (hget i hi).1
      refine ⟨Nat.ne_of_lt hs.2.1, Nat.ne_of_lt hs.2.2, fun e => ?_, fun e => ?_⟩
      · exact own_apart9 h.row hs.1.box (by decide) (by rw [hv]; exact congrArg some e.symm)
      · exact own_apartM h.row hs.1.map (by rw [hv]; exact congrArg some e.symm)
    · have hs := h.sh _ (hget i hi).1
      exact ⟨⟨by show w.heap.size + 1 ≤ (ss.getD i (0, 0)).1; omega, hs.1.ltS⟩, ⟨by show w.heap.size + 1 ≤ (ss.getD i (0, 0)).2; omega, hs.1.ltB⟩⟩
    · have hc := World.ownsRow.cells h.row (g := g) (by rw [hv]; rfl) i (.pointer (some ⟨(ss.getD i (0, 0)).1, 0, none⟩)) (by
        rw [List.getElem?_map, (hget i hi).2]
        rfl)
      have ea : (⟨g, 0, none⟩ : Addr).add i = ⟨g, i, none⟩ := by unfold Addr.add; by_cases h : i = 0 <;> simp [h]
      rwa [ea] at hc
end
end Go.Proofs.YtlpnecmcncekcaaGreat.Mk
