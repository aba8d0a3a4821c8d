/- A table made, of any many shards. -/
import Derived.Test.YtlpnecmcncekcaaGreatTableDo
namespace Go.Proofs.YtlpnecmcncekcaaGreat.Mk
open Go Go.RowKit Go.MuLone Conf

/-- a table of n shards: the i-th one lies at block 'sh i' -/
structure TN (W : World) (T g cap n : Nat) (sh : Nat → Nat) : Prop where
  tab : W.heap[T]? = some (.cells #[.slice (some ⟨g, 0, none⟩) n cap] TTb (0, 0))
  cell : ∀ i, i < n → W.cell? ⟨g, i, none⟩ = some (.pointer (some ⟨sh i, 0, none⟩))
theorem TN.ltT {W : World} {T g cap n : Nat} {sh : Nat → Nat} (h : TN W T g cap n sh) : T < W.heap.size := (Array.getElem?_eq_some_iff.1 h.tab).1
theorem TN.ltg {W : World} {T g cap n : Nat} {sh : Nat → Nat} (h : TN W T g cap n sh) (hn : 0 < n) : g < W.heap.size := by
  rcases Nat.lt_or_ge g W.heap.size with h1 | h1
  · exact h1
  · have := h.cell 0 hn; simp [World.cell?, Array.getElem?_eq_none h1] at this
theorem TN.keep {W V : World} {T g cap n : Nat} {sh : Nat → Nat} (h : TN W T g cap n sh) (h1 : V.heap[T]? = W.heap[T]?) (h2 : V.heap[g]? = W.heap[g]?) : TN V T g cap n sh :=
  ⟨h1.trans h.tab, fun i hi => (World.cell?_of_block (a := ⟨g, i, none⟩) h2).trans (h.cell i hi)⟩
theorem TN.below {W V : World} {T g cap n : Nat} {sh : Nat → Nat} (h : TN W T g cap n sh) (hn : 0 < n) (hb : Below W.heap.size W V) : TN V T g cap n sh := h.keep (hb.block _ h.ltT) (hb.block _ (h.ltg hn))
theorem TN.only {W V : World} {T g cap n S B : Nat} {sh : Nat → Nat} (h : TN W T g cap n sh) (hn : 0 < n) (hO : Only2 S B W V) (h1 : T ≠ S) (h2 : T ≠ B) (h3 : g ≠ S) (h4 : g ≠ B) : TN V T g cap n sh := h.keep (hO.block _ h.ltT h1 h2) (hO.block _ (h.ltg hn) h3 h4)
set_option maxRecDepth 20000 in
theorem shards_n {W : World} {T g cap n : Nat} {sh : Nat → Nat} (h : TN W T g cap n sh) : Calls Tryz.prog 37 #[.pointer (some ⟨T, 0, none⟩)] W fun e w' => e = .returned (.int .i64 (n : Int)) ∧ w' = W := by
  have t := cell_of_row W T 0 _ _ (0, 0) h.tab
  clear h
  go_enter Tryz.func37, Tryz.ntmps37
  go_wp2
  go_ret
  exact ⟨rfl, rfl⟩
set_option maxRecDepth 20000 in
theorem at_n {W : World} {T g cap n : Nat} {sh : Nat → Nat} (h : TN W T g cap n sh) (i : Nat) (hi : i < n) : Calls Tryz.prog 29 #[.pointer (some ⟨T, 0, none⟩), .int .i64 (i : Int)] W fun e w' => e = .returned (.pointer (some ⟨sh i, 0, none⟩)) ∧ w' = W := by
  have t := cell_of_row W T 0 _ _ (0, 0) h.tab
  have t0 := h.cell i hi
  have H := Lib.hid h
  clear h
  go_enter Tryz.func29, Tryz.ntmps29
  go_wp2_with fail
  refine (shards_n H.out).mono ?_
  rintro _ w' ⟨rfl, rfl⟩
  go_wp2
  go_ret
  exact ⟨rfl, rfl⟩
set_option maxRecDepth 20000 in
theorem of_n {W : World} {T g cap n : Nat} {sh : Nat → Nat} (h : TN W T g cap n sh) (k : K3) (h0 : 0 ≤ k.s) (h1 : k.s < 18446744073709551616) (hn0 : 0 < n) (hn : n ≤ 8) (j : Nat) (hj : Fnv.keyH k.c k.f k.s % (n : Int) = (j : Int)) (hjn : j < n) :
    Calls Tryz.prog 31 #[.pointer (some ⟨T, 0, none⟩), k.val] W fun e w' => e = .returned (.pointer (some ⟨sh j, 0, none⟩)) ∧ Below W.heap.size W w' := by
  obtain ⟨kc, kf, ks⟩ := k
  have HSh := Lib.hid (fun V => hj ▸ Fnv.shard_any kc kf ks (n : Int) h0 h1 (by omega) (by omega) V)
  clear hj
  have HAt := Lib.hid (fun V (hV : TN V T g cap n sh) => at_n hV j hjn)
  have HN := Lib.hid hn0
  clear h0 h1 hjn hn hn0
  unfold K3.val
  dsimp only at HAt ⊢
  have hK := heap_alloc_new W (.cells #[.int .i64 kc, .int .i64 kf, .int .u64 ks] 41)
  have b1 := (Below.refl W.heap.size W).alloc (Nat.le_refl _) (.cells #[.int .i64 kc, .int .i64 kf, .int .u64 ks] 41)
  have h2 := h.below HN.out b1
  obtain ⟨W0, hW0⟩ : ∃ X, X = W.alloc (.cells #[.int .i64 kc, .int .i64 kf, .int .u64 ks] 41) := ⟨_, rfl⟩
  rw [← hW0] at hK b1 h2
  have hlt : W.heap.size < W0.heap.size := (Array.getElem?_eq_some_iff.1 hK).1
  have HX := Lib.hid (And.intro hlt (And.intro b1 (And.intro hK h2)))
  clear hlt b1 hK h2 h
  go_enter Tryz.func31, Tryz.ntmps31
  go_upto_region 1 with fail
  rw [← hW0]
  clear hW0
  refine wp_region_held_drew (S := (fun V => V.heap[W.heap.size]? = some (.cells #[.int .i64 kc, .int .i64 kf, .int .u64 ks] 41 (0, 0)) ∧ TN V T g cap n sh)) (by kernel_rfl) ⟨HX.out.2.2.1, HX.out.2.2.2.tab, HX.out.2.2.2.cell⟩ (fun hHeld => ?_)
  refine wpAnyH_take (i := 0) (oi := _) (v := ?_) rfl (by kernel_rfl) (by kernel_rfl) (by kernel_rfl) (fun _ _ _ h => h) (Or.inl ⟨by rfl, ?_⟩) (by assumption) ?_
  rotate_left
  · (intro W hSw; (try dsimp only at hSw); go_simp; try with_reducible rfl)
  try simp only [Act.put, List.getElem_toArray, List.getElem_cons_zero, List.setIfInBounds_toArray, List.set_cons_zero, List.set_cons_succ]
  refine wpAnyH_take (i := 1) (oi := _) (v := ?_) rfl (by kernel_rfl) (by kernel_rfl) (by kernel_rfl) (fun _ _ _ h => h) (Or.inl ⟨by rfl, ?_⟩) (by assumption) ?_
  rotate_left
  · (intro V hSw; have q0 := cell_of_row V W.heap.size 0 _ _ (0, 0) hSw.1; have q1 := cell_of_row V W.heap.size 1 _ _ (0, 0) hSw.1; have q2 := cell_of_row V W.heap.size 2 _ _ (0, 0) hSw.1; clear hSw; go_simp; try with_reducible rfl)
  try simp only [Act.put, List.getElem_toArray, List.getElem_cons_succ, List.getElem_cons_zero, List.setIfInBounds_toArray, List.set_cons_zero, List.set_cons_succ]
  refine wpAnyH_take (i := 2) (oi := _) (v := ?_) rfl (by kernel_rfl) (by kernel_rfl) (by kernel_rfl) (fun _ _ _ h => h) (Or.inl ⟨by rfl, ?_⟩) (by assumption) ?_
  rotate_left
  · (intro W hSw; (try dsimp only at hSw); go_simp; try with_reducible rfl)
  try simp only [Act.put, List.getElem_toArray, List.getElem_cons_succ, List.getElem_cons_zero, List.setIfInBounds_toArray, List.set_cons_zero, List.set_cons_succ]
  refine wpAnyH_ready (rs := [3]) (by kernel_rfl) (by simp) ?_
  refine AllReadyH.cons rfl (fun K hK => ?_) AllReadyH.nil
  simp only [List.getElem_toArray, List.getElem_cons_succ, List.getElem_cons_zero]
  rw [if_pos (by rfl)]
  go_simp
  refine (shards_n hHeld.2).mono ?_
  rintro _ w1 ⟨rfl, rfl⟩
  go_wp2_with fail
  refine hK.out _ _ hHeld (fun hHeld => ?_)
  clear hK K
  try simp only [Act.put, List.getElem_toArray, List.getElem_cons_succ, List.getElem_cons_zero, List.setIfInBounds_toArray, List.set_cons_zero, List.set_cons_succ]
  refine wpAnyH_ready (rs := [4]) (by kernel_rfl) (by simp) ?_
  refine AllReadyH.cons rfl (fun K hK => ?_) AllReadyH.nil
  simp only [List.getElem_toArray, List.getElem_cons_succ, List.getElem_cons_zero]
  rw [if_pos (by rfl)]
  go_simp
  refine (HSh.out _).mono ?_
  rintro _ w2 ⟨rfl, b2⟩
  go_wp2_with fail
  refine hK.out _ _ ⟨(b2.block _ HX.out.1).trans hHeld.1, hHeld.2.below HN.out b2⟩ (fun hHeld => ?_)
  clear hK K
  try simp only [Act.put, List.getElem_toArray, List.getElem_cons_succ, List.getElem_cons_zero, List.setIfInBounds_toArray, List.set_cons_zero, List.set_cons_succ]
  refine wpAnyH_ready (rs := [5]) (by kernel_rfl) (by simp) ?_
  refine AllReadyH.cons rfl (fun K hK => ?_) AllReadyH.nil
  simp only [List.getElem_toArray, List.getElem_cons_succ, List.getElem_cons_zero]
  rw [if_pos (by rfl)]
  go_simp
  refine (HAt.out _ hHeld.2).mono ?_
  rintro _ w3 ⟨rfl, rfl⟩
  go_wp2_with fail
  refine hK.out _ _ hHeld (fun hHeld => ?_)
  clear hK K
  try simp only [Act.put, List.getElem_toArray, List.getElem_cons_succ, List.getElem_cons_zero, List.setIfInBounds_toArray, List.set_cons_zero, List.set_cons_succ]
  refine wpAnyH_take (i := 6) (oi := _) (v := ?_) rfl (by kernel_rfl) (by kernel_rfl) (by kernel_rfl) (fun _ _ _ h => h) (Or.inl ⟨by rfl, ?_⟩) (by assumption) ?_
  rotate_left
  · (intro W hSw; (try dsimp only at hSw); go_simp; try with_reducible rfl)
  try simp only [Act.put, List.getElem_toArray, List.getElem_cons_succ, List.getElem_cons_zero, List.setIfInBounds_toArray, List.set_cons_zero, List.set_cons_succ]
  refine wpAnyH_done (by kernel_rfl) ?_ _
  have hb := HX.out.2.1.drew.trans (b2.mono HX.out.2.1.size)
  clear b2 HX
  go_wp2
  go_ret
  exact ⟨rfl, hb⟩

set_option maxRecDepth 20000 in
set_option maxHeartbeats 4000000 in
theorem tnew_n (c : Cfg) (n : Nat) (hn0 : 0 < n) (hn : n ≤ 8) (hc : code c 11 0 = 0) (h2 : c.f2 = (n : Int)) (h3 : c.f3 = 8) (w : World) :
    Calls Tryz.prog 9 #[.agg c.cells] w fun e w' => ∃ T v ss, e = .returned (.tuple #[.pointer (some ⟨T, 0, none⟩), .int .i64 0]) ∧ ss.length = n ∧ TB w w' T v ss c := by
  obtain ⟨i0, hi, hz0, hz1, hz2⟩ := info_parts infoPS
  have HC := Lib.hid (fun V => hc ▸ check_any c V)
  have hcc : c.cells = #[.slice c.A c.n c.cap, .int .i64 c.f1, .int .i64 (n : Int), .int .i64 8, .int .i64 c.f4, .int .i64 c.f5, .int .i64 c.f6, .int .i64 c.f7, .int .i64 c.f8, .int .i64 c.f9, .int .i64 c.f10, .int .u64 c.f11] := by rw [← h2, ← h3]; rfl
  have hb0 := heap_alloc_new w (.cells c.cells TCf)
  have bl0 := (Below.refl w.heap.size w).alloc (Nat.le_refl _) (.cells c.cells TCf)
  rw [hcc] at HC hb0 bl0 ⊢
  obtain ⟨w0, hw0⟩ : ∃ X, X = w.alloc (.cells #[.slice c.A c.n c.cap, .int .i64 c.f1, .int .i64 (n : Int), .int .i64 8, .int .i64 c.f4, .int .i64 c.f5, .int .i64 c.f6, .int .i64 c.f7, .int .i64 c.f8, .int .i64 c.f9, .int .i64 c.f10, .int .u64 c.f11] TCf) := ⟨_, rfl⟩
  rw [← hw0] at hb0 bl0
  have HX := Lib.hid (And.intro hb0 bl0)
  have q := fun i => cell_of_row w0 w.heap.size i _ _ (0, 0) hb0
  have q0 := q 0; have q1 := q 1; have q2 := q 2; have q3 := q 3; have q4 := q 4; have q5 := q 5; have q6 := q 6; have q7 := q 7; have q8 := q 8; have q9 := q 9; have q10 := q 10; have q11 := q 11
  clear hb0 bl0 h2 h3 q
  go_enter Tryz.func9, Tryz.ntmps9
  go_upto_region 1 with fail
  rw [← hw0]
  clear hw0
  go_wp2_with fail
  refine (HC.out _).mono ?_
  rintro _ w1 ⟨rfl, b1⟩
  clear q0 q1 q2 q3 q4 q5 q6 q7 q8 q9 q10 q11
  have hb1 := (b1.block _ (lt_blkC HX.out.1)).trans HX.out.1
  have bl1 : Below w.heap.size w w1 := HX.out.2.trans (b1.mono HX.out.2.size)
  have hlt1 := lt_blkC hb1
  obtain ⟨T, hT⟩ : ∃ T, T = w1.heap.size := ⟨_, rfl⟩
  obtain ⟨w2, hw2⟩ : ∃ X, X = w1.alloc (.cells #[.slice none 0 0] TTb) := ⟨_, rfl⟩
  have H0 : Hid (TB w w2 T (.slice none 0 0) [] c) := Lib.hid (by
    rw [hw2, hT]
    refine ⟨bl1.alloc bl1.size _, hlt1, ?_, heap_alloc_new w1 _, World.ownsRow_nil _ _ _ _, fun x hx => by cases hx⟩
    rw [hcc]
    exact (Below.heap_alloc _ _ _ hlt1).trans hb1)
  clear b1 hb1 bl1 hlt1 HX
  go_upto_region 5 with fail
  rw [← hw2, ← hT]
  clear hw2 hT
  have hbx := fun (V : World) (v : Value) (ss : List (Nat × Nat)) (h : TB w V T v ss c) => And.intro (cell_of_row V w.heap.size 2 _ _ (0, 0) (hcc ▸ h.box)) (cell_of_row V w.heap.size 3 _ _ (0, 0) (hcc ▸ h.box))
  have HBX := Lib.hid hbx
  clear hbx
  have p2 := (HBX.out _ _ _ H0.out).1
  have p3 := (HBX.out _ _ _ H0.out).2
  go_wp2_with fail
  have HN := Lib.hid (And.intro hn0 hn)
  go_loopw [21] (fun i wr => ∃ k : Nat, i = .int .i64 (k : Int) ∧ k ≤ n ∧ ∃ v ss, ss.length = k ∧ TB w wr T v ss c) (fun i _ => n - (intOf i).toNat)
  case atStart => exact ⟨0, rfl, Nat.zero_le _, _, [], rfl, H0.out⟩
  case round =>
    obtain ⟨k, rfl, hk, v, ss, hss, hB⟩ := hrel
    have H1 := Lib.hid hB
    have q2 := (HBX.out _ _ _ hB).1
    have q3 := (HBX.out _ _ _ hB).2
    clear hB
    go_wp2_with fail
    · refine (snew_ok 8 _ (by decide) (by decide)).mono ?_
      rintro _ y0 ⟨⟨S0, B0, rfl, h1, hS, hB⟩, b1⟩
      obtain ⟨hT1, hr1, hnx⟩ := H1.out.ahead b1 h1 hS hB
      have HN0 := Lib.hid hnx
      have t0 := cell_of_row y0 T 0 _ _ (0, 0) hT1
      have g0 : y0.frozen? ⟨T, 0, none⟩ = false := by simp [World.frozen?, hT1]
      have hlt0 : T + 1 ≤ y0.heap.size := lt_blkC hT1
      have HR0 := Lib.hid (own_alloc hr1 ((Below.refl _ y0).alloc (Nat.le_refl _) (.cells #[.pointer (some ⟨S0, 0, none⟩)] TPS)))
      clear hnx hT1 h1 hS hB b1 hr1 H1 p2 p3 q2 q3
      go_wp2_with (at_builtin; go_loud (refine wpList_append_own _ rfl _ _ 65 rfl (T + 1) 68 i0 (.pointer none) 1 8 Tryz.underlying65 hi hz0 hz1 hz2 rfl (by decide) _ _ _ rfl HR0.out ⟨y0.heap.size, 0, none⟩ 1 1 [.pointer (some ⟨S0, 0, none⟩)] rfl rfl (cell_one_new _ _ _) (one_one rfl) (by have := HN.out; simp [maxLen]; omega) (by have := HN.out; simp; omega) (by simp; try omega) ?_; intro v1 z0 hown hg _; obtain ⟨A1, c1, rfl⟩ := own_form hown; obtain ⟨hT2, hTB⟩ := HN0.out _ z0 hown hg; have t := cell_of_row z0 T 0 _ _ (0, 0) hT2; have g : z0.frozen? ⟨T, 0, none⟩ = false := (by simp [World.frozen?, hT2]); have H2 := Lib.hid (And.intro hT2 hTB); clear hTB hown hg hT2 HN0 HR0 t0 g0 hlt0))
      go_roundw
      case rel => exact ⟨k + 1, by go_num, by omega, _, ss ++ [(S0, B0)], by simp; omega, hss ▸ H2.out.2⟩
      case measure => simp [intOf]; omega
    · have hkn : k = n := by omega
      go_wp2
      go_ret2
      exact ⟨T, _, ss, rfl, by omega, H1.out⟩
end Go.Proofs.YtlpnecmcncekcaaGreat.Mk
