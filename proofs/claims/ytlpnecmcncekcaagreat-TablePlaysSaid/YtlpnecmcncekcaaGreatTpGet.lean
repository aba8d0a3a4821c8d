/- The table's Get, with what it keeps. -/
import Derived.Test.YtlpnecmcncekcaaGreatTabWhole
import Derived.Deep.RegionHeld3
namespace Go.Proofs.YtlpnecmcncekcaaGreat.Mk
open Go Go.RowKit Go.MuLone

set_option maxRecDepth 20000 in
set_option maxHeartbeats 4000000 in
theorem xget2 {W : World} {T : Nat} (k : K3) (S B : Nat) (room : Int) (l : List Ms) (clock : Nat)
    (hof : ∀ V, Below W.heap.size W V → Calls Tryz.prog 31 #[.pointer (some ⟨T, 0, none⟩), k.val] V fun e w' => e = .returned (.pointer (some ⟨S, 0, none⟩)) ∧ Below V.heap.size V w')
    (hs : ShIs W S B room l clock 0) :
    Calls Tryz.prog 18 #[.pointer (some ⟨T, 0, none⟩), k.val] W fun e w' => e = .returned (.tuple #[.agg ((entM k l).getD en0).cells, .bool (entM k l).isSome]) ∧ ShIs w' S B room l clock 0 ∧ Only2 S B W w' := by
  have HOf := Lib.hid hof
  have HGe := Lib.hid (fun V hV => sget_full S B room l clock k V hV)
  have HNe := Lib.hid (And.intro hs.ltS hs.ltB)
  clear hof
  generalize (entM k l).getD en0 = x at HGe ⊢
  generalize (entM k l).isSome = b at HGe ⊢
  obtain ⟨kc, kf, ks⟩ := k
  obtain ⟨⟨xc, xf, xs⟩, xt, xo⟩ := x
  unfold K3.val at HOf HGe ⊢
  unfold En.cells at HGe ⊢
  dsimp only at HOf HGe ⊢
  have hK := heap_two W (.cells #[.int .i64 kc, .int .i64 kf, .int .u64 ks] 41) (.cells #[.int .i64 0, .int .i64 0, .int .u64 0, .int .i64 0, .int .i64 0] 54)
  have b1 := below_two W (.cells #[.int .i64 kc, .int .i64 kf, .int .u64 ks] 41) (.cells #[.int .i64 0, .int .i64 0, .int .u64 0, .int .i64 0, .int .i64 0] 54)
  obtain ⟨W0, hW0⟩ : ∃ X, X = (W.alloc (.cells #[.int .i64 kc, .int .i64 kf, .int .u64 ks] 41)).alloc (.cells #[.int .i64 0, .int .i64 0, .int .u64 0, .int .i64 0, .int .i64 0] 54) := ⟨_, rfl⟩
  rw [← hW0] at hK b1
  have hlt : W.heap.size + 1 < W0.heap.size := (Array.getElem?_eq_some_iff.1 hK.2).1
  have HX := Lib.hid (And.intro hlt (And.intro b1 (hs.below b1)))
  clear hlt b1 hs
  go_enter Tryz.func18, Tryz.ntmps18
  go_upto_region 1 with fail
  rw [← hW0]
  clear hW0
  refine wp_region_held_drew (S := (fun V => V.heap[W.heap.size]? = some (.cells #[.int .i64 kc, .int .i64 kf, .int .u64 ks] 41 (0, 0)) ∧ ∃ e9 : En, V.heap[W.heap.size + 1]? = some (.cells #[.int .i64 e9.k.c, .int .i64 e9.k.f, .int .u64 e9.k.s, .int .i64 e9.st, .int .i64 e9.ow] 54 (0, 0)))) (by kernel_rfl) ⟨hK.1, en0, hK.2⟩ (fun hHeld => ?_)
  refine wpAnyH_take (i := 0) (oi := _) (v := ?_) rfl (by kernel_rfl) (by kernel_rfl) (by kernel_rfl) (fun _ _ _ h => h) (Or.inl ⟨by rfl, ?_⟩) (by assumption) ?_
  rotate_left
  · (intro W hSw; (try dsimp only at hSw); go_simp; try with_reducible rfl)
  try simp only [Act.put, List.getElem_toArray, List.getElem_cons_zero, List.setIfInBounds_toArray, List.set_cons_zero, List.set_cons_succ]
  refine wpAnyH_take (i := 1) (oi := _) (v := ?_) rfl (by kernel_rfl) (by kernel_rfl) (by kernel_rfl) (fun _ _ _ h => h) (Or.inl ⟨by rfl, ?_⟩) (by assumption) ?_
  rotate_left
  · (intro V hSw; have q0 := cell_of_row V W.heap.size 0 _ _ (0, 0) hSw.1; have q1 := cell_of_row V W.heap.size 1 _ _ (0, 0) hSw.1; have q2 := cell_of_row V W.heap.size 2 _ _ (0, 0) hSw.1; clear hSw; go_simp; try with_reducible rfl)
  try simp only [Act.put, List.getElem_toArray, List.getElem_cons_succ, List.getElem_cons_zero, List.setIfInBounds_toArray, List.set_cons_zero, List.set_cons_succ]
  refine wpAnyH_take (i := 3) (oi := _) (v := ?_) rfl (by kernel_rfl) (by kernel_rfl) (by kernel_rfl) (fun _ _ _ h => h) (Or.inl ⟨by rfl, ?_⟩) (by assumption) ?_
  rotate_left
  · (intro V hSw; have q0 := cell_of_row V W.heap.size 0 _ _ (0, 0) hSw.1; have q1 := cell_of_row V W.heap.size 1 _ _ (0, 0) hSw.1; have q2 := cell_of_row V W.heap.size 2 _ _ (0, 0) hSw.1; clear hSw; go_simp; try with_reducible rfl)
  try simp only [Act.put, List.getElem_toArray, List.getElem_cons_succ, List.getElem_cons_zero, List.setIfInBounds_toArray, List.set_cons_zero, List.set_cons_succ]
  refine wpAnyH_ready (rs := [2]) (by kernel_rfl) (by simp) ?_
  refine AllReadyH.cons rfl (fun K hK => ?_) AllReadyH.nil
  simp only [List.getElem_toArray, List.getElem_cons_succ, List.getElem_cons_zero]
  rw [if_pos (by rfl)]
  go_simp
  refine (HOf.out _ HX.out.2.1.drew).mono ?_
  rintro _ w2 ⟨rfl, b2⟩
  go_wp2_with fail
  refine hK.out _ _ ⟨(b2.block _ (by have := HX.out.1; show _ < W0.heap.size; omega)).trans hHeld.1, hHeld.2.imp fun _ h => (b2.block _ HX.out.1).trans h⟩ (fun hHeld => ?_)
  clear hK K
  try simp only [Act.put, List.getElem_toArray, List.getElem_cons_succ, List.getElem_cons_zero, List.setIfInBounds_toArray, List.set_cons_zero, List.set_cons_succ]
  refine wpAnyH_ready (rs := [4]) (by kernel_rfl) (by simp) ?_
  refine AllReadyH.cons rfl (fun K hK => ?_) AllReadyH.nil
  simp only [List.getElem_toArray, List.getElem_cons_succ, List.getElem_cons_zero]
  rw [if_pos (by rfl)]
  go_simp
  have hs2 : ShIs w2 S B room l clock 0 := ShIs.below (W := W0.drew) ⟨HX.out.2.2.box, HX.out.2.2.map⟩ b2
  refine (HGe.out _ hs2).mono ?_
  rintro _ w3 ⟨rfl, hs3, hO3⟩
  have HS3 := Lib.hid hs3
  clear hs3
  go_wp2_with fail
  refine hK.out _ _ ⟨box_off hHeld.1 hO3 (by have := HNe.out; omega) (by have := HNe.out; omega), hHeld.2.imp fun _ h => box_off h hO3 (by have := HNe.out; omega) (by have := HNe.out; omega)⟩ (fun hHeld => ?_)
  clear hK K
  try simp only [Act.put, List.getElem_toArray, List.getElem_cons_succ, List.getElem_cons_zero, List.setIfInBounds_toArray, List.set_cons_zero, List.set_cons_succ]
  refine wpAnyH_take (i := 5) (oi := _) (v := ?_) rfl (by kernel_rfl) (by kernel_rfl) (by kernel_rfl) (fun _ _ _ h => h) (Or.inl ⟨by rfl, ?_⟩) (by assumption) ?_
  rotate_left
  · (intro W hSw; (try dsimp only at hSw); go_simp; try with_reducible rfl)
  try simp only [Act.put, List.getElem_toArray, List.getElem_cons_succ, List.getElem_cons_zero, List.setIfInBounds_toArray, List.set_cons_zero, List.set_cons_succ]
  refine wpAnyH_take (i := 6) (oi := _) (v := ?_) rfl (by kernel_rfl) (by kernel_rfl) (by kernel_rfl) (fun _ _ _ h => h) (Or.inl ⟨by rfl, ?_⟩) (by assumption) ?_
  rotate_left
  · (intro W hSw; (try dsimp only at hSw); go_simp; try with_reducible rfl)
  try simp only [Act.put, List.getElem_toArray, List.getElem_cons_succ, List.getElem_cons_zero, List.setIfInBounds_toArray, List.set_cons_zero, List.set_cons_succ]
  obtain ⟨e9, hE⟩ := hHeld.2
  have f3 : ∀ i, w3.frozen? ⟨W.heap.size + 1, i, none⟩ = false := fun i => by simp [World.frozen?, hE]
  have c0 := cell_of_row w3 (W.heap.size + 1) 0 _ _ (0, 0) hE
  have c1 := cell_of_row w3 (W.heap.size + 1) 1 _ _ (0, 0) hE
  have c2 := cell_of_row w3 (W.heap.size + 1) 2 _ _ (0, 0) hE
  have c3 := cell_of_row w3 (W.heap.size + 1) 3 _ _ (0, 0) hE
  have c4 := cell_of_row w3 (W.heap.size + 1) 4 _ _ (0, 0) hE
  have hs := row_set5 (.int .i64 xc) (.int .i64 xf) (.int .u64 xs) (.int .i64 xt) (.int .i64 xo) rfl hE
  have hO : Only2 S B W w3 := (((Only2.of_below HX.out.2.1).drew).trans (Only2.of_below b2)).trans hO3
  have hO5 : Only2 S B W (((((w3.setCell ⟨W.heap.size + 1, 0, none⟩ (.int .i64 xc)).setCell ⟨W.heap.size + 1, 1, none⟩ (.int .i64 xf)).setCell ⟨W.heap.size + 1, 2, none⟩ (.int .u64 xs)).setCell ⟨W.heap.size + 1, 3, none⟩ (.int .i64 xt)).setCell ⟨W.heap.size + 1, 4, none⟩ (.int .i64 xo)) := ((((hO.setNew (Nat.le_succ _) 0 _).setNew (Nat.le_succ _) 1 _).setNew (Nat.le_succ _) 2 _).setNew (Nat.le_succ _) 3 _).setNew (Nat.le_succ _) 4 _
  have HS := Lib.hid (And.intro hs hO5)
  clear hs hO hO5 hO3
  refine wpAnyH_ready (rs := [7]) (by kernel_rfl) (by simp) ?_
  refine AllReadyH.cons rfl (fun K hK => ?_) AllReadyH.nil
  simp only [List.getElem_toArray, List.getElem_cons_succ, List.getElem_cons_zero]
  rw [if_pos (by rfl)]
  go_simp
  refine hK.out _ _ ⟨(HS.out.1.2.1 _ (by omega)).trans hHeld.1, ⟨⟨xc, xf, xs⟩, xt, xo⟩, HS.out.1.1⟩ (fun hHeld => ?_)
  clear hK K
  try simp only [Act.put, List.getElem_toArray, List.getElem_cons_succ, List.getElem_cons_zero, List.setIfInBounds_toArray, List.set_cons_zero, List.set_cons_succ]
  refine wpAnyH_take (i := 8) (oi := _) (v := ?_) rfl (by kernel_rfl) (by kernel_rfl) (by kernel_rfl) (fun _ _ _ h => h) (Or.inl ⟨by rfl, ?_⟩) (by assumption) ?_
  rotate_left
  · (intro W hSw; (try dsimp only at hSw); go_simp; try with_reducible rfl)
  try simp only [Act.put, List.getElem_toArray, List.getElem_cons_succ, List.getElem_cons_zero, List.setIfInBounds_toArray, List.set_cons_zero, List.set_cons_succ]
  refine wpAnyH_done (by kernel_rfl) ?_ _
  have HY := Lib.hid (And.intro HS.out.1.1 (And.intro (show ShIs (((((w3.setCell ⟨W.heap.size + 1, 0, none⟩ (.int .i64 xc)).setCell ⟨W.heap.size + 1, 1, none⟩ (.int .i64 xf)).setCell ⟨W.heap.size + 1, 2, none⟩ (.int .u64 xs)).setCell ⟨W.heap.size + 1, 3, none⟩ (.int .i64 xt)).setCell ⟨W.heap.size + 1, 4, none⟩ (.int .i64 xo)) S B room l clock 0 from ⟨(HS.out.1.2.1 _ (by have := HNe.out; omega)).trans HS3.out.box, (HS.out.1.2.1 _ (by have := HNe.out; omega)).trans HS3.out.map⟩) HS.out.2))
  generalize (((((w3.setCell ⟨W.heap.size + 1, 0, none⟩ (.int .i64 xc)).setCell ⟨W.heap.size + 1, 1, none⟩ (.int .i64 xf)).setCell ⟨W.heap.size + 1, 2, none⟩ (.int .u64 xs)).setCell ⟨W.heap.size + 1, 3, none⟩ (.int .i64 xt)).setCell ⟨W.heap.size + 1, 4, none⟩ (.int .i64 xo)) = V4 at HY ⊢
  have r0 := cell_of_row V4 (W.heap.size + 1) 0 _ _ (0, 0) HY.out.1
  have r1 := cell_of_row V4 (W.heap.size + 1) 1 _ _ (0, 0) HY.out.1
  have r2 := cell_of_row V4 (W.heap.size + 1) 2 _ _ (0, 0) HY.out.1
  have r3 := cell_of_row V4 (W.heap.size + 1) 3 _ _ (0, 0) HY.out.1
  have r4 := cell_of_row V4 (W.heap.size + 1) 4 _ _ (0, 0) HY.out.1
  go_wp2
  simp [bodyPost, results, Tryz.results18, go_sem, r0, r1, r2, r3, r4]
  exact HY.out.2
section
variable {V : World} {y : Lay} {M : Maps}
theorem tget (k : K3) (hk : 0 ≤ k.s ∧ k.s < 18446744073709551616) (h : WT V y M) (hy : y.ok) :
    Calls Tryz.prog 18 #[.pointer (some ⟨y.T, 0, none⟩), k.val] V fun e w' => e = .returned (.tuple #[.agg ((entM k (M (own y.n k)).1).getD en0).cells, .bool (entM k (M (own y.n k)).1).isSome]) ∧ WT w' y M ∧ Only2 (y.sh (own y.n k)) (y.mp (own y.n k)) V w' := by
  have hj := own_lt hy.n0 k
  refine (xget2 k (y.sh (own y.n k)) (y.mp (own y.n k)) y.room (M (own y.n k)).1 (M (own y.n k)).2 (h.of hy k hk) (h.is _ hj)).mono ?_
  rintro e w' ⟨rfl, h1, h2⟩
  have := h.turn hy hj (x := M (own y.n k)) h1 h2
  rw [upd_self] at this
  exact ⟨rfl, this, h2⟩
end
end Go.Proofs.YtlpnecmcncekcaaGreat.Mk
