/- gap: Take of any heap. -/
import Derived.Test.YtlgbendncgboiaaGap21
namespace Go.Proofs.Ytlgbendncgboiaa.Gp
open Go Go.RowKit Gm

set_option maxRecDepth 20000 in
theorem take_zero (H : Nat) (W : World) : Calls Try.prog 10 #[.pointer (some ⟨H, 0, none⟩), .int .u64 0] W fun e w' => e = .returned (.tuple #[.int .u64 0, .int .u64 0, .int .i64 1]) ∧ w' = W := by
  go_enter Try.func10, Try.ntmps10
  go_wp2
  exact bodyPost_ret (results_tmp3 rfl _ _ _) rfl ⟨rfl, rfl⟩
set_option maxRecDepth 20000 in
theorem take_none (H cap : Nat) (A : Option Addr) (most : Int) (hm : 1 ≤ most) (W : World) (h : W.heap[H]? = some (.cells #[.slice A 0 cap] THp (0, 0))) : Calls Try.prog 10 #[.pointer (some ⟨H, 0, none⟩), .int .u64 most] W fun e w' => e = .returned (.tuple #[.int .u64 0, .int .u64 0, .int .i64 8]) ∧ w' = W := by
  have c0 := cell_of_row W H 0 _ _ (0, 0) h
  have hm0 : ¬ most = 0 := by omega
  clear h
  go_enter Try.func10, Try.ntmps10
  go_wp2
  exact bodyPost_ret (results_tmp3 rfl _ _ _) rfl ⟨rfl, rfl⟩
set_option maxRecDepth 20000 in
set_option maxHeartbeats 4000000 in
theorem take_full2 (B HH g cap n : Nat) (l : List (Int × Int)) (x : Int × Int) (most : Int) (W : World) (h : HpO B W HH (.slice (some ⟨g, 0, none⟩) n cap) l) (hB : B ≤ W.heap.size) (h0 : 0 < l.length) (hx : l[0] = x) (hok : Okr x) (hm : 1 ≤ most) (hle : x.2 ≤ most) (hp : Hp l.length l) :
    Calls Try.prog 10 #[.pointer (some ⟨HH, 0, none⟩), .int .u64 most] W fun e w' => e = .returned (.tuple #[.int .u64 x.1, .int .u64 x.2, .int .i64 0]) ∧ ∃ v' r, HpO B w' HH v' r ∧ (x :: r).Perm l ∧ Hp r.length r ∧ Below B W w' ∧ Fr HH (.slice (some ⟨g, 0, none⟩) n cap) v' W w' := by
  obtain ⟨hn, hg, hr, hf, hne⟩ := h.lies
  have hfew := h.few
  have hn1 : 1 ≤ n := by omega
  have hn2 : n ≤ 1000 := by omega
  have hn0 : ¬ n = 0 := by omega
  have hn3 : 0 < n := by omega
  have hm0 : ¬ most = 0 := by omega
  have c0 := cell_of_row W HH 0 _ _ (0, 0) h.box
  have hd := hr.2 0 x (by rw [List.getElem?_eq_getElem h0, hx])
  have d0 : W.cell? ⟨g, 0, none⟩ = some (.int .u64 x.1) := hd.1
  have d1 : W.cell? ⟨g, 1, none⟩ = some (.int .u64 x.2) := hd.2
  have hX := heap_alloc_new W (.cells #[.int .u64 x.1, .int .u64 x.2] TRn)
  have b1 := (Below.refl W.heap.size W).alloc (Nat.le_refl _) (.cells #[.int .u64 x.1, .int .u64 x.2] TRn)
  obtain ⟨w1, hw1⟩ : ∃ X, X = W.alloc (.cells #[.int .u64 x.1, .int .u64 x.2] TRn) := ⟨_, rfl⟩
  rw [← hw1] at hX b1
  have h1 := h.below b1
  have x0 := cell_of_row w1 W.heap.size 0 _ _ (0, 0) hX
  have x1 := cell_of_row w1 W.heap.size 1 _ _ (0, 0) hX
  have HP := Lib.hid (hpop_any B HH _ l w1 h1 (Nat.le_trans hB b1.size) h0 hp)
  rw [hx] at HP
  have HX := Lib.hid (And.intro hX (And.intro b1 h))
  have HB := Lib.hid hB
  unfold Okr at hok
  obtain ⟨a, b⟩ := x
  dsimp only at *
  clear hX h1 b1 h hB hp hd hr hf hx hn
  unfold IH at HP
  have hmin : min b most = b := by omega
  go_enter Try.func10, Try.ntmps10
  go_upto_region 6 with fail
  rw [← hw1]
  clear hw1
  go_wp2_with fail
  all_goals first
    | (exfalso; omega)
    | skip
  refine HP.out.mono ?_
  rintro _ w2 ⟨rfl, v2, r, h2, p2, o2, b2, f2⟩
  have hX2 := f2.lies HX.out.1 (by have := HX.out.2.2.lt; omega) (fun e => by have := HX.out.2.2.ownLt _ e.symm; omega)
  have y0 := cell_of_row w2 W.heap.size 0 _ _ (0, 0) hX2
  have HE := Lib.hid (And.intro h2 (And.intro p2 (And.intro o2 (And.intro ((HX.out.2.1.mono HB.out).trans b2) ((Fr.of_below HX.out.2.1).trans f2)))))
  clear h2 b2 f2 p2 o2 hX2 HX x0 x1 c0 d0 d1
  go_wp2
  exact bodyPost_ret (results_tmp3 rfl _ _ _) rfl ⟨rfl, _, r, HE.out⟩
set_option maxRecDepth 20000 in
set_option maxHeartbeats 4000000 in
theorem take_part2 (B HH g cap n : Nat) (l : List (Int × Int)) (x : Int × Int) (most : Int) (W : World) (h : HpO B W HH (.slice (some ⟨g, 0, none⟩) n cap) l) (hB : B ≤ W.heap.size) (h0 : 0 < l.length) (hx : l[0] = x) (hok : Okr x) (hm : 1 ≤ most) (hle : most < x.2) :
    Calls Try.prog 10 #[.pointer (some ⟨HH, 0, none⟩), .int .u64 most] W fun e w' => e = .returned (.tuple #[.int .u64 x.1, .int .u64 most, .int .i64 0]) ∧ ∃ v', HpO B w' HH v' (l.set 0 (x.1 + most, x.2 - most)) ∧ Below B W w' ∧ Fr HH (.slice (some ⟨g, 0, none⟩) n cap) v' W w' := by
  obtain ⟨hn, hg, hr, hf, hne⟩ := h.lies
  have hfew := h.few
  have hn1 : 1 ≤ n := by omega
  have hn2 : n ≤ 1000 := by omega
  have hn0 : ¬ n = 0 := by omega
  have hn3 : 0 < n := by omega
  have hm0 : ¬ most = 0 := by omega
  have c0 := cell_of_row W HH 0 _ _ (0, 0) h.box
  have hd := hr.2 0 x (by rw [List.getElem?_eq_getElem h0, hx])
  have d0 : W.cell? ⟨g, 0, none⟩ = some (.int .u64 x.1) := hd.1
  have d1 : W.cell? ⟨g, 1, none⟩ = some (.int .u64 x.2) := hd.2
  have hX := heap_alloc_new W (.cells #[.int .u64 x.1, .int .u64 x.2] TRn)
  have b1 := (Below.refl W.heap.size W).alloc (Nat.le_refl _) (.cells #[.int .u64 x.1, .int .u64 x.2] TRn)
  obtain ⟨w1, hw1⟩ : ∃ X, X = W.alloc (.cells #[.int .u64 x.1, .int .u64 x.2] TRn) := ⟨_, rfl⟩
  rw [← hw1] at hX b1
  have h1 := h.below b1
  have x0 := cell_of_row w1 W.heap.size 0 _ _ (0, 0) hX
  have x1 := cell_of_row w1 W.heap.size 1 _ _ (0, 0) hX
  unfold Okr at hok
  have hgW : g < W.heap.size := hr.1
  have hr1 := hr.below b1
  have e0 : w1.cell? ⟨g, 0, none⟩ = some (.int .u64 x.1) := (hr1.2 0 x (by rw [List.getElem?_eq_getElem h0, hx])).1
  have e1 : w1.cell? ⟨g, 1, none⟩ = some (.int .u64 x.2) := (hr1.2 0 x (by rw [List.getElem?_eq_getElem h0, hx])).2
  have ef : ∀ i, w1.frozen? ⟨g, i, none⟩ = false := fun i => (b1.frozen (p := ⟨g, i, none⟩) hgW).trans (hf i)
  have hrow : ((w1.drew.setCell ⟨g, 0, none⟩ (.int .u64 (x.1 + most))).setCell ⟨g, 1, none⟩ (.int .u64 (x.2 - most))).ownsRow B TRn 2 (.slice (some ⟨g, 0, none⟩) n cap) n (rc (l.set 0 (x.1 + most, x.2 - most))) := by
    have a1 := h1.drew.row
    rw [← hn] at a1
    have := ((a1.stored 0 (.int .u64 (x.1 + most))).1.stored 1 (.int .u64 (x.2 - most))).1
    have e := rc_set l 0 (x.1 + most, x.2 - most)
    rw [← e]
    exact this
  have hbox : ((w1.drew.setCell ⟨g, 0, none⟩ (.int .u64 (x.1 + most))).setCell ⟨g, 1, none⟩ (.int .u64 (x.2 - most))).heap[HH]? = some (.cells #[.slice (some ⟨g, 0, none⟩) n cap] THp (0, 0)) := by rw [Below.heap_setCell _ _ _ _ hne, Below.heap_setCell _ _ _ _ hne]; exact h1.box
  have hlo : ((w1.drew.setCell ⟨g, 0, none⟩ (.int .u64 (x.1 + most))).setCell ⟨g, 1, none⟩ (.int .u64 (x.2 - most))).heap[W.heap.size]? = some (.cells #[.int .u64 x.1, .int .u64 x.2] TRn (0, 0)) := by rw [Below.heap_setCell _ _ _ _ (by show W.heap.size ≠ g; omega), Below.heap_setCell _ _ _ _ (by show W.heap.size ≠ g; omega)]; exact hX
  have HE : Hid (HpO B ((w1.drew.setCell ⟨g, 0, none⟩ (.int .u64 (x.1 + most))).setCell ⟨g, 1, none⟩ (.int .u64 (x.2 - most))) HH (.slice (some ⟨g, 0, none⟩) n cap) (l.set 0 (x.1 + most, x.2 - most)) ∧ Below B W ((w1.drew.setCell ⟨g, 0, none⟩ (.int .u64 (x.1 + most))).setCell ⟨g, 1, none⟩ (.int .u64 (x.2 - most))) ∧ ((w1.drew.setCell ⟨g, 0, none⟩ (.int .u64 (x.1 + most))).setCell ⟨g, 1, none⟩ (.int .u64 (x.2 - most))).heap[HH]? = some (.cells #[.slice (some ⟨g, 0, none⟩) n cap] THp (0, 0)) ∧ ((w1.drew.setCell ⟨g, 0, none⟩ (.int .u64 (x.1 + most))).setCell ⟨g, 1, none⟩ (.int .u64 (x.2 - most))).heap[W.heap.size]? = some (.cells #[.int .u64 x.1, .int .u64 x.2] TRn (0, 0))) :=
    Lib.hid ⟨⟨hbox, h.low, by rw [List.length_set, ← hn]; exact hrow, by rw [List.length_set]; exact hfew⟩, Below.setCell (p := ⟨g, 1, none⟩) (Below.setCell (p := ⟨g, 0, none⟩) (b1.drew.mono hB) hg _) hg _, hbox, hlo⟩
  have HX := Lib.hid (And.intro h1.box hX)
  have HFr : Hid (Fr HH (.slice (some ⟨g, 0, none⟩) n cap) (.slice (some ⟨g, 0, none⟩) n cap) W ((w1.drew.setCell ⟨g, 0, none⟩ (.int .u64 (x.1 + most))).setCell ⟨g, 1, none⟩ (.int .u64 (x.2 - most)))) := Lib.hid (((Fr.of_below b1.drew).set rfl).set rfl)
  have s1 : IntKind.u64.wrap (x.1 + most) = x.1 + most := IntWalk.u64_in _ (by omega)
  have s2 : IntKind.u64.wrap (x.2 - most) = x.2 - most := IntWalk.u64_in _ (by omega)
  obtain ⟨a, b⟩ := x
  dsimp only at *
  have hmin : min b most = most := by omega
  clear hrow hbox hlo h1 b1 h hB hX hr1 hr hd hf hx hn
  go_enter Try.func10, Try.ntmps10
  go_upto_region 6 with fail
  rw [← hw1]
  clear hw1
  have hmb : (most == b) = false := by simp; omega
  go_upto_region 9 with fail
  all_goals first
    | (exfalso; omega)
    | skip
  clear c0 d0 d1
  refine wp_region_held_drew (S := (fun V => V.heap[HH]? = some (.cells #[.slice (some ⟨g, 0, none⟩) n cap] THp (0, 0)) ∧ V.heap[W.heap.size]? = some (.cells #[.int .u64 a, .int .u64 b] TRn (0, 0)))) (by kernel_rfl) HX.out (fun hHeld => ?_)
  refine wpAnyH_take (i := 0) (oi := _) (v := ?_) rfl (by kernel_rfl) (by kernel_rfl) (by kernel_rfl) (fun _ _ _ h => h) (Or.inl ⟨by rfl, ?_⟩) (by assumption) ?_
  rotate_left
  · (intro W hSw; (try dsimp only at hSw); go_simp; try with_reducible rfl)
  try simp only [Act.put, List.getElem_toArray, List.getElem_cons_zero, List.setIfInBounds_toArray, List.set_cons_zero, List.set_cons_succ]
  refine wpAnyH_take (i := 1) (oi := _) (v := ?_) rfl (by kernel_rfl) (by kernel_rfl) (by kernel_rfl) (fun _ _ _ h => h) (Or.inl ⟨by rfl, ?_⟩) (by assumption) ?_
  rotate_left
  · (intro W hSw; (try dsimp only at hSw); go_simp; try with_reducible rfl)
  try simp only [Act.put, List.getElem_toArray, List.getElem_cons_succ, List.getElem_cons_zero, List.setIfInBounds_toArray, List.set_cons_zero, List.set_cons_succ]
  refine wpAnyH_take (i := 2) (oi := _) (v := ?_) rfl (by kernel_rfl) (by kernel_rfl) (by kernel_rfl) (fun _ _ _ h => h) (Or.inl ⟨by rfl, ?_⟩) (by assumption) ?_
  rotate_left
  · (intro W hSw; (try dsimp only at hSw); go_simp; try with_reducible rfl)
  try simp only [Act.put, List.getElem_toArray, List.getElem_cons_succ, List.getElem_cons_zero, List.setIfInBounds_toArray, List.set_cons_zero, List.set_cons_succ]
  refine wpAnyH_take (i := 3) (oi := _) (v := ?_) rfl (by kernel_rfl) (by kernel_rfl) (by kernel_rfl) (fun _ _ _ h => h) (Or.inl ⟨by rfl, ?_⟩) (by assumption) ?_
  rotate_left
  · (intro V hSw; have q0 := cell_of_row V HH 0 _ _ (0, 0) hSw.1; have q1 := cell_of_row V W.heap.size 0 _ _ (0, 0) hSw.2; have q2 := cell_of_row V W.heap.size 1 _ _ (0, 0) hSw.2; clear hSw; go_simp; try with_reducible rfl)
  try simp only [Act.put, List.getElem_toArray, List.getElem_cons_succ, List.getElem_cons_zero, List.setIfInBounds_toArray, List.set_cons_zero, List.set_cons_succ]
  refine wpAnyH_take (i := 4) (oi := _) (v := ?_) rfl (by kernel_rfl) (by kernel_rfl) (by kernel_rfl) (fun _ _ _ h => h) (Or.inl ⟨by rfl, ?_⟩) (by assumption) ?_
  rotate_left
  · (intro W hSw; (try dsimp only at hSw); go_simp; try with_reducible rfl)
  try simp only [Act.put, List.getElem_toArray, List.getElem_cons_succ, List.getElem_cons_zero, List.setIfInBounds_toArray, List.set_cons_zero, List.set_cons_succ]
  refine wpAnyH_take (i := 5) (oi := _) (v := ?_) rfl (by kernel_rfl) (by kernel_rfl) (by kernel_rfl) (fun _ _ _ h => h) (Or.inl ⟨by rfl, ?_⟩) (by assumption) ?_
  rotate_left
  · (intro V hSw; have q0 := cell_of_row V HH 0 _ _ (0, 0) hSw.1; have q1 := cell_of_row V W.heap.size 0 _ _ (0, 0) hSw.2; have q2 := cell_of_row V W.heap.size 1 _ _ (0, 0) hSw.2; clear hSw; go_simp; try with_reducible rfl)
  try simp only [Act.put, List.getElem_toArray, List.getElem_cons_succ, List.getElem_cons_zero, List.setIfInBounds_toArray, List.set_cons_zero, List.set_cons_succ]
  refine wpAnyH_take (i := 6) (oi := _) (v := ?_) rfl (by kernel_rfl) (by kernel_rfl) (by kernel_rfl) (fun _ _ _ h => h) (Or.inl ⟨by rfl, ?_⟩) (by assumption) ?_
  rotate_left
  · (intro W hSw; (try dsimp only at hSw); go_simp; try with_reducible rfl)
  try simp only [Act.put, List.getElem_toArray, List.getElem_cons_succ, List.getElem_cons_zero, List.setIfInBounds_toArray, List.set_cons_zero, List.set_cons_succ]
  refine wpAnyH_take (i := 7) (oi := _) (v := ?_) rfl (by kernel_rfl) (by kernel_rfl) (by kernel_rfl) (fun _ _ _ h => h) (Or.inl ⟨by rfl, ?_⟩) (by assumption) ?_
  rotate_left
  · (intro W hSw; (try dsimp only at hSw); go_simp; try with_reducible rfl)
  try simp only [Act.put, List.getElem_toArray, List.getElem_cons_succ, List.getElem_cons_zero, List.setIfInBounds_toArray, List.set_cons_zero, List.set_cons_succ]
  refine wpAnyH_take (i := 8) (oi := _) (v := ?_) rfl (by kernel_rfl) (by kernel_rfl) (by kernel_rfl) (fun _ _ _ h => h) (Or.inl ⟨by rfl, ?_⟩) (by assumption) ?_
  rotate_left
  · (intro W hSw; (try dsimp only at hSw); go_simp; try with_reducible rfl)
  try simp only [Act.put, List.getElem_toArray, List.getElem_cons_succ, List.getElem_cons_zero, List.setIfInBounds_toArray, List.set_cons_zero, List.set_cons_succ]
  refine wpAnyH_take (i := 9) (oi := _) (v := ?_) rfl (by kernel_rfl) (by kernel_rfl) (by kernel_rfl) (fun _ _ _ h => h) (Or.inl ⟨by rfl, ?_⟩) (by assumption) ?_
  rotate_left
  · (intro V hSw; have q0 := cell_of_row V HH 0 _ _ (0, 0) hSw.1; have q1 := cell_of_row V W.heap.size 0 _ _ (0, 0) hSw.2; have q2 := cell_of_row V W.heap.size 1 _ _ (0, 0) hSw.2; clear hSw; go_simp; try with_reducible rfl)
  try simp only [Act.put, List.getElem_toArray, List.getElem_cons_succ, List.getElem_cons_zero, List.setIfInBounds_toArray, List.set_cons_zero, List.set_cons_succ]
  refine wpAnyH_take (i := 10) (oi := _) (v := ?_) rfl (by kernel_rfl) (by kernel_rfl) (by kernel_rfl) (fun _ _ _ h => h) (Or.inl ⟨by rfl, ?_⟩) (by assumption) ?_
  rotate_left
  · (intro W hSw; (try dsimp only at hSw); go_simp; try with_reducible rfl)
  try simp only [Act.put, List.getElem_toArray, List.getElem_cons_succ, List.getElem_cons_zero, List.setIfInBounds_toArray, List.set_cons_zero, List.set_cons_succ]
  refine wpAnyH_take (i := 11) (oi := _) (v := ?_) rfl (by kernel_rfl) (by kernel_rfl) (by kernel_rfl) (fun _ _ _ h => h) (Or.inl ⟨by rfl, ?_⟩) (by assumption) ?_
  rotate_left
  · (intro W hSw; (try dsimp only at hSw); go_simp; try with_reducible rfl)
  try simp only [Act.put, List.getElem_toArray, List.getElem_cons_succ, List.getElem_cons_zero, List.setIfInBounds_toArray, List.set_cons_zero, List.set_cons_succ]
  refine wpAnyH_take (i := 12) (oi := _) (v := ?_) rfl (by kernel_rfl) (by kernel_rfl) (by kernel_rfl) (fun _ _ _ h => h) (Or.inl ⟨by rfl, ?_⟩) (by assumption) ?_
  rotate_left
  · (intro W hSw; (try dsimp only at hSw); go_simp; try with_reducible rfl)
  try simp only [Act.put, List.getElem_toArray, List.getElem_cons_succ, List.getElem_cons_zero, List.setIfInBounds_toArray, List.set_cons_zero, List.set_cons_succ]
  refine wpAnyH_take (i := 13) (oi := _) (v := ?_) rfl (by kernel_rfl) (by kernel_rfl) (by kernel_rfl) (fun _ _ _ h => h) (Or.inl ⟨by rfl, ?_⟩) (by assumption) ?_
  rotate_left
  · (intro W hSw; (try dsimp only at hSw); go_simp; try with_reducible rfl)
  try simp only [Act.put, List.getElem_toArray, List.getElem_cons_succ, List.getElem_cons_zero, List.setIfInBounds_toArray, List.set_cons_zero, List.set_cons_succ]
  refine wpAnyH_ready (rs := [14]) (by kernel_rfl) (by simp) ?_
  refine AllReadyH.cons rfl (fun K hK => ?_) AllReadyH.nil
  simp only [List.getElem_toArray, List.getElem_cons_succ, List.getElem_cons_zero]
  rw [if_pos (by rfl)]
  go_simp
  refine hK.out _ _ HE.out.2.2 (fun hHeld => ?_)
  clear hK K
  try simp only [Act.put, List.getElem_toArray, List.getElem_cons_succ, List.getElem_cons_zero, List.setIfInBounds_toArray, List.set_cons_zero, List.set_cons_succ]
  refine wpAnyH_done (by kernel_rfl) ?_ _
  have HE2 : Hid (HpO B ((w1.setCell ⟨g, 0, none⟩ (.int .u64 (a + most))).setCell ⟨g, 1, none⟩ (.int .u64 (b - most))).drew HH (.slice (some ⟨g, 0, none⟩) n cap) (l.set 0 (a + most, b - most)) ∧ Below B W ((w1.setCell ⟨g, 0, none⟩ (.int .u64 (a + most))).setCell ⟨g, 1, none⟩ (.int .u64 (b - most))).drew ∧ ((w1.setCell ⟨g, 0, none⟩ (.int .u64 (a + most))).setCell ⟨g, 1, none⟩ (.int .u64 (b - most))).drew.heap[HH]? = some (.cells #[.slice (some ⟨g, 0, none⟩) n cap] THp (0, 0)) ∧ ((w1.setCell ⟨g, 0, none⟩ (.int .u64 (a + most))).setCell ⟨g, 1, none⟩ (.int .u64 (b - most))).drew.heap[W.heap.size]? = some (.cells #[.int .u64 a, .int .u64 b] TRn (0, 0))) := HE
  clear HE
  have hne1 : ¬ W.heap.size = g := by omega
  have hne2 : ¬ g = W.heap.size := by omega
  have y0 : ((w1.setCell ⟨g, 0, none⟩ (.int .u64 (a + most))).setCell ⟨g, 1, none⟩ (.int .u64 (b - most))).drew.cell? ⟨W.heap.size, 0, none⟩ = some (.int .u64 a) := cell_of_row _ W.heap.size 0 _ _ (0, 0) HE2.out.2.2.2
  clear e0 e1 ef hHeld
  go_wp2
  refine bodyPost_ret (results_tmp3 rfl _ _ _) rfl ?_
  exact ⟨rfl, _, HE2.out.1, HE2.out.2.1, HFr.out⟩
end Go.Proofs.Ytlgbendncgboiaa.Gp
