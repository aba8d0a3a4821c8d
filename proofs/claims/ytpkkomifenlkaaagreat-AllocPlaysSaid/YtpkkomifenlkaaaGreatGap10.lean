/- gap: Put of 4 between 3 and 5. -/
import Derived.Test.YtpkkomifenlkaaaGreatGap9
namespace Go.Proofs.YtpkkomifenlkaaaGreat.Gp
open Go Go.RowKit

theorem Fr.drew {H : Nat} {v v' : Value} {a b : World} (h : Fr H v v' a b) : Fr H v v' a b.drew := ⟨h.os, h.tape, h.output, h.size, h.block, h.own⟩
theorem Fr.lies {H k : Nat} {v v' : Value} {a b : World} {o : Obj} (h : Fr H v v' a b) (hk : a.heap[k]? = some o) (h1 : k ≠ H) (h2 : some k ≠ v.ownBlock) : b.heap[k]? = some o := (h.block k (Array.getElem?_eq_some_iff.1 hk).1 h1 h2).trans hk
theorem Fr.not {H k : Nat} {v v' : Value} {a b : World} (h : Fr H v v' a b) (hk : k < a.heap.size) (h2 : some k ≠ v.ownBlock) : some k ≠ v'.ownBlock := fun e => by
  rcases h.own with ho | ho
  · exact h2 (e.trans ho)
  · have := ho k e.symm; omega
set_option maxRecDepth 20000 in
set_option maxHeartbeats 4000000 in
theorem put_four (B HH : Nat) (v : Value) (W : World) (h : HpO B W HH v [(3, 1), (5, 1)]) (hB : B ≤ W.heap.size) :
    Calls Tryz.prog 49 #[.pointer (some ⟨HH, 0, none⟩), .int .u64 4] W fun e w' => e = .returned (.int .i64 0) ∧ ∃ v', HpO B w' HH v' [(3, 3)] ∧ Below B W w' ∧ Fr HH v v' W w' := by
  have hN := heap_alloc_new W (.cells #[.int .u64 4] 22)
  have b0 := (Below.refl W.heap.size W).alloc (Nat.le_refl _) (.cells #[.int .u64 4] 22)
  obtain ⟨w0, hw0⟩ : ∃ X, X = W.alloc (.cells #[.int .u64 4] 22) := ⟨_, rfl⟩
  rw [← hw0] at hN b0
  have h0 := h.below b0
  have HHas := Lib.hid (has_any HH v [(3, 1), (5, 1)] 4 w0 h0.is)
  have hi : seek (p_in 4) [(3, 1), (5, 1)] 0 = -1 := by decide
  rw [hi] at HHas
  have hNl : W.heap.size < w0.heap.size := (Array.getElem?_eq_some_iff.1 hN).1
  have c0 := cell_of_row w0 W.heap.size 0 _ _ (0, 0) hN
  have HX := Lib.hid (And.intro h0 (And.intro b0 (And.intro hN hNl)))
  have HB := Lib.hid hB
  have HO := Lib.hid (show HH < W.heap.size ∧ ∀ k, W.heap.size ≤ k → some k ≠ v.ownBlock from ⟨h.lt, fun k hk e => by have := h.ownLt k e.symm; omega⟩)
  clear h h0 hN b0 hi hB hNl
  go_enter Tryz.func49, Tryz.ntmps49
  go_upto_region 1 with fail
  rw [← hw0]
  clear hw0
  go_wp2_with fail
  refine HHas.out.mono ?_
  rintro _ w1 ⟨rfl, b1⟩
  have hd : decide ((0 : Int) ≤ -1) = false := by decide
  rw [hd]
  clear hd
  have hR := heap_alloc_new w1 (.cells #[.int .u64 4, .int .u64 1] TRn)
  obtain ⟨R, hRd⟩ : ∃ R, R = w1.heap.size := ⟨_, rfl⟩
  obtain ⟨w2, hw2⟩ : ∃ X, X = w1.alloc (.cells #[.int .u64 4, .int .u64 1] TRn) := ⟨_, rfl⟩
  have b2 : Below w0.heap.size w0 w2 := by rw [hw2]; exact b1.alloc b1.size _
  rw [← hw2, ← hRd] at hR
  have hN2 := (b2.block _ HX.out.2.2.2).trans HX.out.2.2.1
  have hRW : W.heap.size < R := by have := b1.size; have := HX.out.2.2.2; omega
  have H2 := Lib.hid (And.intro hR (And.intro (HX.out.1.below b2) (And.intro hN2 (HX.out.2.1.trans (b2.mono HX.out.2.1.size)))))
  have k1 : w1.cell? ⟨W.heap.size, 0, none⟩ = some (.int .u64 4) := cell_of_row w1 W.heap.size 0 _ _ (0, 0) ((b1.block _ HX.out.2.2.2).trans HX.out.2.2.1)
  have hs2 : B ≤ w2.heap.size := Nat.le_trans HB.out H2.out.2.2.2.size
  have hsz2 : R < w2.heap.size := (Array.getElem?_eq_some_iff.1 hR).1
  clear hR b1 b2 hN2 c0 HHas
  go_upto_region 8 with fail
  rw [← hw2, ← hRd]
  clear hw2 hRd k1
  go_wp2_with fail
  refine (remhit_ahead B HH W.heap.size v _ [(5, 1)] 4 3 1 w2 H2.out.2.1 hs2 (cell_of_row w2 W.heap.size 0 _ _ (0, 0) H2.out.2.2.1) (by omega) (by decide) (fun V hV hBV => hrem2 B HH v (3, 1) (5, 1) V hV hBV)).mono ?_
  rintro _ w3 ⟨rfl, v3, h3, b3, f3⟩
  have hR3 := f3.lies H2.out.1 (by have := HO.out.1; omega) (HO.out.2 R (by omega))
  have hN3 := f3.lies H2.out.2.2.1 (by have := HO.out.1; omega) (HO.out.2 _ (Nat.le_refl _))
  have nR := f3.not hsz2 (HO.out.2 R (by omega))
  have nN := f3.not (show W.heap.size < w2.heap.size by omega) (HO.out.2 _ (Nat.le_refl _))
  have F3 := (Fr.of_below H2.out.2.2.2).trans f3
  have B3 : Below B W w3 := (H2.out.2.2.2.mono HB.out).trans b3
  have hX := heap_alloc_new w3 (.cells #[.int .u64 3, .int .u64 1] TRn)
  obtain ⟨w4, hw4⟩ : ∃ X, X = w3.alloc (.cells #[.int .u64 3, .int .u64 1] TRn) := ⟨_, rfl⟩
  have al : Below w3.heap.size w3 w4 := by rw [hw4]; exact (Below.refl _ _).alloc (Nat.le_refl _) _
  have F4 : Fr HH v v3 W w4 := by rw [hw4]; exact F3.alloc _
  have B4 : Below B W w4 := by rw [hw4]; exact B3.alloc (Nat.le_trans HB.out F3.size) _
  rw [← hw4] at hX
  have x0 := cell_of_row w4 w3.heap.size 0 _ _ (0, 0) hX
  have x1 := cell_of_row w4 w3.heap.size 1 _ _ (0, 0) hX
  have hR4 := (al.block _ (Array.getElem?_eq_some_iff.1 hR3).1).trans hR3
  have hN4 := (al.block _ (Array.getElem?_eq_some_iff.1 hN3).1).trans hN3
  have y0 := cell_of_row w4 R 0 _ _ (0, 0) hR4
  have y1 := cell_of_row w4 R 1 _ _ (0, 0) hR4
  have yf : ∀ i, w4.frozen? ⟨R, i, none⟩ = false := fun i => by simp [World.frozen?, hR4]
  have hw3R : ¬ w3.heap.size = R := by have := (Array.getElem?_eq_some_iff.1 hR3).1; omega
  have hNR : ¬ W.heap.size = R := by omega
  have h4 := h3.below al
  obtain ⟨w5, hw5⟩ : ∃ X, X = (w4.setCell ⟨R, 0, none⟩ (.int .u64 3)).setCell ⟨R, 1, none⟩ (.int .u64 2) := ⟨_, rfl⟩
  have hR5 : w5.heap[R]? = some (.cells #[.int .u64 3, .int .u64 2] TRn (0, 0)) := by rw [hw5]; exact setCell_at _ (setCell_at _ hR4)
  have hN5 : w5.heap[W.heap.size]? = some (.cells #[.int .u64 4] 22 (0, 0)) := by rw [hw5, Below.heap_setCell _ _ _ _ hNR, Below.heap_setCell _ _ _ _ hNR]; exact hN4
  have hHR : R ≠ HH := by have := HO.out.1; omega
  have h5 : HpO B w5 HH v3 [(5, 1)] := by rw [hw5]; exact (h4.setOff hHR nR).setOff hHR nR
  have F5 : Fr HH v v3 W w5 := by rw [hw5]; exact (F4.setNew (by omega)).setNew (by omega)
  have B5 : Below B W w5 := by rw [hw5]; exact Below.setCell (p := ⟨R, 1, none⟩) (Below.setCell (p := ⟨R, 0, none⟩) B4 (by have := HB.out; show B ≤ R; omega) _) (by have := HB.out; show B ≤ R; omega) _
  have H5 := Lib.hid (And.intro h5 (And.intro hR5 (And.intro hN5 (And.intro F5 (And.intro B5 (And.intro nR nN))))))
  have z0 := cell_of_row w5 R 0 _ _ (0, 0) hR5
  have z1 := cell_of_row w5 R 1 _ _ (0, 0) hR5
  have zN := cell_of_row w5 W.heap.size 0 _ _ (0, 0) hN5
  clear h3 b3 f3 hR3 hN3 nR nN F3 B3 hX al F4 B4 hR4 hN4 h4 hR5 hN5 h5 F5 B5 H2 HX
  go_upto_region 9 with fail
  rw [← hw4]
  clear hw4
  go_upto_region 12 with fail
  rw [← hw5]
  clear hw5 x0 x1 y0 y1 yf
  go_wp2_with fail
  refine (remhit_behind B HH W.heap.size v3 _ [] 4 5 1 w5 H5.out.1 (Nat.le_trans HB.out H5.out.2.2.2.1.size) zN (Array.getElem?_eq_some_iff.1 H5.out.2.2.1).1 (by decide) (fun V hV hBV => hrem1 B HH v3 (5, 1) V hV hBV)).mono ?_
  rintro _ w6 ⟨rfl, v6, h6, b6, f6⟩
  have hR6 := f6.lies H5.out.2.1 hHR H5.out.2.2.2.2.2.1
  have nR6 := f6.not (Array.getElem?_eq_some_iff.1 H5.out.2.1).1 H5.out.2.2.2.2.2.1
  have F6 := H5.out.2.2.2.1.trans f6
  have B6 : Below B W w6 := H5.out.2.2.2.2.1.trans b6
  have hX := heap_alloc_new w6 (.cells #[.int .u64 5, .int .u64 1] TRn)
  obtain ⟨w7, hw7⟩ : ∃ X, X = w6.alloc (.cells #[.int .u64 5, .int .u64 1] TRn) := ⟨_, rfl⟩
  have al : Below w6.heap.size w6 w7 := by rw [hw7]; exact (Below.refl _ _).alloc (Nat.le_refl _) _
  have F7 : Fr HH v v6 W w7 := by rw [hw7]; exact F6.alloc _
  have B7 : Below B W w7 := by rw [hw7]; exact B6.alloc (Nat.le_trans HB.out F6.size) _
  rw [← hw7] at hX
  have x1 := cell_of_row w7 w6.heap.size 1 _ _ (0, 0) hX
  have hR7 := (al.block _ (Array.getElem?_eq_some_iff.1 hR6).1).trans hR6
  have y0 := cell_of_row w7 R 0 _ _ (0, 0) hR7
  have y1 := cell_of_row w7 R 1 _ _ (0, 0) hR7
  have yf : ∀ i, w7.frozen? ⟨R, i, none⟩ = false := fun i => by simp [World.frozen?, hR7]
  have h7 := h6.below al
  obtain ⟨w8, hw8⟩ : ∃ X, X = w7.setCell ⟨R, 1, none⟩ (.int .u64 3) := ⟨_, rfl⟩
  have hR8 : w8.heap[R]? = some (.cells #[.int .u64 3, .int .u64 3] TRn (0, 0)) := by rw [hw8]; exact setCell_at _ hR7
  have h8 : HpO B w8 HH v6 [] := by rw [hw8]; exact h7.setOff hHR nR6
  have F8 : Fr HH v v6 W w8 := by rw [hw8]; exact F7.setNew (by omega)
  have B8 : Below B W w8 := by rw [hw8]; exact Below.setCell (p := ⟨R, 1, none⟩) B7 (by have := HB.out; show B ≤ R; omega) _
  have H8 := Lib.hid (And.intro h8.drew (And.intro F8.drew B8.drew))
  have r0 : w8.drew.cell? ⟨R, 0, none⟩ = some (.int .u64 3) := cell_of_row w8 R 0 _ _ (0, 0) hR8
  have r1 : w8.drew.cell? ⟨R, 1, none⟩ = some (.int .u64 3) := cell_of_row w8 R 1 _ _ (0, 0) hR8
  clear h6 b6 f6 hR6 nR6 F6 B6 hX al F7 B7 hR7 h7 hR8 h8 F8 B8 H5 z0 z1 zN
  go_upto_region 13 with fail
  rw [← hw7]
  clear hw7
  go_upto_region 15 with fail
  rw [← hw8]
  clear hw8 x1 y0 y1 yf
  refine wp_region_held_drew (S := fun _ => True) (by kernel_rfl) trivial (fun _ => ?_)
  refine wpAnyH_take (i := 0) (oi := _) (v := ?_) rfl (by kernel_rfl) (by kernel_rfl) (by kernel_rfl) (fun _ _ _ h => h) (Or.inl ⟨by rfl, ?_⟩) (by assumption) ?_
  rotate_left
  · (intro W hSw; (try dsimp only at hSw); go_simp; try with_reducible rfl)
  try simp only [Act.put, List.getElem_toArray, List.getElem_cons_zero, List.setIfInBounds_toArray, List.set_cons_zero, List.set_cons_succ]
  refine wpAnyH_take (i := 1) (oi := _) (v := ?_) rfl (by kernel_rfl) (by kernel_rfl) (by kernel_rfl) (fun _ _ _ h => h) (Or.inl ⟨by rfl, ?_⟩) (by assumption) ?_
  rotate_left
  · (intro W hSw; (try dsimp only at hSw); go_simp; try with_reducible rfl)
  try simp only [Act.put, List.getElem_toArray, List.getElem_cons_succ, List.getElem_cons_zero, List.setIfInBounds_toArray, List.set_cons_zero, List.set_cons_succ]
  refine wpAnyH_take (i := 2) (oi := _) (v := ?_) rfl (by kernel_rfl) (by kernel_rfl) (by kernel_rfl) (fun _ _ _ h => h) (Or.inl ⟨by rfl, ?_⟩) (by assumption) ?_
  rotate_left
  · (intro W hSw; (try dsimp only at hSw); go_simp; try with_reducible rfl)
  try simp only [Act.put, List.getElem_toArray, List.getElem_cons_succ, List.getElem_cons_zero, List.setIfInBounds_toArray, List.set_cons_zero, List.set_cons_succ]
  refine wpAnyH_take (i := 3) (oi := _) (v := ?_) rfl (by kernel_rfl) (by kernel_rfl) (by kernel_rfl) (fun _ _ _ h => h) (Or.inl ⟨by rfl, ?_⟩) (by assumption) ?_
  rotate_left
  · (intro W hSw; (try dsimp only at hSw); go_simp; try with_reducible rfl)
  try simp only [Act.put, List.getElem_toArray, List.getElem_cons_succ, List.getElem_cons_zero, List.setIfInBounds_toArray, List.set_cons_zero, List.set_cons_succ]
  refine wpAnyH_ready (rs := [4]) (by kernel_rfl) (by simp) ?_
  refine AllReadyH.cons rfl (fun K hK => ?_) AllReadyH.nil
  simp only [List.getElem_toArray, List.getElem_cons_succ, List.getElem_cons_zero]
  rw [if_pos (by rfl)]
  go_simp
  refine hK.out _ _ trivial (fun _ => ?_)
  clear hK K
  try simp only [Act.put, List.getElem_toArray, List.getElem_cons_succ, List.getElem_cons_zero, List.setIfInBounds_toArray, List.set_cons_zero, List.set_cons_succ]
  refine wpAnyH_take (i := 5) (oi := _) (v := ?_) rfl (by kernel_rfl) (by kernel_rfl) (by kernel_rfl) (fun _ _ _ h => h) (Or.inl ⟨by rfl, ?_⟩) (by assumption) ?_
  rotate_left
  · (intro W hSw; (try dsimp only at hSw); go_simp; try with_reducible rfl)
  try simp only [Act.put, List.getElem_toArray, List.getElem_cons_succ, List.getElem_cons_zero, List.setIfInBounds_toArray, List.set_cons_zero, List.set_cons_succ]
  refine wpAnyH_ready (rs := [6]) (by kernel_rfl) (by simp) ?_
  refine AllReadyH.cons rfl (fun K hK => ?_) AllReadyH.nil
  simp only [List.getElem_toArray, List.getElem_cons_succ, List.getElem_cons_zero]
  rw [if_pos (by rfl)]
  go_simp
  refine (hpush0 B HH v6 (3, 3) _ H8.out.1 (Nat.le_trans HB.out H8.out.2.1.size)).mono ?_
  rintro _ w9 ⟨rfl, v9, h9, b9, f9⟩
  have HE := Lib.hid (And.intro h9 (And.intro (H8.out.2.2.trans b9) (H8.out.2.1.trans f9)))
  clear h9 b9 f9
  go_wp2_with fail
  refine hK.out _ _ trivial (fun _ => ?_)
  clear hK K
  try simp only [Act.put, List.getElem_toArray, List.getElem_cons_succ, List.getElem_cons_zero, List.setIfInBounds_toArray, List.set_cons_zero, List.set_cons_succ]
  refine wpAnyH_done (by kernel_rfl) ?_ _
  clear r0 r1
  go_wp2
  go_ret
  exact ⟨rfl, _, HE.out⟩
end Go.Proofs.YtpkkomifenlkaaaGreat.Gp
