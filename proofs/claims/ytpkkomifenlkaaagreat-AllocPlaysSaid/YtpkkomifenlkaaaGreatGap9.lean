/- gap: Put of a number that touches no run. -/
import Derived.Test.YtpkkomifenlkaaaGreatGap8
namespace Go.Proofs.YtpkkomifenlkaaaGreat.Gp
open Go Go.RowKit

set_option maxRecDepth 20000 in
set_option maxHeartbeats 4000000 in
theorem put_new (B HH : Nat) (v : Value) (l l' : List (Int × Int)) (n : Int) (W : World) (h : HpO B W HH v l) (hB : B ≤ W.heap.size) (hn : n ≠ 18446744073709551615) (hi : seek (p_in n) l 0 = -1) (ha : seek (p_ahead n) l 0 = -1) (hb : seek (p_behind n) l 0 = -1)
    (hpu : ∀ V, HpO B V HH v l → B ≤ V.heap.size → Calls Tryz.prog 71 #[IH HH, .iface TRn (.agg #[.int .u64 n, .int .u64 1])] V fun e w' => e = .returned (.tuple #[]) ∧ ∃ v', HpO B w' HH v' l' ∧ Below B V w' ∧ Fr HH v v' V w') :
    Calls Tryz.prog 49 #[.pointer (some ⟨HH, 0, none⟩), .int .u64 n] W fun e w' => e = .returned (.int .i64 0) ∧ ∃ v', HpO B w' HH v' l' ∧ Below B W w' ∧ Fr HH v v' W w' := by
  have hN := heap_alloc_new W (.cells #[.int .u64 n] 22)
  have b0 := (Below.refl W.heap.size W).alloc (Nat.le_refl _) (.cells #[.int .u64 n] 22)
  obtain ⟨w0, hw0⟩ : ∃ X, X = W.alloc (.cells #[.int .u64 n] 22) := ⟨_, rfl⟩
  rw [← hw0] at hN b0
  have h0 := h.below b0
  have HHas := Lib.hid (has_any HH v l n w0 h0.is)
  rw [hi] at HHas
  have HA := Lib.hid (fun V (hV : HpO B V HH v l) hc hl => remno_ahead HH W.heap.size v l n V hV.is hc hl ha)
  have HBh := Lib.hid (fun V (hV : HpO B V HH v l) hc hl => remno_behind HH W.heap.size v l n V hV.is hc hl hb)
  have HPu := Lib.hid hpu
  have hNl : W.heap.size < w0.heap.size := (Array.getElem?_eq_some_iff.1 hN).1
  have c0 := cell_of_row w0 W.heap.size 0 _ _ (0, 0) hN
  have HX := Lib.hid (And.intro h0 (And.intro b0 (And.intro hN hNl)))
  have HB := Lib.hid hB
  clear h h0 hN b0 hi ha hb hpu hB hNl
  unfold IH at HPu
  go_enter Tryz.func49, Tryz.ntmps49
  go_upto_region 1 with fail
  rw [← hw0]
  clear hw0
  go_wp2_with fail
  refine HHas.out.mono ?_
  rintro _ w1 ⟨rfl, b1⟩
  have hd : decide ((0 : Int) ≤ -1) = false := by decide
  rw [hd]
  clear hd
  have hR := heap_alloc_new w1 (.cells #[.int .u64 n, .int .u64 1] TRn)
  obtain ⟨R, hRd⟩ : ∃ R, R = w1.heap.size := ⟨_, rfl⟩
  obtain ⟨w2, hw2⟩ : ∃ X, X = w1.alloc (.cells #[.int .u64 n, .int .u64 1] TRn) := ⟨_, rfl⟩
  have b2 : Below w0.heap.size w0 w2 := by rw [hw2]; exact b1.alloc b1.size _
  rw [← hw2, ← hRd] at hR
  have hRl : R < w2.heap.size := (Array.getElem?_eq_some_iff.1 hR).1
  have hP2 := HX.out.1.below b2
  have k0 : w2.cell? ⟨W.heap.size, 0, none⟩ = some (.int .u64 n) := cell_of_row w2 W.heap.size 0 _ _ (0, 0) ((b2.block _ HX.out.2.2.2).trans HX.out.2.2.1)
  have hRw : w0.heap.size ≤ R := by rw [hRd]; exact b1.size
  have H2 := Lib.hid (And.intro hR (And.intro hP2 (And.intro b2 (And.intro k0 (And.intro hRl hRw)))))
  have k1 : w1.cell? ⟨W.heap.size, 0, none⟩ = some (.int .u64 n) := cell_of_row w1 W.heap.size 0 _ _ (0, 0) ((b1.block _ HX.out.2.2.2).trans HX.out.2.2.1)
  clear hR b1 b2 hP2 k0 hRl c0 HHas hRw
  go_upto_region 8 with fail
  rw [← hw2, ← hRd]
  clear hw2 hRd k1
  go_wp2_with fail
  refine (HA.out w2 H2.out.2.1 H2.out.2.2.2.1 (Nat.lt_of_lt_of_le HX.out.2.2.2 H2.out.2.2.1.size)).mono ?_
  rintro _ w3 ⟨rfl, b3⟩
  obtain ⟨w4, hw4⟩ : ∃ X, X = w3.alloc (.cells #[.int .u64 0, .int .u64 0] TRn) := ⟨_, rfl⟩
  have b4 : Below w2.heap.size w2 w4 := by rw [hw4]; exact b3.alloc b3.size _
  have b5 : Below w0.heap.size w0 w4 := H2.out.2.2.1.trans (b4.mono H2.out.2.2.1.size)
  have H4 := Lib.hid (And.intro ((b4.block _ H2.out.2.2.2.2.1).trans H2.out.1) (And.intro (H2.out.2.1.below b4) (And.intro b5 (cell_of_row w4 W.heap.size 0 _ _ (0, 0) ((b5.block _ HX.out.2.2.2).trans HX.out.2.2.1)))))
  clear b3 b4 b5 HA
  go_upto_region 12 with fail
  rw [← hw4]
  clear hw4
  go_wp2_with fail
  refine (HBh.out w4 H4.out.2.1 H4.out.2.2.2 (Nat.lt_of_lt_of_le HX.out.2.2.2 H4.out.2.2.1.size)).mono ?_
  rintro _ w5 ⟨rfl, b6⟩
  obtain ⟨w6, hw6⟩ : ∃ X, X = w5.alloc (.cells #[.int .u64 0, .int .u64 0] TRn) := ⟨_, rfl⟩
  have b7 : Below w4.heap.size w4 w6 := by rw [hw6]; exact b6.alloc b6.size _
  have b8 : Below w0.heap.size w0 w6 := H4.out.2.2.1.trans (b7.mono H4.out.2.2.1.size)
  have hR6 := (b7.block _ (Array.getElem?_eq_some_iff.1 H4.out.1).1).trans H4.out.1
  have r0 : w6.drew.cell? ⟨R, 0, none⟩ = some (.int .u64 n) := cell_of_row w6 R 0 _ _ (0, 0) hR6
  have r1 : w6.drew.cell? ⟨R, 1, none⟩ = some (.int .u64 1) := cell_of_row w6 R 1 _ _ (0, 0) hR6
  have H6 := Lib.hid (And.intro (H4.out.2.1.below b7).drew b8)
  clear b6 b7 b8 hR6 HBh
  go_upto_region 15 with fail
  rw [← hw6]
  clear hw6
  refine wp_region_held_drew (S := fun _ => True) (by kernel_rfl) trivial (fun _ => ?_)
  refine wpAnyH_take (i := 0) (oi := _) (v := ?_) rfl (by kernel_rfl) (by kernel_rfl) (by kernel_rfl) (fun _ _ _ h => h) (Or.inl ⟨by rfl, ?_⟩) (by assumption) ?_
  rotate_left
  · (intro W hSw; (try dsimp only at hSw); go_simp; try with_reducible rfl)
  try simp only [Act.put, List.getElem_toArray, List.getElem_cons_zero, List.setIfInBounds_toArray, List.set_cons_zero, List.set_cons_succ]
  refine wpAnyH_take (i := 1) (oi := _) (v := ?_) rfl (by kernel_rfl) (by kernel_rfl) (by kernel_rfl) (fun _ _ _ h => h) (Or.inl ⟨by rfl, ?_⟩) (by assumption) ?_
  rotate_left
  · (intro W hSw; (try dsimp only at hSw); go_simp; try with_reducible rfl)
  try simp only [Act.put, List.getElem_toArray, List.getElem_cons_succ, List.getElem_cons_zero, List.setIfInBounds_toArray, List.set_cons_zero, List.set_cons_succ]
  refine wpAnyH_take (i := 2) (oi := _) (v := ?_) rfl (by kernel_rfl) (by kernel_rfl) (by kernel_rfl) (fun _ _ _ h => h) (Or.inl ⟨by rfl, ?_⟩) (by assumption) ?_
  rotate_left
  · (intro W hSw; (try dsimp only at hSw); go_simp; try with_reducible rfl)
  try simp only [Act.put, List.getElem_toArray, List.getElem_cons_succ, List.getElem_cons_zero, List.setIfInBounds_toArray, List.set_cons_zero, List.set_cons_succ]
  refine wpAnyH_take (i := 3) (oi := _) (v := ?_) rfl (by kernel_rfl) (by kernel_rfl) (by kernel_rfl) (fun _ _ _ h => h) (Or.inl ⟨by rfl, ?_⟩) (by assumption) ?_
  rotate_left
  · (intro W hSw; (try dsimp only at hSw); go_simp; try with_reducible rfl)
  try simp only [Act.put, List.getElem_toArray, List.getElem_cons_succ, List.getElem_cons_zero, List.setIfInBounds_toArray, List.set_cons_zero, List.set_cons_succ]
  refine wpAnyH_ready (rs := [4]) (by kernel_rfl) (by simp) ?_
  refine AllReadyH.cons rfl (fun K hK => ?_) AllReadyH.nil
  simp only [List.getElem_toArray, List.getElem_cons_succ, List.getElem_cons_zero]
  rw [if_pos (by rfl)]
  go_simp
  refine hK.out _ _ trivial (fun _ => ?_)
  clear hK K
  try simp only [Act.put, List.getElem_toArray, List.getElem_cons_succ, List.getElem_cons_zero, List.setIfInBounds_toArray, List.set_cons_zero, List.set_cons_succ]
  refine wpAnyH_take (i := 5) (oi := _) (v := ?_) rfl (by kernel_rfl) (by kernel_rfl) (by kernel_rfl) (fun _ _ _ h => h) (Or.inl ⟨by rfl, ?_⟩) (by assumption) ?_
  rotate_left
  · (intro W hSw; (try dsimp only at hSw); go_simp; try with_reducible rfl)
  try simp only [Act.put, List.getElem_toArray, List.getElem_cons_succ, List.getElem_cons_zero, List.setIfInBounds_toArray, List.set_cons_zero, List.set_cons_succ]
  refine wpAnyH_ready (rs := [6]) (by kernel_rfl) (by simp) ?_
  refine AllReadyH.cons rfl (fun K hK => ?_) AllReadyH.nil
  simp only [List.getElem_toArray, List.getElem_cons_succ, List.getElem_cons_zero]
  rw [if_pos (by rfl)]
  go_simp
  refine (HPu.out _ H6.out.1 (Nat.le_trans HB.out (Nat.le_trans HX.out.2.1.size H6.out.2.size))).mono ?_
  rintro _ w7 ⟨rfl, v7, h7, b7, f7⟩
  have HE := Lib.hid (And.intro h7 (And.intro (((HX.out.2.1.trans (H6.out.2.mono HX.out.2.1.size)).drew.mono HB.out).trans b7) ((Fr.of_below ((HX.out.2.1.trans (H6.out.2.mono HX.out.2.1.size)).drew)).trans f7)))
  clear h7 b7 f7
  go_wp2_with fail
  refine hK.out _ _ trivial (fun _ => ?_)
  clear hK K
  try simp only [Act.put, List.getElem_toArray, List.getElem_cons_succ, List.getElem_cons_zero, List.setIfInBounds_toArray, List.set_cons_zero, List.set_cons_succ]
  refine wpAnyH_done (by kernel_rfl) ?_ _
  clear r0 r1
  go_wp2
  go_ret
  exact ⟨rfl, _, HE.out⟩
end Go.Proofs.YtpkkomifenlkaaaGreat.Gp
