/- The program's words of what an operation told. -/
import Derived.Test.YtpakefgbjncdiadDoorRepJoin
import Derived.Great.BuildSlice
import Derived.Great.Walk
import Derived.Deep.Cut
import Derived.Deep.RegionHeld3
namespace Go.Proofs.YtpakefgbjncdiadDoor.Rep
open Go Go.RowKit Num Dec packetKeys

set_option maxRecDepth 100000 in
set_option maxHeartbeats 2000000 in
theorem ret_err (k e : Int) (ep n many : Nat) (ho : (R4.mk e ep n many).ok) (hk : e ≠ 0) (w : World) (ht : Tab w) :
    Calls Tryd.prog 7 #[.int .i64 k, .agg #[.int .i64 e, .int .u64 (ep : Int), .int .u64 (n : Int), .int .u64 (many : Int)]] w fun r w' => r = .returned (.string (retB k ⟨e, ep, n, many⟩)) ∧ Below w.heap.size w w' := by
  obtain ⟨hep, hn, hm⟩ := ho
  dsimp only at hep hn hm
  obtain ⟨E, hE⟩ : ∃ E, E = retB k ⟨e, ep, n, many⟩ := ⟨_, rfl⟩
  rw [← hE]
  unfold retB at hE
  dsimp only at hE
  rw [if_pos hk] at hE
  have hp := wordC_size e
  have hy := decW_size n hn
  have hz := decW_size ep hep
  have hm5 := decW_size many hm
  have hb : (e != 0) = true := by simpa using hk
  have HP := Lib.hid (fun W => word_p e W)
  have HN := Lib.hid (fun W h => number_any n hn W h)
  have HM := Lib.hid (fun W h => number_any many hm W h)
  have HZ := Lib.hid (fun W h => number_any ep hep W h)
  generalize wordC e = P at *
  generalize decW n = N at *
  generalize decW many = M at *
  generalize decW ep = Z at *
  have HE := Lib.hid hE
  have hX := BX.new w 29 #[.int .i64 e, .int .u64 (ep : Int), .int .u64 (n : Int), .int .u64 (many : Int)] ht
  have HT := Lib.hid ht
  clear hE hep hn hm ht
  go_enter Tryd.func7, Tryd.ntmps7
  go_upto_region 1 with fail
  obtain ⟨W0, hW0⟩ : ∃ X, X = w.alloc (.cells #[.int .i64 e, .int .u64 (ep : Int), .int .u64 (n : Int), .int .u64 (many : Int)] 29) := ⟨_, rfl⟩
  rw [← hW0] at hX ⊢
  clear hW0
  obtain ⟨x0, x1, x2, x3⟩ : _ ∧ _ ∧ _ ∧ _ := ⟨cell_of_row W0 _ 0 _ _ (0, 0) hX.2, cell_of_row W0 _ 1 _ _ (0, 0) hX.2, cell_of_row W0 _ 2 _ _ (0, 0) hX.2, cell_of_row W0 _ 3 _ _ (0, 0) hX.2⟩
  have HX := Lib.hid hX
  clear hX
  go_wp2_with fail
  refine (HP.out _).mono ?_
  rintro _ w1 ⟨rfl, b1⟩
  have HX1 := Lib.hid (HX.out.call b1)
  clear b1 HX x0 x1 x2 x3
  obtain ⟨x0, x1, x2, x3⟩ : _ ∧ _ ∧ _ ∧ _ := ⟨cell_of_row w1 _ 0 _ _ (0, 0) HX1.out.2, cell_of_row w1 _ 1 _ _ (0, 0) HX1.out.2, cell_of_row w1 _ 2 _ _ (0, 0) HX1.out.2, cell_of_row w1 _ 3 _ _ (0, 0) HX1.out.2⟩
  obtain ⟨i0, hi, hz0, hz1, hz2⟩ := info_parts infoS
  have HI := Lib.hid (And.intro hz2 (And.intro hz0 (And.intro hz1 hi)))
  clear hi hz0 hz1 hz2
  clear x0 x1 x2 x3
  go_upto_region 2 with fail
  have HO1 := Lib.hid (own_new w1 (w.heap.size + 1) 1 #[.string P] rfl (Array.getElem?_eq_some_iff.1 HX1.out.2).1 (by decide))
  have HX2 := Lib.hid (HX1.out.call ((Below.refl _ _).alloc (Nat.le_refl _) (.cells #[.string P] 9)))
  obtain ⟨g, hg⟩ : ∃ g, g = w1.heap.size := ⟨_, rfl⟩
  obtain ⟨W2, hW2⟩ : ∃ X, X = w1.alloc (.cells #[.string P] 9) := ⟨_, rfl⟩
  rw [← hW2] at HX2 HO1 ⊢
  rw [← hg] at HO1 ⊢
  clear hg hW2 HX1
  obtain ⟨x0, x1, x2, x3⟩ : _ ∧ _ ∧ _ ∧ _ := ⟨cell_of_row W2 _ 0 _ _ (0, 0) HX2.out.2, cell_of_row W2 _ 1 _ _ (0, 0) HX2.out.2, cell_of_row W2 _ 2 _ _ (0, 0) HX2.out.2, cell_of_row W2 _ 3 _ _ (0, 0) HX2.out.2⟩
  have hc : W2.cell? ⟨g, 0, none⟩ = some (.string P) := HO1.out.cells (g := g) rfl 0 (.string P) rfl
  clear HI
  go_wp2
  go_ret
  exact ⟨by rw [HE.out]; rfl, HX2.out.1.1⟩

set_option maxRecDepth 100000 in
set_option maxHeartbeats 2000000 in
theorem ret_6 (k e : Int) (ep n many : Nat) (ho : (R4.mk e ep n many).ok) (he : e = 0) (hk : k = 6) (w : World) (ht : Tab w) :
    Calls Tryd.prog 7 #[.int .i64 k, .agg #[.int .i64 e, .int .u64 (ep : Int), .int .u64 (n : Int), .int .u64 (many : Int)]] w fun r w' => r = .returned (.string (retB k ⟨e, ep, n, many⟩)) ∧ Below w.heap.size w w' := by
  obtain ⟨hep, hn, hm⟩ := ho
  dsimp only at hep hn hm
  subst he
  subst hk
  obtain ⟨E, hE⟩ : ∃ E, E = retB 6 ⟨0, ep, n, many⟩ := ⟨_, rfl⟩
  rw [← hE]
  unfold retB at hE
  dsimp only at hE
  rw [if_neg (by simp), if_pos rfl] at hE
  have hp := wordC_size 0
  have hy := decW_size n hn
  have hz := decW_size ep hep
  have hm5 := decW_size many hm
  have HP := Lib.hid (fun W => word_p 0 W)
  have HN := Lib.hid (fun W h => number_any n hn W h)
  have HM := Lib.hid (fun W h => number_any many hm W h)
  have HZ := Lib.hid (fun W h => number_any ep hep W h)
  generalize wordC 0 = P at *
  generalize decW n = N at *
  generalize decW many = M at *
  generalize decW ep = Z at *
  have HE := Lib.hid hE
  have hX := BX.new w 29 #[.int .i64 0, .int .u64 (ep : Int), .int .u64 (n : Int), .int .u64 (many : Int)] ht
  have HT := Lib.hid ht
  clear hE hep hn hm ht
  go_enter Tryd.func7, Tryd.ntmps7
  go_upto_region 1 with fail
  obtain ⟨W0, hW0⟩ : ∃ X, X = w.alloc (.cells #[.int .i64 0, .int .u64 (ep : Int), .int .u64 (n : Int), .int .u64 (many : Int)] 29) := ⟨_, rfl⟩
  rw [← hW0] at hX ⊢
  clear hW0
  obtain ⟨x0, x1, x2, x3⟩ : _ ∧ _ ∧ _ ∧ _ := ⟨cell_of_row W0 _ 0 _ _ (0, 0) hX.2, cell_of_row W0 _ 1 _ _ (0, 0) hX.2, cell_of_row W0 _ 2 _ _ (0, 0) hX.2, cell_of_row W0 _ 3 _ _ (0, 0) hX.2⟩
  have HX := Lib.hid hX
  clear hX
  go_wp2_with fail
  refine (HP.out _).mono ?_
  rintro _ w1 ⟨rfl, b1⟩
  have HX1 := Lib.hid (HX.out.call b1)
  clear b1 HX x0 x1 x2 x3
  obtain ⟨x0, x1, x2, x3⟩ : _ ∧ _ ∧ _ ∧ _ := ⟨cell_of_row w1 _ 0 _ _ (0, 0) HX1.out.2, cell_of_row w1 _ 1 _ _ (0, 0) HX1.out.2, cell_of_row w1 _ 2 _ _ (0, 0) HX1.out.2, cell_of_row w1 _ 3 _ _ (0, 0) HX1.out.2⟩
  obtain ⟨i0, hi, hz0, hz1, hz2⟩ := info_parts infoS
  have HI := Lib.hid (And.intro hz2 (And.intro hz0 (And.intro hz1 hi)))
  clear hi hz0 hz1 hz2
  clear x0 x1 x2 x3
  go_upto_region 2 with fail
  have HO1 := Lib.hid (own_new w1 (w.heap.size + 1) 1 #[.string P] rfl (Array.getElem?_eq_some_iff.1 HX1.out.2).1 (by decide))
  have HX2 := Lib.hid (HX1.out.call ((Below.refl _ _).alloc (Nat.le_refl _) (.cells #[.string P] 9)))
  obtain ⟨g, hg⟩ : ∃ g, g = w1.heap.size := ⟨_, rfl⟩
  obtain ⟨W2, hW2⟩ : ∃ X, X = w1.alloc (.cells #[.string P] 9) := ⟨_, rfl⟩
  rw [← hW2] at HX2 HO1 ⊢
  rw [← hg] at HO1 ⊢
  clear hg hW2 HX1
  obtain ⟨x0, x1, x2, x3⟩ : _ ∧ _ ∧ _ ∧ _ := ⟨cell_of_row W2 _ 0 _ _ (0, 0) HX2.out.2, cell_of_row W2 _ 1 _ _ (0, 0) HX2.out.2, cell_of_row W2 _ 2 _ _ (0, 0) HX2.out.2, cell_of_row W2 _ 3 _ _ (0, 0) HX2.out.2⟩
  go_upto_region 8 with fail
  have h8 := And.intro HX2.out.drew (World.ownsRow.drew HO1.out)
  clear x0 x1 x2 x3
  refine wp_region_held_drew (S := (fun W => BX w 29 #[.int .i64 0, .int .u64 (ep : Int), .int .u64 (n : Int), .int .u64 (many : Int)] W ∧ W.ownsRow (w.heap.size + 1) 9 1 (.slice (some ⟨g, 0, none⟩) 1 1) 1 [.string P])) (by kernel_rfl) h8 (fun hHeld => ?_)
  refine wpAnyH_take (i := 0) (oi := _) (v := ?_) rfl (by kernel_rfl) (by kernel_rfl) (by kernel_rfl) (fun _ _ _ h => h) (Or.inl ⟨by rfl, ?_⟩) (by assumption) ?_
  rotate_left
  · (intro W hSw; clear hSw; go_simp; try with_reducible rfl)
  try simp only [Act.put, List.getElem_toArray, List.getElem_cons_zero, List.setIfInBounds_toArray, List.set_cons_zero, List.set_cons_succ]
  refine wpAnyH_take (i := 1) (oi := _) (v := ?_) rfl (by kernel_rfl) (by kernel_rfl) (by kernel_rfl) (fun _ _ _ h => h) (Or.inl ⟨by rfl, ?_⟩) (by assumption) ?_
  rotate_left
  · (intro W hSw; clear hSw; go_simp; try with_reducible rfl)
  try simp only [Act.put, List.getElem_toArray, List.getElem_cons_succ, List.getElem_cons_zero, List.setIfInBounds_toArray, List.set_cons_zero, List.set_cons_succ]
  refine wpAnyH_take (i := 2) (oi := _) (v := ?_) rfl (by kernel_rfl) (by kernel_rfl) (by kernel_rfl) (fun _ _ _ h => h) (Or.inl ⟨by rfl, ?_⟩) (by assumption) ?_
  rotate_left
  · (intro W hSw; (obtain ⟨y0, y1, y2, y3⟩ : _ ∧ _ ∧ _ ∧ _ := ⟨cell_of_row W _ 0 _ _ (0, 0) hSw.1.2, cell_of_row W _ 1 _ _ (0, 0) hSw.1.2, cell_of_row W _ 2 _ _ (0, 0) hSw.1.2, cell_of_row W _ 3 _ _ (0, 0) hSw.1.2⟩; clear hSw; go_simp; try with_reducible rfl))
  try simp only [Act.put, List.getElem_toArray, List.getElem_cons_succ, List.getElem_cons_zero, List.setIfInBounds_toArray, List.set_cons_zero, List.set_cons_succ]
  refine wpAnyH_take (i := 4) (oi := _) (v := ?_) rfl (by kernel_rfl) (by kernel_rfl) (by kernel_rfl) (fun _ _ _ h => h) (Or.inl ⟨by rfl, ?_⟩) (by assumption) ?_
  rotate_left
  · (intro W hSw; clear hSw; go_simp; try with_reducible rfl)
  try simp only [Act.put, List.getElem_toArray, List.getElem_cons_succ, List.getElem_cons_zero, List.setIfInBounds_toArray, List.set_cons_zero, List.set_cons_succ]
  refine wpAnyH_take (i := 5) (oi := _) (v := ?_) rfl (by kernel_rfl) (by kernel_rfl) (by kernel_rfl) (fun _ _ _ h => h) (Or.inl ⟨by rfl, ?_⟩) (by assumption) ?_
  rotate_left
  · (intro W hSw; (obtain ⟨y0, y1, y2, y3⟩ : _ ∧ _ ∧ _ ∧ _ := ⟨cell_of_row W _ 0 _ _ (0, 0) hSw.1.2, cell_of_row W _ 1 _ _ (0, 0) hSw.1.2, cell_of_row W _ 2 _ _ (0, 0) hSw.1.2, cell_of_row W _ 3 _ _ (0, 0) hSw.1.2⟩; clear hSw; go_simp; try with_reducible rfl))
  try simp only [Act.put, List.getElem_toArray, List.getElem_cons_succ, List.getElem_cons_zero, List.setIfInBounds_toArray, List.set_cons_zero, List.set_cons_succ]
  refine wpAnyH_ready (rs := [3]) (by kernel_rfl) (by simp) ?_
  refine AllReadyH.cons rfl (fun K hK => ?_) AllReadyH.nil
  simp only [List.getElem_toArray, List.getElem_cons_succ, List.getElem_cons_zero]
  rw [if_pos (by rfl)]
  go_simp
  (go_at_call 15; refine (HN.out _ hHeld.1.1.2).mono ?_; rintro _ v1 ⟨rfl, b1⟩; have g1 := And.intro (hHeld.1.call b1) (own_below hHeld.2 b1))
  go_wp2_with fail
  refine hK.out _ _ g1 (fun hHeld => ?_)
  clear hK K
  try simp only [Act.put, List.getElem_toArray, List.getElem_cons_succ, List.getElem_cons_zero, List.setIfInBounds_toArray, List.set_cons_zero, List.set_cons_succ]
  refine wpAnyH_ready (rs := [6]) (by kernel_rfl) (by simp) ?_
  refine AllReadyH.cons rfl (fun K hK => ?_) AllReadyH.nil
  simp only [List.getElem_toArray, List.getElem_cons_succ, List.getElem_cons_zero]
  rw [if_pos (by rfl)]
  go_simp
  (go_at_call 15; refine (HM.out _ g1.1.1.2).mono ?_; rintro _ v2 ⟨rfl, b2⟩; have g2 := And.intro (g1.1.call b2) (own_below g1.2 b2))
  go_wp2_with fail
  refine hK.out _ _ g2 (fun hHeld => ?_)
  clear hK K
  try simp only [Act.put, List.getElem_toArray, List.getElem_cons_succ, List.getElem_cons_zero, List.setIfInBounds_toArray, List.set_cons_zero, List.set_cons_succ]
  refine wpAnyH_ready (rs := [7]) (by kernel_rfl) (by simp) ?_
  refine AllReadyH.cons rfl (fun K hK => ?_) AllReadyH.nil
  simp only [List.getElem_toArray, List.getElem_cons_succ, List.getElem_cons_zero]
  rw [if_pos (by rfl)]
  go_simp
  refine hK.out _ _ (And.intro (g2.1.call ((Below.refl _ _).alloc (Nat.le_refl _) _)) (World.ownsRow.alloc g2.2 _)) (fun hHeld => ?_)
  clear hK K
  try simp only [Act.put, List.getElem_toArray, List.getElem_cons_succ, List.getElem_cons_zero, List.setIfInBounds_toArray, List.set_cons_zero, List.set_cons_succ]
  refine wpAnyH_ready (rs := [8]) (by kernel_rfl) (by simp) ?_
  refine AllReadyH.cons rfl (fun K hK => ?_) AllReadyH.nil
  simp only [List.getElem_toArray, List.getElem_cons_succ, List.getElem_cons_zero]
  rw [if_pos (by rfl)]
  (refine wp_append_keep _ _ _ _ (by rfl) (w.heap.size + 1) 9 i0 _ 1 16 Tryd.underlying38 HI.out.2.2.2 HI.out.2.1 HI.out.2.2.1 HI.out.1 rfl (by decide) _ _ _ (by rfl) (World.ownsRow.alloc g2.2 _) ⟨v2.heap.size, 0, none⟩ 2 2 [.string N, .string M] (by rfl) rfl (news_new v2 #[.string N, .string M] _) (strs_one [N, M]) (by decide) (by unfold maxLen; omega) (by omega) (by have := g2.1.1.1.size; have := (Array.getElem?_eq_some_iff.1 g2.1.2).1; simp; omega) (v2.heap.size + 1) (by simp) ?_; intro gg cap2 w5 hown5 hg5 hat5 hold5; have hS5 := And.intro (BX.push HT.out g2.1 g2.2 hg5) hold5)
  refine hK.out _ _ hS5 (fun hHeld => ?_)
  clear hK K
  try simp only [Act.put, List.setIfInBounds_toArray, List.set_cons_zero, List.set_cons_succ]
  refine wpAnyH_take (i := 9) (oi := _) (v := ?_) rfl (by kernel_rfl) (by kernel_rfl) (by kernel_rfl) (fun _ _ _ h => h) (Or.inl ⟨by rfl, ?_⟩) (by assumption) ?_
  rotate_left
  · (intro W hSw; clear hSw; go_simp; try with_reducible rfl)
  try simp only [Act.put, List.getElem_toArray, List.getElem_cons_succ, List.getElem_cons_zero, List.setIfInBounds_toArray, List.set_cons_zero, List.set_cons_succ]
  refine wpAnyH_done (by kernel_rfl) ?_ _
  have HX3 := Lib.hid hS5.1
  have HO3 := Lib.hid hown5
  clear h8 g1 g2 b1 b2 HX2 HO1 hS5 hown5 hg5 hat5 hold5
  obtain ⟨x0, x1, x2, x3⟩ : _ ∧ _ ∧ _ ∧ _ := ⟨cell_of_row w5 _ 0 _ _ (0, 0) HX3.out.2, cell_of_row w5 _ 1 _ _ (0, 0) HX3.out.2, cell_of_row w5 _ 2 _ _ (0, 0) HX3.out.2, cell_of_row w5 _ 3 _ _ (0, 0) HX3.out.2⟩
  go_wp2_with fail
  refine (HZ.out _ HX3.out.1.2).mono ?_
  rintro _ w6 ⟨rfl, b1⟩
  have HX6 := Lib.hid (HX3.out.call b1)
  have HO6 := Lib.hid (own_below HO3.out b1)
  clear b1 HX3 HO3 x0 x1 x2 x3
  have hsz6 := HX6.out.1.1.size
  have hlt6 := (Array.getElem?_eq_some_iff.1 HX6.out.2).1
  go_wp2_with (at_builtin; refine wpList_append_own _ rfl _ _ 38 rfl (w.heap.size + 1) 9 i0 (.string ⟨#[]⟩) 1 16 Tryd.underlying38 HI.out.2.2.2 HI.out.2.1 HI.out.2.2.1 HI.out.1 rfl (by decide) _ _ _ rfl (HO6.out.alloc _) ⟨w6.heap.size, 0, none⟩ 2 2 [.string ⟨#[105, 110]⟩, .string Z] rfl rfl (news_new w6 #[.string ⟨#[105, 110]⟩, .string Z] _) (strs_one [⟨#[105, 110]⟩, Z]) (by unfold maxLen; omega) (by omega) (by simp; omega) ?_; intro v7 w7 hown7 hg7 _)
  have HX7 := Lib.hid (BX.push HT.out HX6.out HO6.out hg7)
  have HO7 := Lib.hid hown7
  clear hown7 hg7 HX6 HO6 hsz6 hlt6
  have hj : joinB [P, N, M, ⟨#[105, 110]⟩, Z] = E := by
    rw [HE.out]
    simp only [join_cons, join_one]
    exact ext_l (by simp)
  have hjs : (joinB [P, N, M, ⟨#[105, 110]⟩, Z]).size ≤ 1000000 := by
    rw [hj, HE.out]
    simp only [ByteArray.size_append]
    simp only [show (⟨#[32]⟩ : ByteArray).size = 1 from rfl, show (⟨#[32, 105, 110, 32]⟩ : ByteArray).size = 4 from rfl]
    omega
  have HJ := Lib.hid (join_own _ v7 [P, N, M, ⟨#[105, 110]⟩, Z] _ HO7.out (by simp) (by simp) hjs)
  rw [hj] at HJ
  clear hj hjs
  refine HJ.out.mono ?_
  rintro _ w8 ⟨rfl, b1⟩
  have HX8 := Lib.hid (HX7.out.1.1.trans (b1.mono HX7.out.1.1.size))
  clear b1 HJ
  go_wp2
  go_ret
  exact ⟨rfl, HX8.out⟩

set_option maxRecDepth 100000 in
set_option maxHeartbeats 2000000 in
theorem ret_9 (k e : Int) (ep n many : Nat) (ho : (R4.mk e ep n many).ok) (he : e = 0) (hk : k = 9) (w : World) (ht : Tab w) :
    Calls Tryd.prog 7 #[.int .i64 k, .agg #[.int .i64 e, .int .u64 (ep : Int), .int .u64 (n : Int), .int .u64 (many : Int)]] w fun r w' => r = .returned (.string (retB k ⟨e, ep, n, many⟩)) ∧ Below w.heap.size w w' := by
  obtain ⟨hep, hn, hm⟩ := ho
  dsimp only at hep hn hm
  subst he
  subst hk
  obtain ⟨E, hE⟩ : ∃ E, E = retB 9 ⟨0, ep, n, many⟩ := ⟨_, rfl⟩
  rw [← hE]
  unfold retB at hE
  dsimp only at hE
  rw [if_neg (by simp), if_neg (by omega), if_pos rfl] at hE
  have hp := wordC_size 0
  have hy := decW_size n hn
  have hz := decW_size ep hep
  have hm5 := decW_size many hm
  have HP := Lib.hid (fun W => word_p 0 W)
  have HN := Lib.hid (fun W h => number_any n hn W h)
  have HM := Lib.hid (fun W h => number_any many hm W h)
  have HZ := Lib.hid (fun W h => number_any ep hep W h)
  generalize wordC 0 = P at *
  generalize decW n = N at *
  generalize decW many = M at *
  generalize decW ep = Z at *
  have HE := Lib.hid hE
  have hX := BX.new w 29 #[.int .i64 0, .int .u64 (ep : Int), .int .u64 (n : Int), .int .u64 (many : Int)] ht
  have HT := Lib.hid ht
  clear hE hep hn hm ht
  go_enter Tryd.func7, Tryd.ntmps7
  go_upto_region 1 with fail
  obtain ⟨W0, hW0⟩ : ∃ X, X = w.alloc (.cells #[.int .i64 0, .int .u64 (ep : Int), .int .u64 (n : Int), .int .u64 (many : Int)] 29) := ⟨_, rfl⟩
  rw [← hW0] at hX ⊢
  clear hW0
  obtain ⟨x0, x1, x2, x3⟩ : _ ∧ _ ∧ _ ∧ _ := ⟨cell_of_row W0 _ 0 _ _ (0, 0) hX.2, cell_of_row W0 _ 1 _ _ (0, 0) hX.2, cell_of_row W0 _ 2 _ _ (0, 0) hX.2, cell_of_row W0 _ 3 _ _ (0, 0) hX.2⟩
  have HX := Lib.hid hX
  clear hX
  go_wp2_with fail
  refine (HP.out _).mono ?_
  rintro _ w1 ⟨rfl, b1⟩
  have HX1 := Lib.hid (HX.out.call b1)
  clear b1 HX x0 x1 x2 x3
  obtain ⟨x0, x1, x2, x3⟩ : _ ∧ _ ∧ _ ∧ _ := ⟨cell_of_row w1 _ 0 _ _ (0, 0) HX1.out.2, cell_of_row w1 _ 1 _ _ (0, 0) HX1.out.2, cell_of_row w1 _ 2 _ _ (0, 0) HX1.out.2, cell_of_row w1 _ 3 _ _ (0, 0) HX1.out.2⟩
  obtain ⟨i0, hi, hz0, hz1, hz2⟩ := info_parts infoS
  have HI := Lib.hid (And.intro hz2 (And.intro hz0 (And.intro hz1 hi)))
  clear hi hz0 hz1 hz2
  clear x0 x1 x2 x3
  go_upto_region 2 with fail
  have HO1 := Lib.hid (own_new w1 (w.heap.size + 1) 1 #[.string P] rfl (Array.getElem?_eq_some_iff.1 HX1.out.2).1 (by decide))
  have HX2 := Lib.hid (HX1.out.call ((Below.refl _ _).alloc (Nat.le_refl _) (.cells #[.string P] 9)))
  obtain ⟨g, hg⟩ : ∃ g, g = w1.heap.size := ⟨_, rfl⟩
  obtain ⟨W2, hW2⟩ : ∃ X, X = w1.alloc (.cells #[.string P] 9) := ⟨_, rfl⟩
  rw [← hW2] at HX2 HO1 ⊢
  rw [← hg] at HO1 ⊢
  clear hg hW2 HX1
  obtain ⟨x0, x1, x2, x3⟩ : _ ∧ _ ∧ _ ∧ _ := ⟨cell_of_row W2 _ 0 _ _ (0, 0) HX2.out.2, cell_of_row W2 _ 1 _ _ (0, 0) HX2.out.2, cell_of_row W2 _ 2 _ _ (0, 0) HX2.out.2, cell_of_row W2 _ 3 _ _ (0, 0) HX2.out.2⟩
  go_wp2_with fail
  refine (HZ.out _ HX2.out.1.2).mono ?_
  rintro _ w6 ⟨rfl, b1⟩
  have HX6 := Lib.hid (HX2.out.call b1)
  have HO6 := Lib.hid (own_below HO1.out b1)
  clear b1 HX2 HO1 x0 x1 x2 x3
  have hsz6 := HX6.out.1.1.size
  have hlt6 := (Array.getElem?_eq_some_iff.1 HX6.out.2).1
  go_wp2_with (at_builtin; refine wpList_append_own _ rfl _ _ 38 rfl (w.heap.size + 1) 9 i0 (.string ⟨#[]⟩) 1 16 Tryd.underlying38 HI.out.2.2.2 HI.out.2.1 HI.out.2.2.1 HI.out.1 rfl (by decide) _ _ _ rfl (HO6.out.alloc _) ⟨w6.heap.size, 0, none⟩ 2 2 [.string ⟨#[105, 110]⟩, .string Z] rfl rfl (news_new w6 #[.string ⟨#[105, 110]⟩, .string Z] _) (strs_one [⟨#[105, 110]⟩, Z]) (by unfold maxLen; omega) (by omega) (by simp; omega) ?_; intro v7 w7 hown7 hg7 _)
  have HX7 := Lib.hid (BX.push HT.out HX6.out HO6.out hg7)
  have HO7 := Lib.hid hown7
  clear hown7 hg7 HX6 HO6 hsz6 hlt6
  have hj : joinB [P, ⟨#[105, 110]⟩, Z] = E := by
    rw [HE.out]
    simp only [join_cons, join_one]
    exact ext_l (by simp)
  have hjs : (joinB [P, ⟨#[105, 110]⟩, Z]).size ≤ 1000000 := by
    rw [hj, HE.out]
    simp only [ByteArray.size_append]
    simp only [show (⟨#[32, 105, 110, 32]⟩ : ByteArray).size = 4 from rfl]
    omega
  have HJ := Lib.hid (join_own _ v7 [P, ⟨#[105, 110]⟩, Z] _ HO7.out (by simp) (by simp) hjs)
  rw [hj] at HJ
  clear hj hjs
  refine HJ.out.mono ?_
  rintro _ w8 ⟨rfl, b1⟩
  have HX8 := Lib.hid (HX7.out.1.1.trans (b1.mono HX7.out.1.1.size))
  clear b1 HJ
  go_wp2
  go_ret
  exact ⟨rfl, HX8.out⟩

set_option maxRecDepth 100000 in
set_option maxHeartbeats 2000000 in
theorem ret_10 (k e : Int) (ep n many : Nat) (ho : (R4.mk e ep n many).ok) (he : e = 0) (hk : k = 10) (w : World) (ht : Tab w) :
    Calls Tryd.prog 7 #[.int .i64 k, .agg #[.int .i64 e, .int .u64 (ep : Int), .int .u64 (n : Int), .int .u64 (many : Int)]] w fun r w' => r = .returned (.string (retB k ⟨e, ep, n, many⟩)) ∧ Below w.heap.size w w' := by
  obtain ⟨hep, hn, hm⟩ := ho
  dsimp only at hep hn hm
  subst he
  subst hk
  obtain ⟨E, hE⟩ : ∃ E, E = retB 10 ⟨0, ep, n, many⟩ := ⟨_, rfl⟩
  rw [← hE]
  unfold retB at hE
  dsimp only at hE
  rw [if_neg (by simp), if_neg (by omega), if_neg (by omega), if_pos rfl] at hE
  have hp := wordC_size 0
  have hy := decW_size n hn
  have hz := decW_size ep hep
  have hm5 := decW_size many hm
  have HP := Lib.hid (fun W => word_p 0 W)
  have HN := Lib.hid (fun W h => number_any n hn W h)
  have HM := Lib.hid (fun W h => number_any many hm W h)
  have HZ := Lib.hid (fun W h => number_any ep hep W h)
  generalize wordC 0 = P at *
  generalize decW n = N at *
  generalize decW many = M at *
  generalize decW ep = Z at *
  have HE := Lib.hid hE
  have hX := BX.new w 29 #[.int .i64 0, .int .u64 (ep : Int), .int .u64 (n : Int), .int .u64 (many : Int)] ht
  have HT := Lib.hid ht
  clear hE hep hn hm ht
  go_enter Tryd.func7, Tryd.ntmps7
  go_upto_region 1 with fail
  obtain ⟨W0, hW0⟩ : ∃ X, X = w.alloc (.cells #[.int .i64 0, .int .u64 (ep : Int), .int .u64 (n : Int), .int .u64 (many : Int)] 29) := ⟨_, rfl⟩
  rw [← hW0] at hX ⊢
  clear hW0
  obtain ⟨x0, x1, x2, x3⟩ : _ ∧ _ ∧ _ ∧ _ := ⟨cell_of_row W0 _ 0 _ _ (0, 0) hX.2, cell_of_row W0 _ 1 _ _ (0, 0) hX.2, cell_of_row W0 _ 2 _ _ (0, 0) hX.2, cell_of_row W0 _ 3 _ _ (0, 0) hX.2⟩
  have HX := Lib.hid hX
  clear hX
  go_wp2_with fail
  refine (HP.out _).mono ?_
  rintro _ w1 ⟨rfl, b1⟩
  have HX1 := Lib.hid (HX.out.call b1)
  clear b1 HX x0 x1 x2 x3
  obtain ⟨x0, x1, x2, x3⟩ : _ ∧ _ ∧ _ ∧ _ := ⟨cell_of_row w1 _ 0 _ _ (0, 0) HX1.out.2, cell_of_row w1 _ 1 _ _ (0, 0) HX1.out.2, cell_of_row w1 _ 2 _ _ (0, 0) HX1.out.2, cell_of_row w1 _ 3 _ _ (0, 0) HX1.out.2⟩
  obtain ⟨i0, hi, hz0, hz1, hz2⟩ := info_parts infoS
  have HI := Lib.hid (And.intro hz2 (And.intro hz0 (And.intro hz1 hi)))
  clear hi hz0 hz1 hz2
  clear x0 x1 x2 x3
  go_upto_region 2 with fail
  have HO1 := Lib.hid (own_new w1 (w.heap.size + 1) 1 #[.string P] rfl (Array.getElem?_eq_some_iff.1 HX1.out.2).1 (by decide))
  have HX2 := Lib.hid (HX1.out.call ((Below.refl _ _).alloc (Nat.le_refl _) (.cells #[.string P] 9)))
  obtain ⟨g, hg⟩ : ∃ g, g = w1.heap.size := ⟨_, rfl⟩
  obtain ⟨W2, hW2⟩ : ∃ X, X = w1.alloc (.cells #[.string P] 9) := ⟨_, rfl⟩
  rw [← hW2] at HX2 HO1 ⊢
  rw [← hg] at HO1 ⊢
  clear hg hW2 HX1
  obtain ⟨x0, x1, x2, x3⟩ : _ ∧ _ ∧ _ ∧ _ := ⟨cell_of_row W2 _ 0 _ _ (0, 0) HX2.out.2, cell_of_row W2 _ 1 _ _ (0, 0) HX2.out.2, cell_of_row W2 _ 2 _ _ (0, 0) HX2.out.2, cell_of_row W2 _ 3 _ _ (0, 0) HX2.out.2⟩
  go_wp2_with fail
  refine (HN.out _ HX2.out.1.2).mono ?_
  rintro _ w6 ⟨rfl, b1⟩
  have HX6 := Lib.hid (HX2.out.call b1)
  have HO6 := Lib.hid (own_below HO1.out b1)
  clear b1 HX2 HO1 x0 x1 x2 x3
  have hsz6 := HX6.out.1.1.size
  have hlt6 := (Array.getElem?_eq_some_iff.1 HX6.out.2).1
  go_wp2_with (at_builtin; refine wpList_append_own _ rfl _ _ 38 rfl (w.heap.size + 1) 9 i0 (.string ⟨#[]⟩) 1 16 Tryd.underlying38 HI.out.2.2.2 HI.out.2.1 HI.out.2.2.1 HI.out.1 rfl (by decide) _ _ _ rfl (HO6.out.alloc _) ⟨w6.heap.size, 0, none⟩ 1 1 [.string N] rfl rfl (news_new w6 #[.string N] _) (strs_one [N]) (by unfold maxLen; omega) (by omega) (by simp; omega) ?_; intro v7 w7 hown7 hg7 _)
  have HX7 := Lib.hid (BX.push HT.out HX6.out HO6.out hg7)
  have HO7 := Lib.hid hown7
  clear hown7 hg7 HX6 HO6 hsz6 hlt6
  have hj : joinB [P, N] = E := by
    rw [HE.out]
    simp only [join_cons, join_one]
    exact ext_l (by simp)
  have hjs : (joinB [P, N]).size ≤ 1000000 := by
    rw [hj, HE.out]
    simp only [ByteArray.size_append]
    simp only [show (⟨#[32]⟩ : ByteArray).size = 1 from rfl]
    omega
  have HJ := Lib.hid (join_own _ v7 [P, N] _ HO7.out (by simp) (by simp) hjs)
  rw [hj] at HJ
  clear hj hjs
  refine HJ.out.mono ?_
  rintro _ w8 ⟨rfl, b1⟩
  have HX8 := Lib.hid (HX7.out.1.1.trans (b1.mono HX7.out.1.1.size))
  clear b1 HJ
  go_wp2
  go_ret
  exact ⟨rfl, HX8.out⟩

set_option maxRecDepth 100000 in
set_option maxHeartbeats 2000000 in
theorem ret_else (k e : Int) (ep n many : Nat) (ho : (R4.mk e ep n many).ok) (he : e = 0) (hk : k ≠ 6 ∧ k ≠ 9 ∧ k ≠ 10) (w : World) (ht : Tab w) :
    Calls Tryd.prog 7 #[.int .i64 k, .agg #[.int .i64 e, .int .u64 (ep : Int), .int .u64 (n : Int), .int .u64 (many : Int)]] w fun r w' => r = .returned (.string (retB k ⟨e, ep, n, many⟩)) ∧ Below w.heap.size w w' := by
  obtain ⟨hep, hn, hm⟩ := ho
  dsimp only at hep hn hm
  subst he
  obtain ⟨E, hE⟩ : ∃ E, E = retB k ⟨0, ep, n, many⟩ := ⟨_, rfl⟩
  rw [← hE]
  unfold retB at hE
  dsimp only at hE
  rw [if_neg (by simp), if_neg (by omega), if_neg (by omega), if_neg (by omega)] at hE
  have hp := wordC_size 0
  have hy := decW_size n hn
  have hz := decW_size ep hep
  have hm5 := decW_size many hm
  have k6 : (k == 6) = false := by simp; omega
  have k9 : (k == 9) = false := by simp; omega
  have k10 : (k == 10) = false := by simp; omega
  have HP := Lib.hid (fun W => word_p 0 W)
  have HN := Lib.hid (fun W h => number_any n hn W h)
  have HM := Lib.hid (fun W h => number_any many hm W h)
  have HZ := Lib.hid (fun W h => number_any ep hep W h)
  generalize wordC 0 = P at *
  generalize decW n = N at *
  generalize decW many = M at *
  generalize decW ep = Z at *
  have HE := Lib.hid hE
  have hX := BX.new w 29 #[.int .i64 0, .int .u64 (ep : Int), .int .u64 (n : Int), .int .u64 (many : Int)] ht
  have HT := Lib.hid ht
  clear hE hep hn hm ht
  go_enter Tryd.func7, Tryd.ntmps7
  go_upto_region 1 with fail
  obtain ⟨W0, hW0⟩ : ∃ X, X = w.alloc (.cells #[.int .i64 0, .int .u64 (ep : Int), .int .u64 (n : Int), .int .u64 (many : Int)] 29) := ⟨_, rfl⟩
  rw [← hW0] at hX ⊢
  clear hW0
  obtain ⟨x0, x1, x2, x3⟩ : _ ∧ _ ∧ _ ∧ _ := ⟨cell_of_row W0 _ 0 _ _ (0, 0) hX.2, cell_of_row W0 _ 1 _ _ (0, 0) hX.2, cell_of_row W0 _ 2 _ _ (0, 0) hX.2, cell_of_row W0 _ 3 _ _ (0, 0) hX.2⟩
  have HX := Lib.hid hX
  clear hX
  go_wp2_with fail
  refine (HP.out _).mono ?_
  rintro _ w1 ⟨rfl, b1⟩
  have HX1 := Lib.hid (HX.out.call b1)
  clear b1 HX x0 x1 x2 x3
  obtain ⟨x0, x1, x2, x3⟩ : _ ∧ _ ∧ _ ∧ _ := ⟨cell_of_row w1 _ 0 _ _ (0, 0) HX1.out.2, cell_of_row w1 _ 1 _ _ (0, 0) HX1.out.2, cell_of_row w1 _ 2 _ _ (0, 0) HX1.out.2, cell_of_row w1 _ 3 _ _ (0, 0) HX1.out.2⟩
  obtain ⟨i0, hi, hz0, hz1, hz2⟩ := info_parts infoS
  have HI := Lib.hid (And.intro hz2 (And.intro hz0 (And.intro hz1 hi)))
  clear hi hz0 hz1 hz2
  clear x0 x1 x2 x3
  go_upto_region 2 with fail
  have HO1 := Lib.hid (own_new w1 (w.heap.size + 1) 1 #[.string P] rfl (Array.getElem?_eq_some_iff.1 HX1.out.2).1 (by decide))
  have HX2 := Lib.hid (HX1.out.call ((Below.refl _ _).alloc (Nat.le_refl _) (.cells #[.string P] 9)))
  obtain ⟨g, hg⟩ : ∃ g, g = w1.heap.size := ⟨_, rfl⟩
  obtain ⟨W2, hW2⟩ : ∃ X, X = w1.alloc (.cells #[.string P] 9) := ⟨_, rfl⟩
  rw [← hW2] at HX2 HO1 ⊢
  rw [← hg] at HO1 ⊢
  clear hg hW2 HX1
  obtain ⟨x0, x1, x2, x3⟩ : _ ∧ _ ∧ _ ∧ _ := ⟨cell_of_row W2 _ 0 _ _ (0, 0) HX2.out.2, cell_of_row W2 _ 1 _ _ (0, 0) HX2.out.2, cell_of_row W2 _ 2 _ _ (0, 0) HX2.out.2, cell_of_row W2 _ 3 _ _ (0, 0) HX2.out.2⟩
  go_wp2_with fail
  have hj : joinB [P] = E := by
    rw [HE.out]
    exact join_one _
    done
  have hjs : (joinB [P]).size ≤ 1000000 := by
    rw [hj, HE.out]
    skip
    skip
    omega
  have HJ := Lib.hid (join_own _ (.slice (some ⟨g, 0, none⟩) 1 1) [P] _ HO1.out (by simp) (by simp) hjs)
  rw [hj] at HJ
  clear hj hjs
  refine HJ.out.mono ?_
  rintro _ w8 ⟨rfl, b1⟩
  have HX8 := Lib.hid (HX2.out.1.1.trans (b1.mono HX2.out.1.1.size))
  clear b1 HJ
  go_wp2
  go_ret
  exact ⟨rfl, HX8.out⟩

theorem ret_any (k : Int) (r : R4) (ho : r.ok) (w : World) (ht : Tab w) :
    Calls Tryd.prog 7 #[.int .i64 k, .agg r.cells] w fun e w' => e = .returned (.string (retB k r)) ∧ Below w.heap.size w w' := by
  obtain ⟨e, ep, n, many⟩ := r
  by_cases he : e = 0
  · by_cases h6 : k = 6
    · exact ret_6 k e ep n many ho he h6 w ht
    · by_cases h9 : k = 9
      · exact ret_9 k e ep n many ho he h9 w ht
      · by_cases h10 : k = 10
        · exact ret_10 k e ep n many ho he h10 w ht
        · exact ret_else k e ep n many ho he ⟨h6, h9, h10⟩ w ht
  · exact ret_err k e ep n many ho he w ht
end Go.Proofs.YtpakefgbjncdiadDoor.Rep
