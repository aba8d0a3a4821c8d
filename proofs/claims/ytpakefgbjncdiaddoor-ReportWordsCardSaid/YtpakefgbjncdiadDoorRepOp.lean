/- The program's words of an operation. -/
import Derived.Test.YtpakefgbjncdiadDoorRepJoin
import Derived.Great.BuildSlice
import Derived.Great.Walk
import Derived.Deep.Cut
import Derived.Deep.RegionHeld3
namespace Go.Proofs.YtpakefgbjncdiadDoor.Rep
open Go Go.RowKit Num Dec packetKeys

set_option maxRecDepth 100000 in
set_option maxHeartbeats 2000000 in
theorem op_1 (k who kc kf : Int) (ks : Nat) (sd ac : Int) (ep n : Nat) (ho : (O9.mk k who ⟨kc, kf, ks⟩ sd ac ep n).ok) (hk : k = 1) (w : World) (ht : Tab w) :
    Calls Tryd.prog 5 #[.agg #[.int .i64 k, .int .i64 who, .int .i64 kc, .int .i64 kf, .int .u64 (ks : Int), .int .i64 sd, .int .i64 ac, .int .u64 (ep : Int), .int .u64 (n : Int)]] w fun e w' => e = .returned (.string (opB ⟨k, who, ⟨kc, kf, ks⟩, sd, ac, ep, n⟩)) ∧ Below w.heap.size w w' := by
  obtain ⟨hw, hkey, ha, hep, hn⟩ := ho
  dsimp only at hw hkey ha hep hn
  subst hk
  obtain ⟨E, hE⟩ : ∃ E, E = opB ⟨1, who, ⟨kc, kf, ks⟩, sd, ac, ep, n⟩ := ⟨_, rfl⟩
  rw [← hE]
  unfold opB nB acB headB at hE
  dsimp only at hE
  rw [if_pos (by omega)] at hE
  have hp := opW_size 1
  have hi := intW_size who hw.1 hw.2
  have hn4 := nameB_size ⟨kc, kf, ks⟩ hkey
  have hd := sideW_size sd
  have hac := intW_size ac ha.1 ha.2
  have hy := decW_size n hn
  have hz := decW_size ep hep
  have HP := Lib.hid (fun W => opw_any 1 W)
  have HW := Lib.hid (fun W h => itoa_any who hw.1 hw.2 W h)
  have HA := Lib.hid (fun W h => itoa_any ac ha.1 ha.2 W h)
  have HN := Lib.hid (fun W h => name_any ⟨kc, kf, ks⟩ hkey W h)
  have HY := Lib.hid (fun W h => number_any n hn W h)
  have HZ := Lib.hid (fun W h => number_any ep hep W h)
  have HD := Lib.hid (fun W => side_any sd W)
  rw [show (⟨(Lib.itoa who).toArray⟩ : ByteArray) = intW who from rfl] at HW
  rw [show (⟨(Lib.itoa ac).toArray⟩ : ByteArray) = intW ac from rfl] at HA
  unfold K3.cells at HN
  dsimp only at HN
  generalize opW 1 = P at *
  generalize intW who = I at *
  generalize intW ac = A at *
  generalize nameB _ = N at *
  generalize sideW sd = D at *
  generalize decW n = Y at *
  generalize decW ep = Z at *
  have HE := Lib.hid hE
  have hX := BX.new w 26 #[.int .i64 1, .int .i64 who, .int .i64 kc, .int .i64 kf, .int .u64 (ks : Int), .int .i64 sd, .int .i64 ac, .int .u64 (ep : Int), .int .u64 (n : Int)] ht
  have HT := Lib.hid ht
  obtain ⟨i0, ji, jz0, jz1, jz2⟩ := info_parts infoS
  have HI := Lib.hid (And.intro jz2 (And.intro jz0 (And.intro jz1 ji)))
  clear hE hw hkey ha hep hn ht ji jz0 jz1 jz2
  go_enter Tryd.func5, Tryd.ntmps5
  go_upto_region 1 with fail
  obtain ⟨W0, hW0⟩ : ∃ X, X = w.alloc (.cells #[.int .i64 1, .int .i64 who, .int .i64 kc, .int .i64 kf, .int .u64 (ks : Int), .int .i64 sd, .int .i64 ac, .int .u64 (ep : Int), .int .u64 (n : Int)] 26) := ⟨_, rfl⟩
  rw [← hW0] at hX ⊢
  have h0 := hX.drew
  clear hW0 hX
  refine wp_region_held_drew (S := (fun W => BX w 26 #[.int .i64 1, .int .i64 who, .int .i64 kc, .int .i64 kf, .int .u64 (ks : Int), .int .i64 sd, .int .i64 ac, .int .u64 (ep : Int), .int .u64 (n : Int)] W)) (by kernel_rfl) h0 (fun hHeld => ?_)
  refine wpAnyH_take (i := 0) (oi := _) (v := ?_) rfl (by kernel_rfl) (by kernel_rfl) (by kernel_rfl) (fun _ _ _ h => h) (Or.inl ⟨by rfl, ?_⟩) (by assumption) ?_
  rotate_left
  · (intro W hSw; clear hSw; go_simp; try with_reducible rfl)
  try simp only [Act.put, List.getElem_toArray, List.getElem_cons_zero, List.setIfInBounds_toArray, List.set_cons_zero, List.set_cons_succ]
  refine wpAnyH_take (i := 1) (oi := _) (v := ?_) rfl (by kernel_rfl) (by kernel_rfl) (by kernel_rfl) (fun _ _ _ h => h) (Or.inl ⟨by rfl, ?_⟩) (by assumption) ?_
  rotate_left
  · (intro W hSw; (obtain ⟨y0, y1, y2, y3, y4, y5, y6, y7, y8⟩ : _ ∧ _ ∧ _ ∧ _ ∧ _ ∧ _ ∧ _ ∧ _ ∧ _ := ⟨cell_of_row W _ 0 _ _ (0, 0) hSw.2, cell_of_row W _ 1 _ _ (0, 0) hSw.2, cell_of_row W _ 2 _ _ (0, 0) hSw.2, cell_of_row W _ 3 _ _ (0, 0) hSw.2, cell_of_row W _ 4 _ _ (0, 0) hSw.2, cell_of_row W _ 5 _ _ (0, 0) hSw.2, cell_of_row W _ 6 _ _ (0, 0) hSw.2, cell_of_row W _ 7 _ _ (0, 0) hSw.2, cell_of_row W _ 8 _ _ (0, 0) hSw.2⟩; clear hSw; go_simp; try with_reducible rfl))
  try simp only [Act.put, List.getElem_toArray, List.getElem_cons_succ, List.getElem_cons_zero, List.setIfInBounds_toArray, List.set_cons_zero, List.set_cons_succ]
  refine wpAnyH_take (i := 3) (oi := _) (v := ?_) rfl (by kernel_rfl) (by kernel_rfl) (by kernel_rfl) (fun _ _ _ h => h) (Or.inl ⟨by rfl, ?_⟩) (by assumption) ?_
  rotate_left
  · (intro W hSw; clear hSw; go_simp; try with_reducible rfl)
  try simp only [Act.put, List.getElem_toArray, List.getElem_cons_succ, List.getElem_cons_zero, List.setIfInBounds_toArray, List.set_cons_zero, List.set_cons_succ]
  refine wpAnyH_take (i := 4) (oi := _) (v := ?_) rfl (by kernel_rfl) (by kernel_rfl) (by kernel_rfl) (fun _ _ _ h => h) (Or.inl ⟨by rfl, ?_⟩) (by assumption) ?_
  rotate_left
  · (intro W hSw; (obtain ⟨y0, y1, y2, y3, y4, y5, y6, y7, y8⟩ : _ ∧ _ ∧ _ ∧ _ ∧ _ ∧ _ ∧ _ ∧ _ ∧ _ := ⟨cell_of_row W _ 0 _ _ (0, 0) hSw.2, cell_of_row W _ 1 _ _ (0, 0) hSw.2, cell_of_row W _ 2 _ _ (0, 0) hSw.2, cell_of_row W _ 3 _ _ (0, 0) hSw.2, cell_of_row W _ 4 _ _ (0, 0) hSw.2, cell_of_row W _ 5 _ _ (0, 0) hSw.2, cell_of_row W _ 6 _ _ (0, 0) hSw.2, cell_of_row W _ 7 _ _ (0, 0) hSw.2, cell_of_row W _ 8 _ _ (0, 0) hSw.2⟩; clear hSw; go_simp; try with_reducible rfl))
  try simp only [Act.put, List.getElem_toArray, List.getElem_cons_succ, List.getElem_cons_zero, List.setIfInBounds_toArray, List.set_cons_zero, List.set_cons_succ]
  refine wpAnyH_ready (rs := [2]) (by kernel_rfl) (by simp) ?_
  refine AllReadyH.cons rfl (fun K hK => ?_) AllReadyH.nil
  simp only [List.getElem_toArray, List.getElem_cons_succ, List.getElem_cons_zero]
  rw [if_pos (by rfl)]
  go_simp
  (go_at_call 11; refine (HP.out _).mono ?_; rintro _ v1 ⟨rfl, b1⟩; have g1 := hHeld.call b1)
  go_wp2_with fail
  refine hK.out _ _ g1 (fun hHeld => ?_)
  clear hK K
  try simp only [Act.put, List.getElem_toArray, List.getElem_cons_succ, List.getElem_cons_zero, List.setIfInBounds_toArray, List.set_cons_zero, List.set_cons_succ]
  refine wpAnyH_ready (rs := [5]) (by kernel_rfl) (by simp) ?_
  refine AllReadyH.cons rfl (fun K hK => ?_) AllReadyH.nil
  simp only [List.getElem_toArray, List.getElem_cons_succ, List.getElem_cons_zero]
  rw [if_pos (by rfl)]
  go_simp
  (go_at_call 12; refine (HW.out _ g1.1.2).mono ?_; rintro _ v2 ⟨rfl, b2⟩; have g2 := g1.call b2)
  go_wp2_with fail
  refine hK.out _ _ g2 (fun hHeld => ?_)
  clear hK K
  try simp only [Act.put, List.getElem_toArray, List.getElem_cons_succ, List.getElem_cons_zero, List.setIfInBounds_toArray, List.set_cons_zero, List.set_cons_succ]
  refine wpAnyH_ready (rs := [6]) (by kernel_rfl) (by simp) ?_
  refine AllReadyH.cons rfl (fun K hK => ?_) AllReadyH.nil
  simp only [List.getElem_toArray, List.getElem_cons_succ, List.getElem_cons_zero]
  rw [if_pos (by rfl)]
  go_simp
  refine hK.out _ _ (g2.call ((Below.refl _ _).alloc (Nat.le_refl _) _)) (fun hHeld => ?_)
  clear hK K
  try simp only [Act.put, List.getElem_toArray, List.getElem_cons_succ, List.getElem_cons_zero, List.setIfInBounds_toArray, List.set_cons_zero, List.set_cons_succ]
  refine wpAnyH_take (i := 7) (oi := _) (v := ?_) rfl (by kernel_rfl) (by kernel_rfl) (by kernel_rfl) (fun _ _ _ h => h) (Or.inl ⟨by rfl, ?_⟩) (by assumption) ?_
  rotate_left
  · (intro W hSw; clear hSw; go_simp; try with_reducible rfl)
  try simp only [Act.put, List.getElem_toArray, List.getElem_cons_succ, List.getElem_cons_zero, List.setIfInBounds_toArray, List.set_cons_zero, List.set_cons_succ]
  refine wpAnyH_done (by kernel_rfl) ?_ _
  have HO1 := Lib.hid (own_new v2 (w.heap.size + 1) 3 #[.string P, .string ⟨#[98, 121]⟩, .string I] rfl (Array.getElem?_eq_some_iff.1 g2.2).1 (by decide))
  have HX2 := Lib.hid (g2.call ((Below.refl _ _).alloc (Nat.le_refl _) (.cells #[.string P, .string ⟨#[98, 121]⟩, .string I] 9)))
  obtain ⟨g, hg⟩ : ∃ g, g = v2.heap.size := ⟨_, rfl⟩
  obtain ⟨W2, hW2⟩ : ∃ X, X = v2.alloc (.cells #[.string P, .string ⟨#[98, 121]⟩, .string I] 9) := ⟨_, rfl⟩
  rw [← hW2] at HX2 HO1 ⊢
  rw [← hg] at HO1 ⊢
  clear hg hW2 h0 g1 g2 b1 b2
  obtain ⟨x0, x1, x2, x3, x4, x5, x6, x7, x8⟩ : _ ∧ _ ∧ _ ∧ _ ∧ _ ∧ _ ∧ _ ∧ _ ∧ _ := ⟨cell_of_row W2 _ 0 _ _ (0, 0) HX2.out.2, cell_of_row W2 _ 1 _ _ (0, 0) HX2.out.2, cell_of_row W2 _ 2 _ _ (0, 0) HX2.out.2, cell_of_row W2 _ 3 _ _ (0, 0) HX2.out.2, cell_of_row W2 _ 4 _ _ (0, 0) HX2.out.2, cell_of_row W2 _ 5 _ _ (0, 0) HX2.out.2, cell_of_row W2 _ 6 _ _ (0, 0) HX2.out.2, cell_of_row W2 _ 7 _ _ (0, 0) HX2.out.2, cell_of_row W2 _ 8 _ _ (0, 0) HX2.out.2⟩
  go_wp2_with fail
  refine (HN.out _ HX2.out.1.2).mono ?_
  rintro _ w6 ⟨rfl, b1⟩
  have HX6 := Lib.hid (HX2.out.call b1)
  have HO6 := Lib.hid (own_below HO1.out b1)
  clear b1 HX2 HO1 x0 x1 x2 x3 x4 x5 x6 x7 x8
  have hsz6 := HX6.out.1.1.size
  have hlt6 := (Array.getElem?_eq_some_iff.1 HX6.out.2).1
  go_wp2_with (at_builtin; refine wpList_append_own _ rfl _ _ 38 rfl (w.heap.size + 1) 9 i0 (.string ⟨#[]⟩) 1 16 Tryd.underlying38 HI.out.2.2.2 HI.out.2.1 HI.out.2.2.1 HI.out.1 rfl (by decide) _ _ _ rfl (HO6.out.alloc _) ⟨w6.heap.size, 0, none⟩ 1 1 [.string N] rfl rfl (news_new w6 #[.string N] _) (strs_one [N]) (by unfold maxLen; omega) (by omega) (by simp; omega) ?_; intro v7 w7 hown7 hg7 _)
  have HX7 := Lib.hid (BX.push HT.out HX6.out HO6.out hg7)
  have HO7 := Lib.hid hown7
  clear hown7 hg7 HX6 HO6 hsz6 hlt6
  have hj : joinB [P, ⟨#[98, 121]⟩, I, N] = E := by
    rw [HE.out]
    simp only [join_cons, join_one]
    exact ext_l (by simp)
  have hjs : (joinB [P, ⟨#[98, 121]⟩, I, N]).size ≤ 1000000 := by
    rw [hj, HE.out]
    simp only [ByteArray.size_append]
    simp only [show (⟨#[32]⟩ : ByteArray).size = 1 from rfl, show (⟨#[32, 98, 121, 32]⟩ : ByteArray).size = 4 from rfl]
    omega
  have HJ := Lib.hid (join_own _ v7 [P, ⟨#[98, 121]⟩, I, N] _ HO7.out (by simp) (by simp) hjs)
  rw [hj] at HJ
  clear hj hjs
  refine HJ.out.mono ?_
  rintro _ w8 ⟨rfl, b1⟩
  have HX8 := Lib.hid (HX7.out.1.1.trans (b1.mono HX7.out.1.1.size))
  clear b1 HJ
  go_wp2
  go_ret
  exact ⟨rfl, HX8.out⟩

set_option maxRecDepth 100000 in
set_option maxHeartbeats 2000000 in
theorem op_2 (k who kc kf : Int) (ks : Nat) (sd ac : Int) (ep n : Nat) (ho : (O9.mk k who ⟨kc, kf, ks⟩ sd ac ep n).ok) (hk : k = 2) (w : World) (ht : Tab w) :
    Calls Tryd.prog 5 #[.agg #[.int .i64 k, .int .i64 who, .int .i64 kc, .int .i64 kf, .int .u64 (ks : Int), .int .i64 sd, .int .i64 ac, .int .u64 (ep : Int), .int .u64 (n : Int)]] w fun e w' => e = .returned (.string (opB ⟨k, who, ⟨kc, kf, ks⟩, sd, ac, ep, n⟩)) ∧ Below w.heap.size w w' := by
  obtain ⟨hw, hkey, ha, hep, hn⟩ := ho
  dsimp only at hw hkey ha hep hn
  subst hk
  obtain ⟨E, hE⟩ : ∃ E, E = opB ⟨2, who, ⟨kc, kf, ks⟩, sd, ac, ep, n⟩ := ⟨_, rfl⟩
  rw [← hE]
  unfold opB nB acB headB at hE
  dsimp only at hE
  rw [if_pos (by omega)] at hE
  have hp := opW_size 2
  have hi := intW_size who hw.1 hw.2
  have hn4 := nameB_size ⟨kc, kf, ks⟩ hkey
  have hd := sideW_size sd
  have hac := intW_size ac ha.1 ha.2
  have hy := decW_size n hn
  have hz := decW_size ep hep
  have HP := Lib.hid (fun W => opw_any 2 W)
  have HW := Lib.hid (fun W h => itoa_any who hw.1 hw.2 W h)
  have HA := Lib.hid (fun W h => itoa_any ac ha.1 ha.2 W h)
  have HN := Lib.hid (fun W h => name_any ⟨kc, kf, ks⟩ hkey W h)
  have HY := Lib.hid (fun W h => number_any n hn W h)
  have HZ := Lib.hid (fun W h => number_any ep hep W h)
  have HD := Lib.hid (fun W => side_any sd W)
  rw [show (⟨(Lib.itoa who).toArray⟩ : ByteArray) = intW who from rfl] at HW
  rw [show (⟨(Lib.itoa ac).toArray⟩ : ByteArray) = intW ac from rfl] at HA
  unfold K3.cells at HN
  dsimp only at HN
  generalize opW 2 = P at *
  generalize intW who = I at *
  generalize intW ac = A at *
  generalize nameB _ = N at *
  generalize sideW sd = D at *
  generalize decW n = Y at *
  generalize decW ep = Z at *
  have HE := Lib.hid hE
  have hX := BX.new w 26 #[.int .i64 2, .int .i64 who, .int .i64 kc, .int .i64 kf, .int .u64 (ks : Int), .int .i64 sd, .int .i64 ac, .int .u64 (ep : Int), .int .u64 (n : Int)] ht
  have HT := Lib.hid ht
  obtain ⟨i0, ji, jz0, jz1, jz2⟩ := info_parts infoS
  have HI := Lib.hid (And.intro jz2 (And.intro jz0 (And.intro jz1 ji)))
  clear hE hw hkey ha hep hn ht ji jz0 jz1 jz2
  go_enter Tryd.func5, Tryd.ntmps5
  go_upto_region 1 with fail
  obtain ⟨W0, hW0⟩ : ∃ X, X = w.alloc (.cells #[.int .i64 2, .int .i64 who, .int .i64 kc, .int .i64 kf, .int .u64 (ks : Int), .int .i64 sd, .int .i64 ac, .int .u64 (ep : Int), .int .u64 (n : Int)] 26) := ⟨_, rfl⟩
  rw [← hW0] at hX ⊢
  have h0 := hX.drew
  clear hW0 hX
  refine wp_region_held_drew (S := (fun W => BX w 26 #[.int .i64 2, .int .i64 who, .int .i64 kc, .int .i64 kf, .int .u64 (ks : Int), .int .i64 sd, .int .i64 ac, .int .u64 (ep : Int), .int .u64 (n : Int)] W)) (by kernel_rfl) h0 (fun hHeld => ?_)
  refine wpAnyH_take (i := 0) (oi := _) (v := ?_) rfl (by kernel_rfl) (by kernel_rfl) (by kernel_rfl) (fun _ _ _ h => h) (Or.inl ⟨by rfl, ?_⟩) (by assumption) ?_
  rotate_left
  · (intro W hSw; clear hSw; go_simp; try with_reducible rfl)
  try simp only [Act.put, List.getElem_toArray, List.getElem_cons_zero, List.setIfInBounds_toArray, List.set_cons_zero, List.set_cons_succ]
  refine wpAnyH_take (i := 1) (oi := _) (v := ?_) rfl (by kernel_rfl) (by kernel_rfl) (by kernel_rfl) (fun _ _ _ h => h) (Or.inl ⟨by rfl, ?_⟩) (by assumption) ?_
  rotate_left
  · (intro W hSw; (obtain ⟨y0, y1, y2, y3, y4, y5, y6, y7, y8⟩ : _ ∧ _ ∧ _ ∧ _ ∧ _ ∧ _ ∧ _ ∧ _ ∧ _ := ⟨cell_of_row W _ 0 _ _ (0, 0) hSw.2, cell_of_row W _ 1 _ _ (0, 0) hSw.2, cell_of_row W _ 2 _ _ (0, 0) hSw.2, cell_of_row W _ 3 _ _ (0, 0) hSw.2, cell_of_row W _ 4 _ _ (0, 0) hSw.2, cell_of_row W _ 5 _ _ (0, 0) hSw.2, cell_of_row W _ 6 _ _ (0, 0) hSw.2, cell_of_row W _ 7 _ _ (0, 0) hSw.2, cell_of_row W _ 8 _ _ (0, 0) hSw.2⟩; clear hSw; go_simp; try with_reducible rfl))
  try simp only [Act.put, List.getElem_toArray, List.getElem_cons_succ, List.getElem_cons_zero, List.setIfInBounds_toArray, List.set_cons_zero, List.set_cons_succ]
  refine wpAnyH_take (i := 3) (oi := _) (v := ?_) rfl (by kernel_rfl) (by kernel_rfl) (by kernel_rfl) (fun _ _ _ h => h) (Or.inl ⟨by rfl, ?_⟩) (by assumption) ?_
  rotate_left
  · (intro W hSw; clear hSw; go_simp; try with_reducible rfl)
  try simp only [Act.put, List.getElem_toArray, List.getElem_cons_succ, List.getElem_cons_zero, List.setIfInBounds_toArray, List.set_cons_zero, List.set_cons_succ]
  refine wpAnyH_take (i := 4) (oi := _) (v := ?_) rfl (by kernel_rfl) (by kernel_rfl) (by kernel_rfl) (fun _ _ _ h => h) (Or.inl ⟨by rfl, ?_⟩) (by assumption) ?_
  rotate_left
  · (intro W hSw; (obtain ⟨y0, y1, y2, y3, y4, y5, y6, y7, y8⟩ : _ ∧ _ ∧ _ ∧ _ ∧ _ ∧ _ ∧ _ ∧ _ ∧ _ := ⟨cell_of_row W _ 0 _ _ (0, 0) hSw.2, cell_of_row W _ 1 _ _ (0, 0) hSw.2, cell_of_row W _ 2 _ _ (0, 0) hSw.2, cell_of_row W _ 3 _ _ (0, 0) hSw.2, cell_of_row W _ 4 _ _ (0, 0) hSw.2, cell_of_row W _ 5 _ _ (0, 0) hSw.2, cell_of_row W _ 6 _ _ (0, 0) hSw.2, cell_of_row W _ 7 _ _ (0, 0) hSw.2, cell_of_row W _ 8 _ _ (0, 0) hSw.2⟩; clear hSw; go_simp; try with_reducible rfl))
  try simp only [Act.put, List.getElem_toArray, List.getElem_cons_succ, List.getElem_cons_zero, List.setIfInBounds_toArray, List.set_cons_zero, List.set_cons_succ]
  refine wpAnyH_ready (rs := [2]) (by kernel_rfl) (by simp) ?_
  refine AllReadyH.cons rfl (fun K hK => ?_) AllReadyH.nil
  simp only [List.getElem_toArray, List.getElem_cons_succ, List.getElem_cons_zero]
  rw [if_pos (by rfl)]
  go_simp
  (go_at_call 11; refine (HP.out _).mono ?_; rintro _ v1 ⟨rfl, b1⟩; have g1 := hHeld.call b1)
  go_wp2_with fail
  refine hK.out _ _ g1 (fun hHeld => ?_)
  clear hK K
  try simp only [Act.put, List.getElem_toArray, List.getElem_cons_succ, List.getElem_cons_zero, List.setIfInBounds_toArray, List.set_cons_zero, List.set_cons_succ]
  refine wpAnyH_ready (rs := [5]) (by kernel_rfl) (by simp) ?_
  refine AllReadyH.cons rfl (fun K hK => ?_) AllReadyH.nil
  simp only [List.getElem_toArray, List.getElem_cons_succ, List.getElem_cons_zero]
  rw [if_pos (by rfl)]
  go_simp
  (go_at_call 12; refine (HW.out _ g1.1.2).mono ?_; rintro _ v2 ⟨rfl, b2⟩; have g2 := g1.call b2)
  go_wp2_with fail
  refine hK.out _ _ g2 (fun hHeld => ?_)
  clear hK K
  try simp only [Act.put, List.getElem_toArray, List.getElem_cons_succ, List.getElem_cons_zero, List.setIfInBounds_toArray, List.set_cons_zero, List.set_cons_succ]
  refine wpAnyH_ready (rs := [6]) (by kernel_rfl) (by simp) ?_
  refine AllReadyH.cons rfl (fun K hK => ?_) AllReadyH.nil
  simp only [List.getElem_toArray, List.getElem_cons_succ, List.getElem_cons_zero]
  rw [if_pos (by rfl)]
  go_simp
  refine hK.out _ _ (g2.call ((Below.refl _ _).alloc (Nat.le_refl _) _)) (fun hHeld => ?_)
  clear hK K
  try simp only [Act.put, List.getElem_toArray, List.getElem_cons_succ, List.getElem_cons_zero, List.setIfInBounds_toArray, List.set_cons_zero, List.set_cons_succ]
  refine wpAnyH_take (i := 7) (oi := _) (v := ?_) rfl (by kernel_rfl) (by kernel_rfl) (by kernel_rfl) (fun _ _ _ h => h) (Or.inl ⟨by rfl, ?_⟩) (by assumption) ?_
  rotate_left
  · (intro W hSw; clear hSw; go_simp; try with_reducible rfl)
  try simp only [Act.put, List.getElem_toArray, List.getElem_cons_succ, List.getElem_cons_zero, List.setIfInBounds_toArray, List.set_cons_zero, List.set_cons_succ]
  refine wpAnyH_done (by kernel_rfl) ?_ _
  have HO1 := Lib.hid (own_new v2 (w.heap.size + 1) 3 #[.string P, .string ⟨#[98, 121]⟩, .string I] rfl (Array.getElem?_eq_some_iff.1 g2.2).1 (by decide))
  have HX2 := Lib.hid (g2.call ((Below.refl _ _).alloc (Nat.le_refl _) (.cells #[.string P, .string ⟨#[98, 121]⟩, .string I] 9)))
  obtain ⟨g, hg⟩ : ∃ g, g = v2.heap.size := ⟨_, rfl⟩
  obtain ⟨W2, hW2⟩ : ∃ X, X = v2.alloc (.cells #[.string P, .string ⟨#[98, 121]⟩, .string I] 9) := ⟨_, rfl⟩
  rw [← hW2] at HX2 HO1 ⊢
  rw [← hg] at HO1 ⊢
  clear hg hW2 h0 g1 g2 b1 b2
  obtain ⟨x0, x1, x2, x3, x4, x5, x6, x7, x8⟩ : _ ∧ _ ∧ _ ∧ _ ∧ _ ∧ _ ∧ _ ∧ _ ∧ _ := ⟨cell_of_row W2 _ 0 _ _ (0, 0) HX2.out.2, cell_of_row W2 _ 1 _ _ (0, 0) HX2.out.2, cell_of_row W2 _ 2 _ _ (0, 0) HX2.out.2, cell_of_row W2 _ 3 _ _ (0, 0) HX2.out.2, cell_of_row W2 _ 4 _ _ (0, 0) HX2.out.2, cell_of_row W2 _ 5 _ _ (0, 0) HX2.out.2, cell_of_row W2 _ 6 _ _ (0, 0) HX2.out.2, cell_of_row W2 _ 7 _ _ (0, 0) HX2.out.2, cell_of_row W2 _ 8 _ _ (0, 0) HX2.out.2⟩
  go_wp2_with fail
  refine (HN.out _ HX2.out.1.2).mono ?_
  rintro _ w6 ⟨rfl, b1⟩
  have HX6 := Lib.hid (HX2.out.call b1)
  have HO6 := Lib.hid (own_below HO1.out b1)
  clear b1 HX2 HO1 x0 x1 x2 x3 x4 x5 x6 x7 x8
  have hsz6 := HX6.out.1.1.size
  have hlt6 := (Array.getElem?_eq_some_iff.1 HX6.out.2).1
  go_wp2_with (at_builtin; refine wpList_append_own _ rfl _ _ 38 rfl (w.heap.size + 1) 9 i0 (.string ⟨#[]⟩) 1 16 Tryd.underlying38 HI.out.2.2.2 HI.out.2.1 HI.out.2.2.1 HI.out.1 rfl (by decide) _ _ _ rfl (HO6.out.alloc _) ⟨w6.heap.size, 0, none⟩ 1 1 [.string N] rfl rfl (news_new w6 #[.string N] _) (strs_one [N]) (by unfold maxLen; omega) (by omega) (by simp; omega) ?_; intro v7 w7 hown7 hg7 _)
  have HX7 := Lib.hid (BX.push HT.out HX6.out HO6.out hg7)
  have HO7 := Lib.hid hown7
  clear hown7 hg7 HX6 HO6 hsz6 hlt6
  have hj : joinB [P, ⟨#[98, 121]⟩, I, N] = E := by
    rw [HE.out]
    simp only [join_cons, join_one]
    exact ext_l (by simp)
  have hjs : (joinB [P, ⟨#[98, 121]⟩, I, N]).size ≤ 1000000 := by
    rw [hj, HE.out]
    simp only [ByteArray.size_append]
    simp only [show (⟨#[32]⟩ : ByteArray).size = 1 from rfl, show (⟨#[32, 98, 121, 32]⟩ : ByteArray).size = 4 from rfl]
    omega
  have HJ := Lib.hid (join_own _ v7 [P, ⟨#[98, 121]⟩, I, N] _ HO7.out (by simp) (by simp) hjs)
  rw [hj] at HJ
  clear hj hjs
  refine HJ.out.mono ?_
  rintro _ w8 ⟨rfl, b1⟩
  have HX8 := Lib.hid (HX7.out.1.1.trans (b1.mono HX7.out.1.1.size))
  clear b1 HJ
  go_wp2
  go_ret
  exact ⟨rfl, HX8.out⟩

set_option maxRecDepth 100000 in
set_option maxHeartbeats 2000000 in
theorem op_3 (k who kc kf : Int) (ks : Nat) (sd ac : Int) (ep n : Nat) (ho : (O9.mk k who ⟨kc, kf, ks⟩ sd ac ep n).ok) (hk : k = 3) (w : World) (ht : Tab w) :
    Calls Tryd.prog 5 #[.agg #[.int .i64 k, .int .i64 who, .int .i64 kc, .int .i64 kf, .int .u64 (ks : Int), .int .i64 sd, .int .i64 ac, .int .u64 (ep : Int), .int .u64 (n : Int)]] w fun e w' => e = .returned (.string (opB ⟨k, who, ⟨kc, kf, ks⟩, sd, ac, ep, n⟩)) ∧ Below w.heap.size w w' := by
  obtain ⟨hw, hkey, ha, hep, hn⟩ := ho
  dsimp only at hw hkey ha hep hn
  subst hk
  obtain ⟨E, hE⟩ : ∃ E, E = opB ⟨3, who, ⟨kc, kf, ks⟩, sd, ac, ep, n⟩ := ⟨_, rfl⟩
  rw [← hE]
  unfold opB nB acB headB at hE
  dsimp only at hE
  rw [if_pos (by omega)] at hE
  have hp := opW_size 3
  have hi := intW_size who hw.1 hw.2
  have hn4 := nameB_size ⟨kc, kf, ks⟩ hkey
  have hd := sideW_size sd
  have hac := intW_size ac ha.1 ha.2
  have hy := decW_size n hn
  have hz := decW_size ep hep
  have HP := Lib.hid (fun W => opw_any 3 W)
  have HW := Lib.hid (fun W h => itoa_any who hw.1 hw.2 W h)
  have HA := Lib.hid (fun W h => itoa_any ac ha.1 ha.2 W h)
  have HN := Lib.hid (fun W h => name_any ⟨kc, kf, ks⟩ hkey W h)
  have HY := Lib.hid (fun W h => number_any n hn W h)
  have HZ := Lib.hid (fun W h => number_any ep hep W h)
  have HD := Lib.hid (fun W => side_any sd W)
  rw [show (⟨(Lib.itoa who).toArray⟩ : ByteArray) = intW who from rfl] at HW
  rw [show (⟨(Lib.itoa ac).toArray⟩ : ByteArray) = intW ac from rfl] at HA
  unfold K3.cells at HN
  dsimp only at HN
  generalize opW 3 = P at *
  generalize intW who = I at *
  generalize intW ac = A at *
  generalize nameB _ = N at *
  generalize sideW sd = D at *
  generalize decW n = Y at *
  generalize decW ep = Z at *
  have HE := Lib.hid hE
  have hX := BX.new w 26 #[.int .i64 3, .int .i64 who, .int .i64 kc, .int .i64 kf, .int .u64 (ks : Int), .int .i64 sd, .int .i64 ac, .int .u64 (ep : Int), .int .u64 (n : Int)] ht
  have HT := Lib.hid ht
  obtain ⟨i0, ji, jz0, jz1, jz2⟩ := info_parts infoS
  have HI := Lib.hid (And.intro jz2 (And.intro jz0 (And.intro jz1 ji)))
  clear hE hw hkey ha hep hn ht ji jz0 jz1 jz2
  go_enter Tryd.func5, Tryd.ntmps5
  go_upto_region 1 with fail
  obtain ⟨W0, hW0⟩ : ∃ X, X = w.alloc (.cells #[.int .i64 3, .int .i64 who, .int .i64 kc, .int .i64 kf, .int .u64 (ks : Int), .int .i64 sd, .int .i64 ac, .int .u64 (ep : Int), .int .u64 (n : Int)] 26) := ⟨_, rfl⟩
  rw [← hW0] at hX ⊢
  have h0 := hX.drew
  clear hW0 hX
  refine wp_region_held_drew (S := (fun W => BX w 26 #[.int .i64 3, .int .i64 who, .int .i64 kc, .int .i64 kf, .int .u64 (ks : Int), .int .i64 sd, .int .i64 ac, .int .u64 (ep : Int), .int .u64 (n : Int)] W)) (by kernel_rfl) h0 (fun hHeld => ?_)
  refine wpAnyH_take (i := 0) (oi := _) (v := ?_) rfl (by kernel_rfl) (by kernel_rfl) (by kernel_rfl) (fun _ _ _ h => h) (Or.inl ⟨by rfl, ?_⟩) (by assumption) ?_
  rotate_left
  · (intro W hSw; clear hSw; go_simp; try with_reducible rfl)
  try simp only [Act.put, List.getElem_toArray, List.getElem_cons_zero, List.setIfInBounds_toArray, List.set_cons_zero, List.set_cons_succ]
  refine wpAnyH_take (i := 1) (oi := _) (v := ?_) rfl (by kernel_rfl) (by kernel_rfl) (by kernel_rfl) (fun _ _ _ h => h) (Or.inl ⟨by rfl, ?_⟩) (by assumption) ?_
  rotate_left
  · (intro W hSw; (obtain ⟨y0, y1, y2, y3, y4, y5, y6, y7, y8⟩ : _ ∧ _ ∧ _ ∧ _ ∧ _ ∧ _ ∧ _ ∧ _ ∧ _ := ⟨cell_of_row W _ 0 _ _ (0, 0) hSw.2, cell_of_row W _ 1 _ _ (0, 0) hSw.2, cell_of_row W _ 2 _ _ (0, 0) hSw.2, cell_of_row W _ 3 _ _ (0, 0) hSw.2, cell_of_row W _ 4 _ _ (0, 0) hSw.2, cell_of_row W _ 5 _ _ (0, 0) hSw.2, cell_of_row W _ 6 _ _ (0, 0) hSw.2, cell_of_row W _ 7 _ _ (0, 0) hSw.2, cell_of_row W _ 8 _ _ (0, 0) hSw.2⟩; clear hSw; go_simp; try with_reducible rfl))
  try simp only [Act.put, List.getElem_toArray, List.getElem_cons_succ, List.getElem_cons_zero, List.setIfInBounds_toArray, List.set_cons_zero, List.set_cons_succ]
  refine wpAnyH_take (i := 3) (oi := _) (v := ?_) rfl (by kernel_rfl) (by kernel_rfl) (by kernel_rfl) (fun _ _ _ h => h) (Or.inl ⟨by rfl, ?_⟩) (by assumption) ?_
  rotate_left
  · (intro W hSw; clear hSw; go_simp; try with_reducible rfl)
  try simp only [Act.put, List.getElem_toArray, List.getElem_cons_succ, List.getElem_cons_zero, List.setIfInBounds_toArray, List.set_cons_zero, List.set_cons_succ]
  refine wpAnyH_take (i := 4) (oi := _) (v := ?_) rfl (by kernel_rfl) (by kernel_rfl) (by kernel_rfl) (fun _ _ _ h => h) (Or.inl ⟨by rfl, ?_⟩) (by assumption) ?_
  rotate_left
  · (intro W hSw; (obtain ⟨y0, y1, y2, y3, y4, y5, y6, y7, y8⟩ : _ ∧ _ ∧ _ ∧ _ ∧ _ ∧ _ ∧ _ ∧ _ ∧ _ := ⟨cell_of_row W _ 0 _ _ (0, 0) hSw.2, cell_of_row W _ 1 _ _ (0, 0) hSw.2, cell_of_row W _ 2 _ _ (0, 0) hSw.2, cell_of_row W _ 3 _ _ (0, 0) hSw.2, cell_of_row W _ 4 _ _ (0, 0) hSw.2, cell_of_row W _ 5 _ _ (0, 0) hSw.2, cell_of_row W _ 6 _ _ (0, 0) hSw.2, cell_of_row W _ 7 _ _ (0, 0) hSw.2, cell_of_row W _ 8 _ _ (0, 0) hSw.2⟩; clear hSw; go_simp; try with_reducible rfl))
  try simp only [Act.put, List.getElem_toArray, List.getElem_cons_succ, List.getElem_cons_zero, List.setIfInBounds_toArray, List.set_cons_zero, List.set_cons_succ]
  refine wpAnyH_ready (rs := [2]) (by kernel_rfl) (by simp) ?_
  refine AllReadyH.cons rfl (fun K hK => ?_) AllReadyH.nil
  simp only [List.getElem_toArray, List.getElem_cons_succ, List.getElem_cons_zero]
  rw [if_pos (by rfl)]
  go_simp
  (go_at_call 11; refine (HP.out _).mono ?_; rintro _ v1 ⟨rfl, b1⟩; have g1 := hHeld.call b1)
  go_wp2_with fail
  refine hK.out _ _ g1 (fun hHeld => ?_)
  clear hK K
  try simp only [Act.put, List.getElem_toArray, List.getElem_cons_succ, List.getElem_cons_zero, List.setIfInBounds_toArray, List.set_cons_zero, List.set_cons_succ]
  refine wpAnyH_ready (rs := [5]) (by kernel_rfl) (by simp) ?_
  refine AllReadyH.cons rfl (fun K hK => ?_) AllReadyH.nil
  simp only [List.getElem_toArray, List.getElem_cons_succ, List.getElem_cons_zero]
  rw [if_pos (by rfl)]
  go_simp
  (go_at_call 12; refine (HW.out _ g1.1.2).mono ?_; rintro _ v2 ⟨rfl, b2⟩; have g2 := g1.call b2)
  go_wp2_with fail
  refine hK.out _ _ g2 (fun hHeld => ?_)
  clear hK K
  try simp only [Act.put, List.getElem_toArray, List.getElem_cons_succ, List.getElem_cons_zero, List.setIfInBounds_toArray, List.set_cons_zero, List.set_cons_succ]
  refine wpAnyH_ready (rs := [6]) (by kernel_rfl) (by simp) ?_
  refine AllReadyH.cons rfl (fun K hK => ?_) AllReadyH.nil
  simp only [List.getElem_toArray, List.getElem_cons_succ, List.getElem_cons_zero]
  rw [if_pos (by rfl)]
  go_simp
  refine hK.out _ _ (g2.call ((Below.refl _ _).alloc (Nat.le_refl _) _)) (fun hHeld => ?_)
  clear hK K
  try simp only [Act.put, List.getElem_toArray, List.getElem_cons_succ, List.getElem_cons_zero, List.setIfInBounds_toArray, List.set_cons_zero, List.set_cons_succ]
  refine wpAnyH_take (i := 7) (oi := _) (v := ?_) rfl (by kernel_rfl) (by kernel_rfl) (by kernel_rfl) (fun _ _ _ h => h) (Or.inl ⟨by rfl, ?_⟩) (by assumption) ?_
  rotate_left
  · (intro W hSw; clear hSw; go_simp; try with_reducible rfl)
  try simp only [Act.put, List.getElem_toArray, List.getElem_cons_succ, List.getElem_cons_zero, List.setIfInBounds_toArray, List.set_cons_zero, List.set_cons_succ]
  refine wpAnyH_done (by kernel_rfl) ?_ _
  have HO1 := Lib.hid (own_new v2 (w.heap.size + 1) 3 #[.string P, .string ⟨#[98, 121]⟩, .string I] rfl (Array.getElem?_eq_some_iff.1 g2.2).1 (by decide))
  have HX2 := Lib.hid (g2.call ((Below.refl _ _).alloc (Nat.le_refl _) (.cells #[.string P, .string ⟨#[98, 121]⟩, .string I] 9)))
  obtain ⟨g, hg⟩ : ∃ g, g = v2.heap.size := ⟨_, rfl⟩
  obtain ⟨W2, hW2⟩ : ∃ X, X = v2.alloc (.cells #[.string P, .string ⟨#[98, 121]⟩, .string I] 9) := ⟨_, rfl⟩
  rw [← hW2] at HX2 HO1 ⊢
  rw [← hg] at HO1 ⊢
  clear hg hW2 h0 g1 g2 b1 b2
  obtain ⟨x0, x1, x2, x3, x4, x5, x6, x7, x8⟩ : _ ∧ _ ∧ _ ∧ _ ∧ _ ∧ _ ∧ _ ∧ _ ∧ _ := ⟨cell_of_row W2 _ 0 _ _ (0, 0) HX2.out.2, cell_of_row W2 _ 1 _ _ (0, 0) HX2.out.2, cell_of_row W2 _ 2 _ _ (0, 0) HX2.out.2, cell_of_row W2 _ 3 _ _ (0, 0) HX2.out.2, cell_of_row W2 _ 4 _ _ (0, 0) HX2.out.2, cell_of_row W2 _ 5 _ _ (0, 0) HX2.out.2, cell_of_row W2 _ 6 _ _ (0, 0) HX2.out.2, cell_of_row W2 _ 7 _ _ (0, 0) HX2.out.2, cell_of_row W2 _ 8 _ _ (0, 0) HX2.out.2⟩
  go_wp2_with fail
  refine (HN.out _ HX2.out.1.2).mono ?_
  rintro _ w6 ⟨rfl, b1⟩
  have HX6 := Lib.hid (HX2.out.call b1)
  have HO6 := Lib.hid (own_below HO1.out b1)
  clear b1 HX2 HO1 x0 x1 x2 x3 x4 x5 x6 x7 x8
  have hsz6 := HX6.out.1.1.size
  have hlt6 := (Array.getElem?_eq_some_iff.1 HX6.out.2).1
  go_wp2_with (at_builtin; refine wpList_append_own _ rfl _ _ 38 rfl (w.heap.size + 1) 9 i0 (.string ⟨#[]⟩) 1 16 Tryd.underlying38 HI.out.2.2.2 HI.out.2.1 HI.out.2.2.1 HI.out.1 rfl (by decide) _ _ _ rfl (HO6.out.alloc _) ⟨w6.heap.size, 0, none⟩ 1 1 [.string N] rfl rfl (news_new w6 #[.string N] _) (strs_one [N]) (by unfold maxLen; omega) (by omega) (by simp; omega) ?_; intro v7 w7 hown7 hg7 _)
  have HX7 := Lib.hid (BX.push HT.out HX6.out HO6.out hg7)
  have HO7 := Lib.hid hown7
  clear hown7 hg7 HX6 HO6 hsz6 hlt6
  have hj : joinB [P, ⟨#[98, 121]⟩, I, N] = E := by
    rw [HE.out]
    simp only [join_cons, join_one]
    exact ext_l (by simp)
  have hjs : (joinB [P, ⟨#[98, 121]⟩, I, N]).size ≤ 1000000 := by
    rw [hj, HE.out]
    simp only [ByteArray.size_append]
    simp only [show (⟨#[32]⟩ : ByteArray).size = 1 from rfl, show (⟨#[32, 98, 121, 32]⟩ : ByteArray).size = 4 from rfl]
    omega
  have HJ := Lib.hid (join_own _ v7 [P, ⟨#[98, 121]⟩, I, N] _ HO7.out (by simp) (by simp) hjs)
  rw [hj] at HJ
  clear hj hjs
  refine HJ.out.mono ?_
  rintro _ w8 ⟨rfl, b1⟩
  have HX8 := Lib.hid (HX7.out.1.1.trans (b1.mono HX7.out.1.1.size))
  clear b1 HJ
  go_wp2
  go_ret
  exact ⟨rfl, HX8.out⟩

set_option maxRecDepth 100000 in
set_option maxHeartbeats 2000000 in
theorem op_4 (k who kc kf : Int) (ks : Nat) (sd ac : Int) (ep n : Nat) (ho : (O9.mk k who ⟨kc, kf, ks⟩ sd ac ep n).ok) (hk : k = 4) (w : World) (ht : Tab w) :
    Calls Tryd.prog 5 #[.agg #[.int .i64 k, .int .i64 who, .int .i64 kc, .int .i64 kf, .int .u64 (ks : Int), .int .i64 sd, .int .i64 ac, .int .u64 (ep : Int), .int .u64 (n : Int)]] w fun e w' => e = .returned (.string (opB ⟨k, who, ⟨kc, kf, ks⟩, sd, ac, ep, n⟩)) ∧ Below w.heap.size w w' := by
  obtain ⟨hw, hkey, ha, hep, hn⟩ := ho
  dsimp only at hw hkey ha hep hn
  subst hk
  obtain ⟨E, hE⟩ : ∃ E, E = opB ⟨4, who, ⟨kc, kf, ks⟩, sd, ac, ep, n⟩ := ⟨_, rfl⟩
  rw [← hE]
  unfold opB nB acB headB at hE
  dsimp only at hE
  rw [if_pos (by omega)] at hE
  have hp := opW_size 4
  have hi := intW_size who hw.1 hw.2
  have hn4 := nameB_size ⟨kc, kf, ks⟩ hkey
  have hd := sideW_size sd
  have hac := intW_size ac ha.1 ha.2
  have hy := decW_size n hn
  have hz := decW_size ep hep
  have HP := Lib.hid (fun W => opw_any 4 W)
  have HW := Lib.hid (fun W h => itoa_any who hw.1 hw.2 W h)
  have HA := Lib.hid (fun W h => itoa_any ac ha.1 ha.2 W h)
  have HN := Lib.hid (fun W h => name_any ⟨kc, kf, ks⟩ hkey W h)
  have HY := Lib.hid (fun W h => number_any n hn W h)
  have HZ := Lib.hid (fun W h => number_any ep hep W h)
  have HD := Lib.hid (fun W => side_any sd W)
  rw [show (⟨(Lib.itoa who).toArray⟩ : ByteArray) = intW who from rfl] at HW
  rw [show (⟨(Lib.itoa ac).toArray⟩ : ByteArray) = intW ac from rfl] at HA
  unfold K3.cells at HN
  dsimp only at HN
  generalize opW 4 = P at *
  generalize intW who = I at *
  generalize intW ac = A at *
  generalize nameB _ = N at *
  generalize sideW sd = D at *
  generalize decW n = Y at *
  generalize decW ep = Z at *
  have HE := Lib.hid hE
  have hX := BX.new w 26 #[.int .i64 4, .int .i64 who, .int .i64 kc, .int .i64 kf, .int .u64 (ks : Int), .int .i64 sd, .int .i64 ac, .int .u64 (ep : Int), .int .u64 (n : Int)] ht
  have HT := Lib.hid ht
  obtain ⟨i0, ji, jz0, jz1, jz2⟩ := info_parts infoS
  have HI := Lib.hid (And.intro jz2 (And.intro jz0 (And.intro jz1 ji)))
  clear hE hw hkey ha hep hn ht ji jz0 jz1 jz2
  go_enter Tryd.func5, Tryd.ntmps5
  go_upto_region 1 with fail
  obtain ⟨W0, hW0⟩ : ∃ X, X = w.alloc (.cells #[.int .i64 4, .int .i64 who, .int .i64 kc, .int .i64 kf, .int .u64 (ks : Int), .int .i64 sd, .int .i64 ac, .int .u64 (ep : Int), .int .u64 (n : Int)] 26) := ⟨_, rfl⟩
  rw [← hW0] at hX ⊢
  have h0 := hX.drew
  clear hW0 hX
  refine wp_region_held_drew (S := (fun W => BX w 26 #[.int .i64 4, .int .i64 who, .int .i64 kc, .int .i64 kf, .int .u64 (ks : Int), .int .i64 sd, .int .i64 ac, .int .u64 (ep : Int), .int .u64 (n : Int)] W)) (by kernel_rfl) h0 (fun hHeld => ?_)
  refine wpAnyH_take (i := 0) (oi := _) (v := ?_) rfl (by kernel_rfl) (by kernel_rfl) (by kernel_rfl) (fun _ _ _ h => h) (Or.inl ⟨by rfl, ?_⟩) (by assumption) ?_
  rotate_left
  · (intro W hSw; clear hSw; go_simp; try with_reducible rfl)
  try simp only [Act.put, List.getElem_toArray, List.getElem_cons_zero, List.setIfInBounds_toArray, List.set_cons_zero, List.set_cons_succ]
  refine wpAnyH_take (i := 1) (oi := _) (v := ?_) rfl (by kernel_rfl) (by kernel_rfl) (by kernel_rfl) (fun _ _ _ h => h) (Or.inl ⟨by rfl, ?_⟩) (by assumption) ?_
  rotate_left
  · (intro W hSw; (obtain ⟨y0, y1, y2, y3, y4, y5, y6, y7, y8⟩ : _ ∧ _ ∧ _ ∧ _ ∧ _ ∧ _ ∧ _ ∧ _ ∧ _ := ⟨cell_of_row W _ 0 _ _ (0, 0) hSw.2, cell_of_row W _ 1 _ _ (0, 0) hSw.2, cell_of_row W _ 2 _ _ (0, 0) hSw.2, cell_of_row W _ 3 _ _ (0, 0) hSw.2, cell_of_row W _ 4 _ _ (0, 0) hSw.2, cell_of_row W _ 5 _ _ (0, 0) hSw.2, cell_of_row W _ 6 _ _ (0, 0) hSw.2, cell_of_row W _ 7 _ _ (0, 0) hSw.2, cell_of_row W _ 8 _ _ (0, 0) hSw.2⟩; clear hSw; go_simp; try with_reducible rfl))
  try simp only [Act.put, List.getElem_toArray, List.getElem_cons_succ, List.getElem_cons_zero, List.setIfInBounds_toArray, List.set_cons_zero, List.set_cons_succ]
  refine wpAnyH_take (i := 3) (oi := _) (v := ?_) rfl (by kernel_rfl) (by kernel_rfl) (by kernel_rfl) (fun _ _ _ h => h) (Or.inl ⟨by rfl, ?_⟩) (by assumption) ?_
  rotate_left
  · (intro W hSw; clear hSw; go_simp; try with_reducible rfl)
  try simp only [Act.put, List.getElem_toArray, List.getElem_cons_succ, List.getElem_cons_zero, List.setIfInBounds_toArray, List.set_cons_zero, List.set_cons_succ]
  refine wpAnyH_take (i := 4) (oi := _) (v := ?_) rfl (by kernel_rfl) (by kernel_rfl) (by kernel_rfl) (fun _ _ _ h => h) (Or.inl ⟨by rfl, ?_⟩) (by assumption) ?_
  rotate_left
  · (intro W hSw; (obtain ⟨y0, y1, y2, y3, y4, y5, y6, y7, y8⟩ : _ ∧ _ ∧ _ ∧ _ ∧ _ ∧ _ ∧ _ ∧ _ ∧ _ := ⟨cell_of_row W _ 0 _ _ (0, 0) hSw.2, cell_of_row W _ 1 _ _ (0, 0) hSw.2, cell_of_row W _ 2 _ _ (0, 0) hSw.2, cell_of_row W _ 3 _ _ (0, 0) hSw.2, cell_of_row W _ 4 _ _ (0, 0) hSw.2, cell_of_row W _ 5 _ _ (0, 0) hSw.2, cell_of_row W _ 6 _ _ (0, 0) hSw.2, cell_of_row W _ 7 _ _ (0, 0) hSw.2, cell_of_row W _ 8 _ _ (0, 0) hSw.2⟩; clear hSw; go_simp; try with_reducible rfl))
  try simp only [Act.put, List.getElem_toArray, List.getElem_cons_succ, List.getElem_cons_zero, List.setIfInBounds_toArray, List.set_cons_zero, List.set_cons_succ]
  refine wpAnyH_ready (rs := [2]) (by kernel_rfl) (by simp) ?_
  refine AllReadyH.cons rfl (fun K hK => ?_) AllReadyH.nil
  simp only [List.getElem_toArray, List.getElem_cons_succ, List.getElem_cons_zero]
  rw [if_pos (by rfl)]
  go_simp
  (go_at_call 11; refine (HP.out _).mono ?_; rintro _ v1 ⟨rfl, b1⟩; have g1 := hHeld.call b1)
  go_wp2_with fail
  refine hK.out _ _ g1 (fun hHeld => ?_)
  clear hK K
  try simp only [Act.put, List.getElem_toArray, List.getElem_cons_succ, List.getElem_cons_zero, List.setIfInBounds_toArray, List.set_cons_zero, List.set_cons_succ]
  refine wpAnyH_ready (rs := [5]) (by kernel_rfl) (by simp) ?_
  refine AllReadyH.cons rfl (fun K hK => ?_) AllReadyH.nil
  simp only [List.getElem_toArray, List.getElem_cons_succ, List.getElem_cons_zero]
  rw [if_pos (by rfl)]
  go_simp
  (go_at_call 12; refine (HW.out _ g1.1.2).mono ?_; rintro _ v2 ⟨rfl, b2⟩; have g2 := g1.call b2)
  go_wp2_with fail
  refine hK.out _ _ g2 (fun hHeld => ?_)
  clear hK K
  try simp only [Act.put, List.getElem_toArray, List.getElem_cons_succ, List.getElem_cons_zero, List.setIfInBounds_toArray, List.set_cons_zero, List.set_cons_succ]
  refine wpAnyH_ready (rs := [6]) (by kernel_rfl) (by simp) ?_
  refine AllReadyH.cons rfl (fun K hK => ?_) AllReadyH.nil
  simp only [List.getElem_toArray, List.getElem_cons_succ, List.getElem_cons_zero]
  rw [if_pos (by rfl)]
  go_simp
  refine hK.out _ _ (g2.call ((Below.refl _ _).alloc (Nat.le_refl _) _)) (fun hHeld => ?_)
  clear hK K
  try simp only [Act.put, List.getElem_toArray, List.getElem_cons_succ, List.getElem_cons_zero, List.setIfInBounds_toArray, List.set_cons_zero, List.set_cons_succ]
  refine wpAnyH_take (i := 7) (oi := _) (v := ?_) rfl (by kernel_rfl) (by kernel_rfl) (by kernel_rfl) (fun _ _ _ h => h) (Or.inl ⟨by rfl, ?_⟩) (by assumption) ?_
  rotate_left
  · (intro W hSw; clear hSw; go_simp; try with_reducible rfl)
  try simp only [Act.put, List.getElem_toArray, List.getElem_cons_succ, List.getElem_cons_zero, List.setIfInBounds_toArray, List.set_cons_zero, List.set_cons_succ]
  refine wpAnyH_done (by kernel_rfl) ?_ _
  have HO1 := Lib.hid (own_new v2 (w.heap.size + 1) 3 #[.string P, .string ⟨#[98, 121]⟩, .string I] rfl (Array.getElem?_eq_some_iff.1 g2.2).1 (by decide))
  have HX2 := Lib.hid (g2.call ((Below.refl _ _).alloc (Nat.le_refl _) (.cells #[.string P, .string ⟨#[98, 121]⟩, .string I] 9)))
  obtain ⟨g, hg⟩ : ∃ g, g = v2.heap.size := ⟨_, rfl⟩
  obtain ⟨W2, hW2⟩ : ∃ X, X = v2.alloc (.cells #[.string P, .string ⟨#[98, 121]⟩, .string I] 9) := ⟨_, rfl⟩
  rw [← hW2] at HX2 HO1 ⊢
  rw [← hg] at HO1 ⊢
  clear hg hW2 h0 g1 g2 b1 b2
  obtain ⟨x0, x1, x2, x3, x4, x5, x6, x7, x8⟩ : _ ∧ _ ∧ _ ∧ _ ∧ _ ∧ _ ∧ _ ∧ _ ∧ _ := ⟨cell_of_row W2 _ 0 _ _ (0, 0) HX2.out.2, cell_of_row W2 _ 1 _ _ (0, 0) HX2.out.2, cell_of_row W2 _ 2 _ _ (0, 0) HX2.out.2, cell_of_row W2 _ 3 _ _ (0, 0) HX2.out.2, cell_of_row W2 _ 4 _ _ (0, 0) HX2.out.2, cell_of_row W2 _ 5 _ _ (0, 0) HX2.out.2, cell_of_row W2 _ 6 _ _ (0, 0) HX2.out.2, cell_of_row W2 _ 7 _ _ (0, 0) HX2.out.2, cell_of_row W2 _ 8 _ _ (0, 0) HX2.out.2⟩
  go_wp2_with fail
  refine (HN.out _ HX2.out.1.2).mono ?_
  rintro _ w6 ⟨rfl, b1⟩
  have HX6 := Lib.hid (HX2.out.call b1)
  have HO6 := Lib.hid (own_below HO1.out b1)
  clear b1 HX2 HO1 x0 x1 x2 x3 x4 x5 x6 x7 x8
  have hsz6 := HX6.out.1.1.size
  have hlt6 := (Array.getElem?_eq_some_iff.1 HX6.out.2).1
  go_wp2_with (at_builtin; refine wpList_append_own _ rfl _ _ 38 rfl (w.heap.size + 1) 9 i0 (.string ⟨#[]⟩) 1 16 Tryd.underlying38 HI.out.2.2.2 HI.out.2.1 HI.out.2.2.1 HI.out.1 rfl (by decide) _ _ _ rfl (HO6.out.alloc _) ⟨w6.heap.size, 0, none⟩ 1 1 [.string N] rfl rfl (news_new w6 #[.string N] _) (strs_one [N]) (by unfold maxLen; omega) (by omega) (by simp; omega) ?_; intro v7 w7 hown7 hg7 _)
  have HX7 := Lib.hid (BX.push HT.out HX6.out HO6.out hg7)
  have HO7 := Lib.hid hown7
  clear hown7 hg7 HX6 HO6 hsz6 hlt6
  have hj : joinB [P, ⟨#[98, 121]⟩, I, N] = E := by
    rw [HE.out]
    simp only [join_cons, join_one]
    exact ext_l (by simp)
  have hjs : (joinB [P, ⟨#[98, 121]⟩, I, N]).size ≤ 1000000 := by
    rw [hj, HE.out]
    simp only [ByteArray.size_append]
    simp only [show (⟨#[32]⟩ : ByteArray).size = 1 from rfl, show (⟨#[32, 98, 121, 32]⟩ : ByteArray).size = 4 from rfl]
    omega
  have HJ := Lib.hid (join_own _ v7 [P, ⟨#[98, 121]⟩, I, N] _ HO7.out (by simp) (by simp) hjs)
  rw [hj] at HJ
  clear hj hjs
  refine HJ.out.mono ?_
  rintro _ w8 ⟨rfl, b1⟩
  have HX8 := Lib.hid (HX7.out.1.1.trans (b1.mono HX7.out.1.1.size))
  clear b1 HJ
  go_wp2
  go_ret
  exact ⟨rfl, HX8.out⟩

set_option maxRecDepth 100000 in
set_option maxHeartbeats 2000000 in
theorem op_5 (k who kc kf : Int) (ks : Nat) (sd ac : Int) (ep n : Nat) (ho : (O9.mk k who ⟨kc, kf, ks⟩ sd ac ep n).ok) (hk : k = 5) (w : World) (ht : Tab w) :
    Calls Tryd.prog 5 #[.agg #[.int .i64 k, .int .i64 who, .int .i64 kc, .int .i64 kf, .int .u64 (ks : Int), .int .i64 sd, .int .i64 ac, .int .u64 (ep : Int), .int .u64 (n : Int)]] w fun e w' => e = .returned (.string (opB ⟨k, who, ⟨kc, kf, ks⟩, sd, ac, ep, n⟩)) ∧ Below w.heap.size w w' := by
  obtain ⟨hw, hkey, ha, hep, hn⟩ := ho
  dsimp only at hw hkey ha hep hn
  subst hk
  obtain ⟨E, hE⟩ : ∃ E, E = opB ⟨5, who, ⟨kc, kf, ks⟩, sd, ac, ep, n⟩ := ⟨_, rfl⟩
  rw [← hE]
  unfold opB nB acB headB at hE
  dsimp only at hE
  rw [if_pos (by omega)] at hE
  have hp := opW_size 5
  have hi := intW_size who hw.1 hw.2
  have hn4 := nameB_size ⟨kc, kf, ks⟩ hkey
  have hd := sideW_size sd
  have hac := intW_size ac ha.1 ha.2
  have hy := decW_size n hn
  have hz := decW_size ep hep
  have HP := Lib.hid (fun W => opw_any 5 W)
  have HW := Lib.hid (fun W h => itoa_any who hw.1 hw.2 W h)
  have HA := Lib.hid (fun W h => itoa_any ac ha.1 ha.2 W h)
  have HN := Lib.hid (fun W h => name_any ⟨kc, kf, ks⟩ hkey W h)
  have HY := Lib.hid (fun W h => number_any n hn W h)
  have HZ := Lib.hid (fun W h => number_any ep hep W h)
  have HD := Lib.hid (fun W => side_any sd W)
  rw [show (⟨(Lib.itoa who).toArray⟩ : ByteArray) = intW who from rfl] at HW
  rw [show (⟨(Lib.itoa ac).toArray⟩ : ByteArray) = intW ac from rfl] at HA
  unfold K3.cells at HN
  dsimp only at HN
  generalize opW 5 = P at *
  generalize intW who = I at *
  generalize intW ac = A at *
  generalize nameB _ = N at *
  generalize sideW sd = D at *
  generalize decW n = Y at *
  generalize decW ep = Z at *
  have HE := Lib.hid hE
  have hX := BX.new w 26 #[.int .i64 5, .int .i64 who, .int .i64 kc, .int .i64 kf, .int .u64 (ks : Int), .int .i64 sd, .int .i64 ac, .int .u64 (ep : Int), .int .u64 (n : Int)] ht
  have HT := Lib.hid ht
  obtain ⟨i0, ji, jz0, jz1, jz2⟩ := info_parts infoS
  have HI := Lib.hid (And.intro jz2 (And.intro jz0 (And.intro jz1 ji)))
  clear hE hw hkey ha hep hn ht ji jz0 jz1 jz2
  go_enter Tryd.func5, Tryd.ntmps5
  go_upto_region 1 with fail
  obtain ⟨W0, hW0⟩ : ∃ X, X = w.alloc (.cells #[.int .i64 5, .int .i64 who, .int .i64 kc, .int .i64 kf, .int .u64 (ks : Int), .int .i64 sd, .int .i64 ac, .int .u64 (ep : Int), .int .u64 (n : Int)] 26) := ⟨_, rfl⟩
  rw [← hW0] at hX ⊢
  have h0 := hX.drew
  clear hW0 hX
  refine wp_region_held_drew (S := (fun W => BX w 26 #[.int .i64 5, .int .i64 who, .int .i64 kc, .int .i64 kf, .int .u64 (ks : Int), .int .i64 sd, .int .i64 ac, .int .u64 (ep : Int), .int .u64 (n : Int)] W)) (by kernel_rfl) h0 (fun hHeld => ?_)
  refine wpAnyH_take (i := 0) (oi := _) (v := ?_) rfl (by kernel_rfl) (by kernel_rfl) (by kernel_rfl) (fun _ _ _ h => h) (Or.inl ⟨by rfl, ?_⟩) (by assumption) ?_
  rotate_left
  · (intro W hSw; clear hSw; go_simp; try with_reducible rfl)
  try simp only [Act.put, List.getElem_toArray, List.getElem_cons_zero, List.setIfInBounds_toArray, List.set_cons_zero, List.set_cons_succ]
  refine wpAnyH_take (i := 1) (oi := _) (v := ?_) rfl (by kernel_rfl) (by kernel_rfl) (by kernel_rfl) (fun _ _ _ h => h) (Or.inl ⟨by rfl, ?_⟩) (by assumption) ?_
  rotate_left
  · (intro W hSw; (obtain ⟨y0, y1, y2, y3, y4, y5, y6, y7, y8⟩ : _ ∧ _ ∧ _ ∧ _ ∧ _ ∧ _ ∧ _ ∧ _ ∧ _ := ⟨cell_of_row W _ 0 _ _ (0, 0) hSw.2, cell_of_row W _ 1 _ _ (0, 0) hSw.2, cell_of_row W _ 2 _ _ (0, 0) hSw.2, cell_of_row W _ 3 _ _ (0, 0) hSw.2, cell_of_row W _ 4 _ _ (0, 0) hSw.2, cell_of_row W _ 5 _ _ (0, 0) hSw.2, cell_of_row W _ 6 _ _ (0, 0) hSw.2, cell_of_row W _ 7 _ _ (0, 0) hSw.2, cell_of_row W _ 8 _ _ (0, 0) hSw.2⟩; clear hSw; go_simp; try with_reducible rfl))
  try simp only [Act.put, List.getElem_toArray, List.getElem_cons_succ, List.getElem_cons_zero, List.setIfInBounds_toArray, List.set_cons_zero, List.set_cons_succ]
  refine wpAnyH_take (i := 3) (oi := _) (v := ?_) rfl (by kernel_rfl) (by kernel_rfl) (by kernel_rfl) (fun _ _ _ h => h) (Or.inl ⟨by rfl, ?_⟩) (by assumption) ?_
  rotate_left
  · (intro W hSw; clear hSw; go_simp; try with_reducible rfl)
  try simp only [Act.put, List.getElem_toArray, List.getElem_cons_succ, List.getElem_cons_zero, List.setIfInBounds_toArray, List.set_cons_zero, List.set_cons_succ]
  refine wpAnyH_take (i := 4) (oi := _) (v := ?_) rfl (by kernel_rfl) (by kernel_rfl) (by kernel_rfl) (fun _ _ _ h => h) (Or.inl ⟨by rfl, ?_⟩) (by assumption) ?_
  rotate_left
  · (intro W hSw; (obtain ⟨y0, y1, y2, y3, y4, y5, y6, y7, y8⟩ : _ ∧ _ ∧ _ ∧ _ ∧ _ ∧ _ ∧ _ ∧ _ ∧ _ := ⟨cell_of_row W _ 0 _ _ (0, 0) hSw.2, cell_of_row W _ 1 _ _ (0, 0) hSw.2, cell_of_row W _ 2 _ _ (0, 0) hSw.2, cell_of_row W _ 3 _ _ (0, 0) hSw.2, cell_of_row W _ 4 _ _ (0, 0) hSw.2, cell_of_row W _ 5 _ _ (0, 0) hSw.2, cell_of_row W _ 6 _ _ (0, 0) hSw.2, cell_of_row W _ 7 _ _ (0, 0) hSw.2, cell_of_row W _ 8 _ _ (0, 0) hSw.2⟩; clear hSw; go_simp; try with_reducible rfl))
  try simp only [Act.put, List.getElem_toArray, List.getElem_cons_succ, List.getElem_cons_zero, List.setIfInBounds_toArray, List.set_cons_zero, List.set_cons_succ]
  refine wpAnyH_ready (rs := [2]) (by kernel_rfl) (by simp) ?_
  refine AllReadyH.cons rfl (fun K hK => ?_) AllReadyH.nil
  simp only [List.getElem_toArray, List.getElem_cons_succ, List.getElem_cons_zero]
  rw [if_pos (by rfl)]
  go_simp
  (go_at_call 11; refine (HP.out _).mono ?_; rintro _ v1 ⟨rfl, b1⟩; have g1 := hHeld.call b1)
  go_wp2_with fail
  refine hK.out _ _ g1 (fun hHeld => ?_)
  clear hK K
  try simp only [Act.put, List.getElem_toArray, List.getElem_cons_succ, List.getElem_cons_zero, List.setIfInBounds_toArray, List.set_cons_zero, List.set_cons_succ]
  refine wpAnyH_ready (rs := [5]) (by kernel_rfl) (by simp) ?_
  refine AllReadyH.cons rfl (fun K hK => ?_) AllReadyH.nil
  simp only [List.getElem_toArray, List.getElem_cons_succ, List.getElem_cons_zero]
  rw [if_pos (by rfl)]
  go_simp
  (go_at_call 12; refine (HW.out _ g1.1.2).mono ?_; rintro _ v2 ⟨rfl, b2⟩; have g2 := g1.call b2)
  go_wp2_with fail
  refine hK.out _ _ g2 (fun hHeld => ?_)
  clear hK K
  try simp only [Act.put, List.getElem_toArray, List.getElem_cons_succ, List.getElem_cons_zero, List.setIfInBounds_toArray, List.set_cons_zero, List.set_cons_succ]
  refine wpAnyH_ready (rs := [6]) (by kernel_rfl) (by simp) ?_
  refine AllReadyH.cons rfl (fun K hK => ?_) AllReadyH.nil
  simp only [List.getElem_toArray, List.getElem_cons_succ, List.getElem_cons_zero]
  rw [if_pos (by rfl)]
  go_simp
  refine hK.out _ _ (g2.call ((Below.refl _ _).alloc (Nat.le_refl _) _)) (fun hHeld => ?_)
  clear hK K
  try simp only [Act.put, List.getElem_toArray, List.getElem_cons_succ, List.getElem_cons_zero, List.setIfInBounds_toArray, List.set_cons_zero, List.set_cons_succ]
  refine wpAnyH_take (i := 7) (oi := _) (v := ?_) rfl (by kernel_rfl) (by kernel_rfl) (by kernel_rfl) (fun _ _ _ h => h) (Or.inl ⟨by rfl, ?_⟩) (by assumption) ?_
  rotate_left
  · (intro W hSw; clear hSw; go_simp; try with_reducible rfl)
  try simp only [Act.put, List.getElem_toArray, List.getElem_cons_succ, List.getElem_cons_zero, List.setIfInBounds_toArray, List.set_cons_zero, List.set_cons_succ]
  refine wpAnyH_done (by kernel_rfl) ?_ _
  have HO1 := Lib.hid (own_new v2 (w.heap.size + 1) 3 #[.string P, .string ⟨#[98, 121]⟩, .string I] rfl (Array.getElem?_eq_some_iff.1 g2.2).1 (by decide))
  have HX2 := Lib.hid (g2.call ((Below.refl _ _).alloc (Nat.le_refl _) (.cells #[.string P, .string ⟨#[98, 121]⟩, .string I] 9)))
  obtain ⟨g, hg⟩ : ∃ g, g = v2.heap.size := ⟨_, rfl⟩
  obtain ⟨W2, hW2⟩ : ∃ X, X = v2.alloc (.cells #[.string P, .string ⟨#[98, 121]⟩, .string I] 9) := ⟨_, rfl⟩
  rw [← hW2] at HX2 HO1 ⊢
  rw [← hg] at HO1 ⊢
  clear hg hW2 h0 g1 g2 b1 b2
  obtain ⟨x0, x1, x2, x3, x4, x5, x6, x7, x8⟩ : _ ∧ _ ∧ _ ∧ _ ∧ _ ∧ _ ∧ _ ∧ _ ∧ _ := ⟨cell_of_row W2 _ 0 _ _ (0, 0) HX2.out.2, cell_of_row W2 _ 1 _ _ (0, 0) HX2.out.2, cell_of_row W2 _ 2 _ _ (0, 0) HX2.out.2, cell_of_row W2 _ 3 _ _ (0, 0) HX2.out.2, cell_of_row W2 _ 4 _ _ (0, 0) HX2.out.2, cell_of_row W2 _ 5 _ _ (0, 0) HX2.out.2, cell_of_row W2 _ 6 _ _ (0, 0) HX2.out.2, cell_of_row W2 _ 7 _ _ (0, 0) HX2.out.2, cell_of_row W2 _ 8 _ _ (0, 0) HX2.out.2⟩
  go_wp2_with fail
  refine (HN.out _ HX2.out.1.2).mono ?_
  rintro _ w6 ⟨rfl, b1⟩
  have HX6 := Lib.hid (HX2.out.call b1)
  have HO6 := Lib.hid (own_below HO1.out b1)
  clear b1 HX2 HO1 x0 x1 x2 x3 x4 x5 x6 x7 x8
  have hsz6 := HX6.out.1.1.size
  have hlt6 := (Array.getElem?_eq_some_iff.1 HX6.out.2).1
  go_wp2_with (at_builtin; refine wpList_append_own _ rfl _ _ 38 rfl (w.heap.size + 1) 9 i0 (.string ⟨#[]⟩) 1 16 Tryd.underlying38 HI.out.2.2.2 HI.out.2.1 HI.out.2.2.1 HI.out.1 rfl (by decide) _ _ _ rfl (HO6.out.alloc _) ⟨w6.heap.size, 0, none⟩ 1 1 [.string N] rfl rfl (news_new w6 #[.string N] _) (strs_one [N]) (by unfold maxLen; omega) (by omega) (by simp; omega) ?_; intro v7 w7 hown7 hg7 _)
  have HX7 := Lib.hid (BX.push HT.out HX6.out HO6.out hg7)
  have HO7 := Lib.hid hown7
  clear hown7 hg7 HX6 HO6 hsz6 hlt6
  have hj : joinB [P, ⟨#[98, 121]⟩, I, N] = E := by
    rw [HE.out]
    simp only [join_cons, join_one]
    exact ext_l (by simp)
  have hjs : (joinB [P, ⟨#[98, 121]⟩, I, N]).size ≤ 1000000 := by
    rw [hj, HE.out]
    simp only [ByteArray.size_append]
    simp only [show (⟨#[32]⟩ : ByteArray).size = 1 from rfl, show (⟨#[32, 98, 121, 32]⟩ : ByteArray).size = 4 from rfl]
    omega
  have HJ := Lib.hid (join_own _ v7 [P, ⟨#[98, 121]⟩, I, N] _ HO7.out (by simp) (by simp) hjs)
  rw [hj] at HJ
  clear hj hjs
  refine HJ.out.mono ?_
  rintro _ w8 ⟨rfl, b1⟩
  have HX8 := Lib.hid (HX7.out.1.1.trans (b1.mono HX7.out.1.1.size))
  clear b1 HJ
  go_wp2
  go_ret
  exact ⟨rfl, HX8.out⟩

set_option maxRecDepth 100000 in
set_option maxHeartbeats 2000000 in
theorem op_7 (k who kc kf : Int) (ks : Nat) (sd ac : Int) (ep n : Nat) (ho : (O9.mk k who ⟨kc, kf, ks⟩ sd ac ep n).ok) (hk : k = 7) (w : World) (ht : Tab w) :
    Calls Tryd.prog 5 #[.agg #[.int .i64 k, .int .i64 who, .int .i64 kc, .int .i64 kf, .int .u64 (ks : Int), .int .i64 sd, .int .i64 ac, .int .u64 (ep : Int), .int .u64 (n : Int)]] w fun e w' => e = .returned (.string (opB ⟨k, who, ⟨kc, kf, ks⟩, sd, ac, ep, n⟩)) ∧ Below w.heap.size w w' := by
  obtain ⟨hw, hkey, ha, hep, hn⟩ := ho
  dsimp only at hw hkey ha hep hn
  subst hk
  obtain ⟨E, hE⟩ : ∃ E, E = opB ⟨7, who, ⟨kc, kf, ks⟩, sd, ac, ep, n⟩ := ⟨_, rfl⟩
  rw [← hE]
  unfold opB nB acB headB at hE
  dsimp only at hE
  rw [if_neg (by omega), if_neg (by omega), if_pos (.inl rfl)] at hE
  have hp := opW_size 7
  have hi := intW_size who hw.1 hw.2
  have hn4 := nameB_size ⟨kc, kf, ks⟩ hkey
  have hd := sideW_size sd
  have hac := intW_size ac ha.1 ha.2
  have hy := decW_size n hn
  have hz := decW_size ep hep
  have HP := Lib.hid (fun W => opw_any 7 W)
  have HW := Lib.hid (fun W h => itoa_any who hw.1 hw.2 W h)
  have HA := Lib.hid (fun W h => itoa_any ac ha.1 ha.2 W h)
  have HN := Lib.hid (fun W h => name_any ⟨kc, kf, ks⟩ hkey W h)
  have HY := Lib.hid (fun W h => number_any n hn W h)
  have HZ := Lib.hid (fun W h => number_any ep hep W h)
  have HD := Lib.hid (fun W => side_any sd W)
  rw [show (⟨(Lib.itoa who).toArray⟩ : ByteArray) = intW who from rfl] at HW
  rw [show (⟨(Lib.itoa ac).toArray⟩ : ByteArray) = intW ac from rfl] at HA
  unfold K3.cells at HN
  dsimp only at HN
  generalize opW 7 = P at *
  generalize intW who = I at *
  generalize intW ac = A at *
  generalize nameB _ = N at *
  generalize sideW sd = D at *
  generalize decW n = Y at *
  generalize decW ep = Z at *
  have HE := Lib.hid hE
  have hX := BX.new w 26 #[.int .i64 7, .int .i64 who, .int .i64 kc, .int .i64 kf, .int .u64 (ks : Int), .int .i64 sd, .int .i64 ac, .int .u64 (ep : Int), .int .u64 (n : Int)] ht
  have HT := Lib.hid ht
  obtain ⟨i0, ji, jz0, jz1, jz2⟩ := info_parts infoS
  have HI := Lib.hid (And.intro jz2 (And.intro jz0 (And.intro jz1 ji)))
  clear hE hw hkey ha hep hn ht ji jz0 jz1 jz2
  go_enter Tryd.func5, Tryd.ntmps5
  go_upto_region 1 with fail
  obtain ⟨W0, hW0⟩ : ∃ X, X = w.alloc (.cells #[.int .i64 7, .int .i64 who, .int .i64 kc, .int .i64 kf, .int .u64 (ks : Int), .int .i64 sd, .int .i64 ac, .int .u64 (ep : Int), .int .u64 (n : Int)] 26) := ⟨_, rfl⟩
  rw [← hW0] at hX ⊢
  have h0 := hX.drew
  clear hW0 hX
  refine wp_region_held_drew (S := (fun W => BX w 26 #[.int .i64 7, .int .i64 who, .int .i64 kc, .int .i64 kf, .int .u64 (ks : Int), .int .i64 sd, .int .i64 ac, .int .u64 (ep : Int), .int .u64 (n : Int)] W)) (by kernel_rfl) h0 (fun hHeld => ?_)
  refine wpAnyH_take (i := 0) (oi := _) (v := ?_) rfl (by kernel_rfl) (by kernel_rfl) (by kernel_rfl) (fun _ _ _ h => h) (Or.inl ⟨by rfl, ?_⟩) (by assumption) ?_
  rotate_left
  · (intro W hSw; clear hSw; go_simp; try with_reducible rfl)
  try simp only [Act.put, List.getElem_toArray, List.getElem_cons_zero, List.setIfInBounds_toArray, List.set_cons_zero, List.set_cons_succ]
  refine wpAnyH_take (i := 1) (oi := _) (v := ?_) rfl (by kernel_rfl) (by kernel_rfl) (by kernel_rfl) (fun _ _ _ h => h) (Or.inl ⟨by rfl, ?_⟩) (by assumption) ?_
  rotate_left
  · (intro W hSw; (obtain ⟨y0, y1, y2, y3, y4, y5, y6, y7, y8⟩ : _ ∧ _ ∧ _ ∧ _ ∧ _ ∧ _ ∧ _ ∧ _ ∧ _ := ⟨cell_of_row W _ 0 _ _ (0, 0) hSw.2, cell_of_row W _ 1 _ _ (0, 0) hSw.2, cell_of_row W _ 2 _ _ (0, 0) hSw.2, cell_of_row W _ 3 _ _ (0, 0) hSw.2, cell_of_row W _ 4 _ _ (0, 0) hSw.2, cell_of_row W _ 5 _ _ (0, 0) hSw.2, cell_of_row W _ 6 _ _ (0, 0) hSw.2, cell_of_row W _ 7 _ _ (0, 0) hSw.2, cell_of_row W _ 8 _ _ (0, 0) hSw.2⟩; clear hSw; go_simp; try with_reducible rfl))
  try simp only [Act.put, List.getElem_toArray, List.getElem_cons_succ, List.getElem_cons_zero, List.setIfInBounds_toArray, List.set_cons_zero, List.set_cons_succ]
  refine wpAnyH_take (i := 3) (oi := _) (v := ?_) rfl (by kernel_rfl) (by kernel_rfl) (by kernel_rfl) (fun _ _ _ h => h) (Or.inl ⟨by rfl, ?_⟩) (by assumption) ?_
  rotate_left
  · (intro W hSw; clear hSw; go_simp; try with_reducible rfl)
  try simp only [Act.put, List.getElem_toArray, List.getElem_cons_succ, List.getElem_cons_zero, List.setIfInBounds_toArray, List.set_cons_zero, List.set_cons_succ]
  refine wpAnyH_take (i := 4) (oi := _) (v := ?_) rfl (by kernel_rfl) (by kernel_rfl) (by kernel_rfl) (fun _ _ _ h => h) (Or.inl ⟨by rfl, ?_⟩) (by assumption) ?_
  rotate_left
  · (intro W hSw; (obtain ⟨y0, y1, y2, y3, y4, y5, y6, y7, y8⟩ : _ ∧ _ ∧ _ ∧ _ ∧ _ ∧ _ ∧ _ ∧ _ ∧ _ := ⟨cell_of_row W _ 0 _ _ (0, 0) hSw.2, cell_of_row W _ 1 _ _ (0, 0) hSw.2, cell_of_row W _ 2 _ _ (0, 0) hSw.2, cell_of_row W _ 3 _ _ (0, 0) hSw.2, cell_of_row W _ 4 _ _ (0, 0) hSw.2, cell_of_row W _ 5 _ _ (0, 0) hSw.2, cell_of_row W _ 6 _ _ (0, 0) hSw.2, cell_of_row W _ 7 _ _ (0, 0) hSw.2, cell_of_row W _ 8 _ _ (0, 0) hSw.2⟩; clear hSw; go_simp; try with_reducible rfl))
  try simp only [Act.put, List.getElem_toArray, List.getElem_cons_succ, List.getElem_cons_zero, List.setIfInBounds_toArray, List.set_cons_zero, List.set_cons_succ]
  refine wpAnyH_ready (rs := [2]) (by kernel_rfl) (by simp) ?_
  refine AllReadyH.cons rfl (fun K hK => ?_) AllReadyH.nil
  simp only [List.getElem_toArray, List.getElem_cons_succ, List.getElem_cons_zero]
  rw [if_pos (by rfl)]
  go_simp
  (go_at_call 11; refine (HP.out _).mono ?_; rintro _ v1 ⟨rfl, b1⟩; have g1 := hHeld.call b1)
  go_wp2_with fail
  refine hK.out _ _ g1 (fun hHeld => ?_)
  clear hK K
  try simp only [Act.put, List.getElem_toArray, List.getElem_cons_succ, List.getElem_cons_zero, List.setIfInBounds_toArray, List.set_cons_zero, List.set_cons_succ]
  refine wpAnyH_ready (rs := [5]) (by kernel_rfl) (by simp) ?_
  refine AllReadyH.cons rfl (fun K hK => ?_) AllReadyH.nil
  simp only [List.getElem_toArray, List.getElem_cons_succ, List.getElem_cons_zero]
  rw [if_pos (by rfl)]
  go_simp
  (go_at_call 12; refine (HW.out _ g1.1.2).mono ?_; rintro _ v2 ⟨rfl, b2⟩; have g2 := g1.call b2)
  go_wp2_with fail
  refine hK.out _ _ g2 (fun hHeld => ?_)
  clear hK K
  try simp only [Act.put, List.getElem_toArray, List.getElem_cons_succ, List.getElem_cons_zero, List.setIfInBounds_toArray, List.set_cons_zero, List.set_cons_succ]
  refine wpAnyH_ready (rs := [6]) (by kernel_rfl) (by simp) ?_
  refine AllReadyH.cons rfl (fun K hK => ?_) AllReadyH.nil
  simp only [List.getElem_toArray, List.getElem_cons_succ, List.getElem_cons_zero]
  rw [if_pos (by rfl)]
  go_simp
  refine hK.out _ _ (g2.call ((Below.refl _ _).alloc (Nat.le_refl _) _)) (fun hHeld => ?_)
  clear hK K
  try simp only [Act.put, List.getElem_toArray, List.getElem_cons_succ, List.getElem_cons_zero, List.setIfInBounds_toArray, List.set_cons_zero, List.set_cons_succ]
  refine wpAnyH_take (i := 7) (oi := _) (v := ?_) rfl (by kernel_rfl) (by kernel_rfl) (by kernel_rfl) (fun _ _ _ h => h) (Or.inl ⟨by rfl, ?_⟩) (by assumption) ?_
  rotate_left
  · (intro W hSw; clear hSw; go_simp; try with_reducible rfl)
  try simp only [Act.put, List.getElem_toArray, List.getElem_cons_succ, List.getElem_cons_zero, List.setIfInBounds_toArray, List.set_cons_zero, List.set_cons_succ]
  refine wpAnyH_done (by kernel_rfl) ?_ _
  have HO1 := Lib.hid (own_new v2 (w.heap.size + 1) 3 #[.string P, .string ⟨#[98, 121]⟩, .string I] rfl (Array.getElem?_eq_some_iff.1 g2.2).1 (by decide))
  have HX2 := Lib.hid (g2.call ((Below.refl _ _).alloc (Nat.le_refl _) (.cells #[.string P, .string ⟨#[98, 121]⟩, .string I] 9)))
  obtain ⟨g, hg⟩ : ∃ g, g = v2.heap.size := ⟨_, rfl⟩
  obtain ⟨W2, hW2⟩ : ∃ X, X = v2.alloc (.cells #[.string P, .string ⟨#[98, 121]⟩, .string I] 9) := ⟨_, rfl⟩
  rw [← hW2] at HX2 HO1 ⊢
  rw [← hg] at HO1 ⊢
  clear hg hW2 h0 g1 g2 b1 b2
  obtain ⟨x0, x1, x2, x3, x4, x5, x6, x7, x8⟩ : _ ∧ _ ∧ _ ∧ _ ∧ _ ∧ _ ∧ _ ∧ _ ∧ _ := ⟨cell_of_row W2 _ 0 _ _ (0, 0) HX2.out.2, cell_of_row W2 _ 1 _ _ (0, 0) HX2.out.2, cell_of_row W2 _ 2 _ _ (0, 0) HX2.out.2, cell_of_row W2 _ 3 _ _ (0, 0) HX2.out.2, cell_of_row W2 _ 4 _ _ (0, 0) HX2.out.2, cell_of_row W2 _ 5 _ _ (0, 0) HX2.out.2, cell_of_row W2 _ 6 _ _ (0, 0) HX2.out.2, cell_of_row W2 _ 7 _ _ (0, 0) HX2.out.2, cell_of_row W2 _ 8 _ _ (0, 0) HX2.out.2⟩
  go_upto_region 14 with fail
  have h8 := And.intro HX2.out.drew (World.ownsRow.drew HO1.out)
  clear x0 x1 x2 x3 x4 x5 x6 x7 x8
  refine wp_region_held_drew (S := (fun W => BX w 26 #[.int .i64 7, .int .i64 who, .int .i64 kc, .int .i64 kf, .int .u64 (ks : Int), .int .i64 sd, .int .i64 ac, .int .u64 (ep : Int), .int .u64 (n : Int)] W ∧ W.ownsRow (w.heap.size + 1) 9 1 (.slice (some ⟨g, 0, none⟩) 3 3) 3 [.string P, .string ⟨#[98, 121]⟩, .string I])) (by kernel_rfl) h8 (fun hHeld => ?_)
  refine wpAnyH_take (i := 0) (oi := _) (v := ?_) rfl (by kernel_rfl) (by kernel_rfl) (by kernel_rfl) (fun _ _ _ h => h) (Or.inl ⟨by rfl, ?_⟩) (by assumption) ?_
  rotate_left
  · (intro W hSw; clear hSw; go_simp; try with_reducible rfl)
  try simp only [Act.put, List.getElem_toArray, List.getElem_cons_zero, List.setIfInBounds_toArray, List.set_cons_zero, List.set_cons_succ]
  refine wpAnyH_take (i := 1) (oi := _) (v := ?_) rfl (by kernel_rfl) (by kernel_rfl) (by kernel_rfl) (fun _ _ _ h => h) (Or.inl ⟨by rfl, ?_⟩) (by assumption) ?_
  rotate_left
  · (intro W hSw; clear hSw; go_simp; try with_reducible rfl)
  try simp only [Act.put, List.getElem_toArray, List.getElem_cons_succ, List.getElem_cons_zero, List.setIfInBounds_toArray, List.set_cons_zero, List.set_cons_succ]
  refine wpAnyH_take (i := 2) (oi := _) (v := ?_) rfl (by kernel_rfl) (by kernel_rfl) (by kernel_rfl) (fun _ _ _ h => h) (Or.inl ⟨by rfl, ?_⟩) (by assumption) ?_
  rotate_left
  · (intro W hSw; (obtain ⟨y0, y1, y2, y3, y4, y5, y6, y7, y8⟩ : _ ∧ _ ∧ _ ∧ _ ∧ _ ∧ _ ∧ _ ∧ _ ∧ _ := ⟨cell_of_row W _ 0 _ _ (0, 0) hSw.1.2, cell_of_row W _ 1 _ _ (0, 0) hSw.1.2, cell_of_row W _ 2 _ _ (0, 0) hSw.1.2, cell_of_row W _ 3 _ _ (0, 0) hSw.1.2, cell_of_row W _ 4 _ _ (0, 0) hSw.1.2, cell_of_row W _ 5 _ _ (0, 0) hSw.1.2, cell_of_row W _ 6 _ _ (0, 0) hSw.1.2, cell_of_row W _ 7 _ _ (0, 0) hSw.1.2, cell_of_row W _ 8 _ _ (0, 0) hSw.1.2⟩; clear hSw; go_simp; try with_reducible rfl))
  try simp only [Act.put, List.getElem_toArray, List.getElem_cons_succ, List.getElem_cons_zero, List.setIfInBounds_toArray, List.set_cons_zero, List.set_cons_succ]
  refine wpAnyH_take (i := 4) (oi := _) (v := ?_) rfl (by kernel_rfl) (by kernel_rfl) (by kernel_rfl) (fun _ _ _ h => h) (Or.inl ⟨by rfl, ?_⟩) (by assumption) ?_
  rotate_left
  · (intro W hSw; clear hSw; go_simp; try with_reducible rfl)
  try simp only [Act.put, List.getElem_toArray, List.getElem_cons_succ, List.getElem_cons_zero, List.setIfInBounds_toArray, List.set_cons_zero, List.set_cons_succ]
  refine wpAnyH_take (i := 5) (oi := _) (v := ?_) rfl (by kernel_rfl) (by kernel_rfl) (by kernel_rfl) (fun _ _ _ h => h) (Or.inl ⟨by rfl, ?_⟩) (by assumption) ?_
  rotate_left
  · (intro W hSw; (obtain ⟨y0, y1, y2, y3, y4, y5, y6, y7, y8⟩ : _ ∧ _ ∧ _ ∧ _ ∧ _ ∧ _ ∧ _ ∧ _ ∧ _ := ⟨cell_of_row W _ 0 _ _ (0, 0) hSw.1.2, cell_of_row W _ 1 _ _ (0, 0) hSw.1.2, cell_of_row W _ 2 _ _ (0, 0) hSw.1.2, cell_of_row W _ 3 _ _ (0, 0) hSw.1.2, cell_of_row W _ 4 _ _ (0, 0) hSw.1.2, cell_of_row W _ 5 _ _ (0, 0) hSw.1.2, cell_of_row W _ 6 _ _ (0, 0) hSw.1.2, cell_of_row W _ 7 _ _ (0, 0) hSw.1.2, cell_of_row W _ 8 _ _ (0, 0) hSw.1.2⟩; clear hSw; go_simp; try with_reducible rfl))
  try simp only [Act.put, List.getElem_toArray, List.getElem_cons_succ, List.getElem_cons_zero, List.setIfInBounds_toArray, List.set_cons_zero, List.set_cons_succ]
  refine wpAnyH_take (i := 7) (oi := _) (v := ?_) rfl (by kernel_rfl) (by kernel_rfl) (by kernel_rfl) (fun _ _ _ h => h) (Or.inl ⟨by rfl, ?_⟩) (by assumption) ?_
  rotate_left
  · (intro W hSw; clear hSw; go_simp; try with_reducible rfl)
  try simp only [Act.put, List.getElem_toArray, List.getElem_cons_succ, List.getElem_cons_zero, List.setIfInBounds_toArray, List.set_cons_zero, List.set_cons_succ]
  refine wpAnyH_take (i := 8) (oi := _) (v := ?_) rfl (by kernel_rfl) (by kernel_rfl) (by kernel_rfl) (fun _ _ _ h => h) (Or.inl ⟨by rfl, ?_⟩) (by assumption) ?_
  rotate_left
  · (intro W hSw; (obtain ⟨y0, y1, y2, y3, y4, y5, y6, y7, y8⟩ : _ ∧ _ ∧ _ ∧ _ ∧ _ ∧ _ ∧ _ ∧ _ ∧ _ := ⟨cell_of_row W _ 0 _ _ (0, 0) hSw.1.2, cell_of_row W _ 1 _ _ (0, 0) hSw.1.2, cell_of_row W _ 2 _ _ (0, 0) hSw.1.2, cell_of_row W _ 3 _ _ (0, 0) hSw.1.2, cell_of_row W _ 4 _ _ (0, 0) hSw.1.2, cell_of_row W _ 5 _ _ (0, 0) hSw.1.2, cell_of_row W _ 6 _ _ (0, 0) hSw.1.2, cell_of_row W _ 7 _ _ (0, 0) hSw.1.2, cell_of_row W _ 8 _ _ (0, 0) hSw.1.2⟩; clear hSw; go_simp; try with_reducible rfl))
  try simp only [Act.put, List.getElem_toArray, List.getElem_cons_succ, List.getElem_cons_zero, List.setIfInBounds_toArray, List.set_cons_zero, List.set_cons_succ]
  refine wpAnyH_take (i := 10) (oi := _) (v := ?_) rfl (by kernel_rfl) (by kernel_rfl) (by kernel_rfl) (fun _ _ _ h => h) (Or.inl ⟨by rfl, ?_⟩) (by assumption) ?_
  rotate_left
  · (intro W hSw; clear hSw; go_simp; try with_reducible rfl)
  try simp only [Act.put, List.getElem_toArray, List.getElem_cons_succ, List.getElem_cons_zero, List.setIfInBounds_toArray, List.set_cons_zero, List.set_cons_succ]
  refine wpAnyH_take (i := 11) (oi := _) (v := ?_) rfl (by kernel_rfl) (by kernel_rfl) (by kernel_rfl) (fun _ _ _ h => h) (Or.inl ⟨by rfl, ?_⟩) (by assumption) ?_
  rotate_left
  · (intro W hSw; (obtain ⟨y0, y1, y2, y3, y4, y5, y6, y7, y8⟩ : _ ∧ _ ∧ _ ∧ _ ∧ _ ∧ _ ∧ _ ∧ _ ∧ _ := ⟨cell_of_row W _ 0 _ _ (0, 0) hSw.1.2, cell_of_row W _ 1 _ _ (0, 0) hSw.1.2, cell_of_row W _ 2 _ _ (0, 0) hSw.1.2, cell_of_row W _ 3 _ _ (0, 0) hSw.1.2, cell_of_row W _ 4 _ _ (0, 0) hSw.1.2, cell_of_row W _ 5 _ _ (0, 0) hSw.1.2, cell_of_row W _ 6 _ _ (0, 0) hSw.1.2, cell_of_row W _ 7 _ _ (0, 0) hSw.1.2, cell_of_row W _ 8 _ _ (0, 0) hSw.1.2⟩; clear hSw; go_simp; try with_reducible rfl))
  try simp only [Act.put, List.getElem_toArray, List.getElem_cons_succ, List.getElem_cons_zero, List.setIfInBounds_toArray, List.set_cons_zero, List.set_cons_succ]
  refine wpAnyH_ready (rs := [3]) (by kernel_rfl) (by simp) ?_
  refine AllReadyH.cons rfl (fun K hK => ?_) AllReadyH.nil
  simp only [List.getElem_toArray, List.getElem_cons_succ, List.getElem_cons_zero]
  rw [if_pos (by rfl)]
  go_simp
  (go_at_call 14; refine (HD.out _).mono ?_; rintro _ t1 ⟨rfl, b1⟩; have u1 := And.intro (hHeld.1.call b1) (own_below hHeld.2 b1))
  go_wp2_with fail
  refine hK.out _ _ u1 (fun hHeld => ?_)
  clear hK K
  try simp only [Act.put, List.getElem_toArray, List.getElem_cons_succ, List.getElem_cons_zero, List.setIfInBounds_toArray, List.set_cons_zero, List.set_cons_succ]
  refine wpAnyH_ready (rs := [6]) (by kernel_rfl) (by simp) ?_
  refine AllReadyH.cons rfl (fun K hK => ?_) AllReadyH.nil
  simp only [List.getElem_toArray, List.getElem_cons_succ, List.getElem_cons_zero]
  rw [if_pos (by rfl)]
  go_simp
  (go_at_call 12; refine (HA.out _ u1.1.1.2).mono ?_; rintro _ t2 ⟨rfl, b2⟩; have u2 := And.intro (u1.1.call b2) (own_below u1.2 b2))
  go_wp2_with fail
  refine hK.out _ _ u2 (fun hHeld => ?_)
  clear hK K
  try simp only [Act.put, List.getElem_toArray, List.getElem_cons_succ, List.getElem_cons_zero, List.setIfInBounds_toArray, List.set_cons_zero, List.set_cons_succ]
  refine wpAnyH_ready (rs := [9]) (by kernel_rfl) (by simp) ?_
  refine AllReadyH.cons rfl (fun K hK => ?_) AllReadyH.nil
  simp only [List.getElem_toArray, List.getElem_cons_succ, List.getElem_cons_zero]
  rw [if_pos (by rfl)]
  go_simp
  (go_at_call 15; refine (HY.out _ u2.1.1.2).mono ?_; rintro _ t3 ⟨rfl, b3⟩; have u3 := And.intro (u2.1.call b3) (own_below u2.2 b3))
  go_wp2_with fail
  refine hK.out _ _ u3 (fun hHeld => ?_)
  clear hK K
  try simp only [Act.put, List.getElem_toArray, List.getElem_cons_succ, List.getElem_cons_zero, List.setIfInBounds_toArray, List.set_cons_zero, List.set_cons_succ]
  refine wpAnyH_ready (rs := [12]) (by kernel_rfl) (by simp) ?_
  refine AllReadyH.cons rfl (fun K hK => ?_) AllReadyH.nil
  simp only [List.getElem_toArray, List.getElem_cons_succ, List.getElem_cons_zero]
  rw [if_pos (by rfl)]
  go_simp
  (go_at_call 15; refine (HZ.out _ u3.1.1.2).mono ?_; rintro _ t4 ⟨rfl, b4⟩; have u4 := And.intro (u3.1.call b4) (own_below u3.2 b4))
  go_wp2_with fail
  refine hK.out _ _ u4 (fun hHeld => ?_)
  clear hK K
  try simp only [Act.put, List.getElem_toArray, List.getElem_cons_succ, List.getElem_cons_zero, List.setIfInBounds_toArray, List.set_cons_zero, List.set_cons_succ]
  refine wpAnyH_ready (rs := [13]) (by kernel_rfl) (by simp) ?_
  refine AllReadyH.cons rfl (fun K hK => ?_) AllReadyH.nil
  simp only [List.getElem_toArray, List.getElem_cons_succ, List.getElem_cons_zero]
  rw [if_pos (by rfl)]
  go_simp
  refine hK.out _ _ (And.intro (u4.1.call ((Below.refl _ _).alloc (Nat.le_refl _) _)) (World.ownsRow.alloc u4.2 _)) (fun hHeld => ?_)
  clear hK K
  try simp only [Act.put, List.getElem_toArray, List.getElem_cons_succ, List.getElem_cons_zero, List.setIfInBounds_toArray, List.set_cons_zero, List.set_cons_succ]
  refine wpAnyH_ready (rs := [14]) (by kernel_rfl) (by simp) ?_
  refine AllReadyH.cons rfl (fun K hK => ?_) AllReadyH.nil
  simp only [List.getElem_toArray, List.getElem_cons_succ, List.getElem_cons_zero]
  rw [if_pos (by rfl)]
  (refine wp_append_keep _ _ _ _ (by rfl) (w.heap.size + 1) 9 i0 _ 1 16 Tryd.underlying38 HI.out.2.2.2 HI.out.2.1 HI.out.2.2.1 HI.out.1 rfl (by decide) _ _ _ (by rfl) (World.ownsRow.alloc u4.2 _) ⟨t4.heap.size, 0, none⟩ 5 5 [.string D, .string A, .string Y, .string ⟨#[105, 110]⟩, .string Z] (by rfl) rfl (news_new t4 #[.string D, .string A, .string Y, .string ⟨#[105, 110]⟩, .string Z] _) (strs_one [D, A, Y, ⟨#[105, 110]⟩, Z]) (by decide) (by unfold maxLen; omega) (by omega) (by have := u4.1.1.1.size; have := (Array.getElem?_eq_some_iff.1 u4.1.2).1; simp; omega) (t4.heap.size + 1) (by simp) ?_; intro gg cap2 w5 hown5 hg5 hat5 hold5; have hS5 := And.intro (BX.push HT.out u4.1 u4.2 hg5) hold5)
  refine hK.out _ _ hS5 (fun hHeld => ?_)
  clear hK K
  try simp only [Act.put, List.setIfInBounds_toArray, List.set_cons_zero, List.set_cons_succ]
  refine wpAnyH_take (i := 15) (oi := _) (v := ?_) rfl (by kernel_rfl) (by kernel_rfl) (by kernel_rfl) (fun _ _ _ h => h) (Or.inl ⟨by rfl, ?_⟩) (by assumption) ?_
  rotate_left
  · (intro W hSw; clear hSw; go_simp; try with_reducible rfl)
  try simp only [Act.put, List.getElem_toArray, List.getElem_cons_succ, List.getElem_cons_zero, List.setIfInBounds_toArray, List.set_cons_zero, List.set_cons_succ]
  refine wpAnyH_done (by kernel_rfl) ?_ _
  have HX3 := Lib.hid hS5.1
  have HO3 := Lib.hid hown5
  clear h8 u1 b1 u2 b2 u3 b3 u4 b4 HX2 HO1 hS5 hown5 hg5 hat5 hold5
  go_wp2_with fail
  have hj : joinB [P, ⟨#[98, 121]⟩, I, D, A, Y, ⟨#[105, 110]⟩, Z] = E := by
    rw [HE.out]
    simp only [join_cons, join_one]
    exact ext_l (by simp)
  have hjs : (joinB [P, ⟨#[98, 121]⟩, I, D, A, Y, ⟨#[105, 110]⟩, Z]).size ≤ 1000000 := by
    rw [hj, HE.out]
    simp only [ByteArray.size_append]
    simp only [show (⟨#[32]⟩ : ByteArray).size = 1 from rfl, show (⟨#[32, 98, 121, 32]⟩ : ByteArray).size = 4 from rfl, show (⟨#[32, 105, 110, 32]⟩ : ByteArray).size = 4 from rfl]
    omega
  have HJ := Lib.hid (join_own _ _ [P, ⟨#[98, 121]⟩, I, D, A, Y, ⟨#[105, 110]⟩, Z] _ HO3.out (by simp) (by simp) hjs)
  rw [hj] at HJ
  clear hj hjs
  refine HJ.out.mono ?_
  rintro _ w8 ⟨rfl, b1⟩
  have HX8 := Lib.hid (HX3.out.1.1.trans (b1.mono HX3.out.1.1.size))
  clear b1 HJ
  go_wp2
  go_ret
  exact ⟨rfl, HX8.out⟩

set_option maxRecDepth 100000 in
set_option maxHeartbeats 2000000 in
theorem op_8 (k who kc kf : Int) (ks : Nat) (sd ac : Int) (ep n : Nat) (ho : (O9.mk k who ⟨kc, kf, ks⟩ sd ac ep n).ok) (hk : k = 8) (w : World) (ht : Tab w) :
    Calls Tryd.prog 5 #[.agg #[.int .i64 k, .int .i64 who, .int .i64 kc, .int .i64 kf, .int .u64 (ks : Int), .int .i64 sd, .int .i64 ac, .int .u64 (ep : Int), .int .u64 (n : Int)]] w fun e w' => e = .returned (.string (opB ⟨k, who, ⟨kc, kf, ks⟩, sd, ac, ep, n⟩)) ∧ Below w.heap.size w w' := by
  obtain ⟨hw, hkey, ha, hep, hn⟩ := ho
  dsimp only at hw hkey ha hep hn
  subst hk
  obtain ⟨E, hE⟩ : ∃ E, E = opB ⟨8, who, ⟨kc, kf, ks⟩, sd, ac, ep, n⟩ := ⟨_, rfl⟩
  rw [← hE]
  unfold opB nB acB headB at hE
  dsimp only at hE
  rw [if_neg (by omega), if_neg (by omega), if_pos (.inr rfl)] at hE
  have hp := opW_size 8
  have hi := intW_size who hw.1 hw.2
  have hn4 := nameB_size ⟨kc, kf, ks⟩ hkey
  have hd := sideW_size sd
  have hac := intW_size ac ha.1 ha.2
  have hy := decW_size n hn
  have hz := decW_size ep hep
  have HP := Lib.hid (fun W => opw_any 8 W)
  have HW := Lib.hid (fun W h => itoa_any who hw.1 hw.2 W h)
  have HA := Lib.hid (fun W h => itoa_any ac ha.1 ha.2 W h)
  have HN := Lib.hid (fun W h => name_any ⟨kc, kf, ks⟩ hkey W h)
  have HY := Lib.hid (fun W h => number_any n hn W h)
  have HZ := Lib.hid (fun W h => number_any ep hep W h)
  have HD := Lib.hid (fun W => side_any sd W)
  rw [show (⟨(Lib.itoa who).toArray⟩ : ByteArray) = intW who from rfl] at HW
  rw [show (⟨(Lib.itoa ac).toArray⟩ : ByteArray) = intW ac from rfl] at HA
  unfold K3.cells at HN
  dsimp only at HN
  generalize opW 8 = P at *
  generalize intW who = I at *
  generalize intW ac = A at *
  generalize nameB _ = N at *
  generalize sideW sd = D at *
  generalize decW n = Y at *
  generalize decW ep = Z at *
  have HE := Lib.hid hE
  have hX := BX.new w 26 #[.int .i64 8, .int .i64 who, .int .i64 kc, .int .i64 kf, .int .u64 (ks : Int), .int .i64 sd, .int .i64 ac, .int .u64 (ep : Int), .int .u64 (n : Int)] ht
  have HT := Lib.hid ht
  obtain ⟨i0, ji, jz0, jz1, jz2⟩ := info_parts infoS
  have HI := Lib.hid (And.intro jz2 (And.intro jz0 (And.intro jz1 ji)))
  clear hE hw hkey ha hep hn ht ji jz0 jz1 jz2
  go_enter Tryd.func5, Tryd.ntmps5
  go_upto_region 1 with fail
  obtain ⟨W0, hW0⟩ : ∃ X, X = w.alloc (.cells #[.int .i64 8, .int .i64 who, .int .i64 kc, .int .i64 kf, .int .u64 (ks : Int), .int .i64 sd, .int .i64 ac, .int .u64 (ep : Int), .int .u64 (n : Int)] 26) := ⟨_, rfl⟩
  rw [← hW0] at hX ⊢
  have h0 := hX.drew
  clear hW0 hX
  refine wp_region_held_drew (S := (fun W => BX w 26 #[.int .i64 8, .int .i64 who, .int .i64 kc, .int .i64 kf, .int .u64 (ks : Int), .int .i64 sd, .int .i64 ac, .int .u64 (ep : Int), .int .u64 (n : Int)] W)) (by kernel_rfl) h0 (fun hHeld => ?_)
  refine wpAnyH_take (i := 0) (oi := _) (v := ?_) rfl (by kernel_rfl) (by kernel_rfl) (by kernel_rfl) (fun _ _ _ h => h) (Or.inl ⟨by rfl, ?_⟩) (by assumption) ?_
  rotate_left
  · (intro W hSw; clear hSw; go_simp; try with_reducible rfl)
  try simp only [Act.put, List.getElem_toArray, List.getElem_cons_zero, List.setIfInBounds_toArray, List.set_cons_zero, List.set_cons_succ]
  refine wpAnyH_take (i := 1) (oi := _) (v := ?_) rfl (by kernel_rfl) (by kernel_rfl) (by kernel_rfl) (fun _ _ _ h => h) (Or.inl ⟨by rfl, ?_⟩) (by assumption) ?_
  rotate_left
  · (intro W hSw; (obtain ⟨y0, y1, y2, y3, y4, y5, y6, y7, y8⟩ : _ ∧ _ ∧ _ ∧ _ ∧ _ ∧ _ ∧ _ ∧ _ ∧ _ := ⟨cell_of_row W _ 0 _ _ (0, 0) hSw.2, cell_of_row W _ 1 _ _ (0, 0) hSw.2, cell_of_row W _ 2 _ _ (0, 0) hSw.2, cell_of_row W _ 3 _ _ (0, 0) hSw.2, cell_of_row W _ 4 _ _ (0, 0) hSw.2, cell_of_row W _ 5 _ _ (0, 0) hSw.2, cell_of_row W _ 6 _ _ (0, 0) hSw.2, cell_of_row W _ 7 _ _ (0, 0) hSw.2, cell_of_row W _ 8 _ _ (0, 0) hSw.2⟩; clear hSw; go_simp; try with_reducible rfl))
  try simp only [Act.put, List.getElem_toArray, List.getElem_cons_succ, List.getElem_cons_zero, List.setIfInBounds_toArray, List.set_cons_zero, List.set_cons_succ]
  refine wpAnyH_take (i := 3) (oi := _) (v := ?_) rfl (by kernel_rfl) (by kernel_rfl) (by kernel_rfl) (fun _ _ _ h => h) (Or.inl ⟨by rfl, ?_⟩) (by assumption) ?_
  rotate_left
  · (intro W hSw; clear hSw; go_simp; try with_reducible rfl)
  try simp only [Act.put, List.getElem_toArray, List.getElem_cons_succ, List.getElem_cons_zero, List.setIfInBounds_toArray, List.set_cons_zero, List.set_cons_succ]
  refine wpAnyH_take (i := 4) (oi := _) (v := ?_) rfl (by kernel_rfl) (by kernel_rfl) (by kernel_rfl) (fun _ _ _ h => h) (Or.inl ⟨by rfl, ?_⟩) (by assumption) ?_
  rotate_left
  · (intro W hSw; (obtain ⟨y0, y1, y2, y3, y4, y5, y6, y7, y8⟩ : _ ∧ _ ∧ _ ∧ _ ∧ _ ∧ _ ∧ _ ∧ _ ∧ _ := ⟨cell_of_row W _ 0 _ _ (0, 0) hSw.2, cell_of_row W _ 1 _ _ (0, 0) hSw.2, cell_of_row W _ 2 _ _ (0, 0) hSw.2, cell_of_row W _ 3 _ _ (0, 0) hSw.2, cell_of_row W _ 4 _ _ (0, 0) hSw.2, cell_of_row W _ 5 _ _ (0, 0) hSw.2, cell_of_row W _ 6 _ _ (0, 0) hSw.2, cell_of_row W _ 7 _ _ (0, 0) hSw.2, cell_of_row W _ 8 _ _ (0, 0) hSw.2⟩; clear hSw; go_simp; try with_reducible rfl))
  try simp only [Act.put, List.getElem_toArray, List.getElem_cons_succ, List.getElem_cons_zero, List.setIfInBounds_toArray, List.set_cons_zero, List.set_cons_succ]
  refine wpAnyH_ready (rs := [2]) (by kernel_rfl) (by simp) ?_
  refine AllReadyH.cons rfl (fun K hK => ?_) AllReadyH.nil
  simp only [List.getElem_toArray, List.getElem_cons_succ, List.getElem_cons_zero]
  rw [if_pos (by rfl)]
  go_simp
  (go_at_call 11; refine (HP.out _).mono ?_; rintro _ v1 ⟨rfl, b1⟩; have g1 := hHeld.call b1)
  go_wp2_with fail
  refine hK.out _ _ g1 (fun hHeld => ?_)
  clear hK K
  try simp only [Act.put, List.getElem_toArray, List.getElem_cons_succ, List.getElem_cons_zero, List.setIfInBounds_toArray, List.set_cons_zero, List.set_cons_succ]
  refine wpAnyH_ready (rs := [5]) (by kernel_rfl) (by simp) ?_
  refine AllReadyH.cons rfl (fun K hK => ?_) AllReadyH.nil
  simp only [List.getElem_toArray, List.getElem_cons_succ, List.getElem_cons_zero]
  rw [if_pos (by rfl)]
  go_simp
  (go_at_call 12; refine (HW.out _ g1.1.2).mono ?_; rintro _ v2 ⟨rfl, b2⟩; have g2 := g1.call b2)
  go_wp2_with fail
  refine hK.out _ _ g2 (fun hHeld => ?_)
  clear hK K
  try simp only [Act.put, List.getElem_toArray, List.getElem_cons_succ, List.getElem_cons_zero, List.setIfInBounds_toArray, List.set_cons_zero, List.set_cons_succ]
  refine wpAnyH_ready (rs := [6]) (by kernel_rfl) (by simp) ?_
  refine AllReadyH.cons rfl (fun K hK => ?_) AllReadyH.nil
  simp only [List.getElem_toArray, List.getElem_cons_succ, List.getElem_cons_zero]
  rw [if_pos (by rfl)]
  go_simp
  refine hK.out _ _ (g2.call ((Below.refl _ _).alloc (Nat.le_refl _) _)) (fun hHeld => ?_)
  clear hK K
  try simp only [Act.put, List.getElem_toArray, List.getElem_cons_succ, List.getElem_cons_zero, List.setIfInBounds_toArray, List.set_cons_zero, List.set_cons_succ]
  refine wpAnyH_take (i := 7) (oi := _) (v := ?_) rfl (by kernel_rfl) (by kernel_rfl) (by kernel_rfl) (fun _ _ _ h => h) (Or.inl ⟨by rfl, ?_⟩) (by assumption) ?_
  rotate_left
  · (intro W hSw; clear hSw; go_simp; try with_reducible rfl)
  try simp only [Act.put, List.getElem_toArray, List.getElem_cons_succ, List.getElem_cons_zero, List.setIfInBounds_toArray, List.set_cons_zero, List.set_cons_succ]
  refine wpAnyH_done (by kernel_rfl) ?_ _
  have HO1 := Lib.hid (own_new v2 (w.heap.size + 1) 3 #[.string P, .string ⟨#[98, 121]⟩, .string I] rfl (Array.getElem?_eq_some_iff.1 g2.2).1 (by decide))
  have HX2 := Lib.hid (g2.call ((Below.refl _ _).alloc (Nat.le_refl _) (.cells #[.string P, .string ⟨#[98, 121]⟩, .string I] 9)))
  obtain ⟨g, hg⟩ : ∃ g, g = v2.heap.size := ⟨_, rfl⟩
  obtain ⟨W2, hW2⟩ : ∃ X, X = v2.alloc (.cells #[.string P, .string ⟨#[98, 121]⟩, .string I] 9) := ⟨_, rfl⟩
  rw [← hW2] at HX2 HO1 ⊢
  rw [← hg] at HO1 ⊢
  clear hg hW2 h0 g1 g2 b1 b2
  obtain ⟨x0, x1, x2, x3, x4, x5, x6, x7, x8⟩ : _ ∧ _ ∧ _ ∧ _ ∧ _ ∧ _ ∧ _ ∧ _ ∧ _ := ⟨cell_of_row W2 _ 0 _ _ (0, 0) HX2.out.2, cell_of_row W2 _ 1 _ _ (0, 0) HX2.out.2, cell_of_row W2 _ 2 _ _ (0, 0) HX2.out.2, cell_of_row W2 _ 3 _ _ (0, 0) HX2.out.2, cell_of_row W2 _ 4 _ _ (0, 0) HX2.out.2, cell_of_row W2 _ 5 _ _ (0, 0) HX2.out.2, cell_of_row W2 _ 6 _ _ (0, 0) HX2.out.2, cell_of_row W2 _ 7 _ _ (0, 0) HX2.out.2, cell_of_row W2 _ 8 _ _ (0, 0) HX2.out.2⟩
  go_upto_region 14 with fail
  have h8 := And.intro HX2.out.drew (World.ownsRow.drew HO1.out)
  clear x0 x1 x2 x3 x4 x5 x6 x7 x8
  refine wp_region_held_drew (S := (fun W => BX w 26 #[.int .i64 8, .int .i64 who, .int .i64 kc, .int .i64 kf, .int .u64 (ks : Int), .int .i64 sd, .int .i64 ac, .int .u64 (ep : Int), .int .u64 (n : Int)] W ∧ W.ownsRow (w.heap.size + 1) 9 1 (.slice (some ⟨g, 0, none⟩) 3 3) 3 [.string P, .string ⟨#[98, 121]⟩, .string I])) (by kernel_rfl) h8 (fun hHeld => ?_)
  refine wpAnyH_take (i := 0) (oi := _) (v := ?_) rfl (by kernel_rfl) (by kernel_rfl) (by kernel_rfl) (fun _ _ _ h => h) (Or.inl ⟨by rfl, ?_⟩) (by assumption) ?_
  rotate_left
  · (intro W hSw; clear hSw; go_simp; try with_reducible rfl)
  try simp only [Act.put, List.getElem_toArray, List.getElem_cons_zero, List.setIfInBounds_toArray, List.set_cons_zero, List.set_cons_succ]
  refine wpAnyH_take (i := 1) (oi := _) (v := ?_) rfl (by kernel_rfl) (by kernel_rfl) (by kernel_rfl) (fun _ _ _ h => h) (Or.inl ⟨by rfl, ?_⟩) (by assumption) ?_
  rotate_left
  · (intro W hSw; clear hSw; go_simp; try with_reducible rfl)
  try simp only [Act.put, List.getElem_toArray, List.getElem_cons_succ, List.getElem_cons_zero, List.setIfInBounds_toArray, List.set_cons_zero, List.set_cons_succ]
  refine wpAnyH_take (i := 2) (oi := _) (v := ?_) rfl (by kernel_rfl) (by kernel_rfl) (by kernel_rfl) (fun _ _ _ h => h) (Or.inl ⟨by rfl, ?_⟩) (by assumption) ?_
  rotate_left
  · (intro W hSw; (obtain ⟨y0, y1, y2, y3, y4, y5, y6, y7, y8⟩ : _ ∧ _ ∧ _ ∧ _ ∧ _ ∧ _ ∧ _ ∧ _ ∧ _ := ⟨cell_of_row W _ 0 _ _ (0, 0) hSw.1.2, cell_of_row W _ 1 _ _ (0, 0) hSw.1.2, cell_of_row W _ 2 _ _ (0, 0) hSw.1.2, cell_of_row W _ 3 _ _ (0, 0) hSw.1.2, cell_of_row W _ 4 _ _ (0, 0) hSw.1.2, cell_of_row W _ 5 _ _ (0, 0) hSw.1.2, cell_of_row W _ 6 _ _ (0, 0) hSw.1.2, cell_of_row W _ 7 _ _ (0, 0) hSw.1.2, cell_of_row W _ 8 _ _ (0, 0) hSw.1.2⟩; clear hSw; go_simp; try with_reducible rfl))
  try simp only [Act.put, List.getElem_toArray, List.getElem_cons_succ, List.getElem_cons_zero, List.setIfInBounds_toArray, List.set_cons_zero, List.set_cons_succ]
  refine wpAnyH_take (i := 4) (oi := _) (v := ?_) rfl (by kernel_rfl) (by kernel_rfl) (by kernel_rfl) (fun _ _ _ h => h) (Or.inl ⟨by rfl, ?_⟩) (by assumption) ?_
  rotate_left
  · (intro W hSw; clear hSw; go_simp; try with_reducible rfl)
  try simp only [Act.put, List.getElem_toArray, List.getElem_cons_succ, List.getElem_cons_zero, List.setIfInBounds_toArray, List.set_cons_zero, List.set_cons_succ]
  refine wpAnyH_take (i := 5) (oi := _) (v := ?_) rfl (by kernel_rfl) (by kernel_rfl) (by kernel_rfl) (fun _ _ _ h => h) (Or.inl ⟨by rfl, ?_⟩) (by assumption) ?_
  rotate_left
  · (intro W hSw; (obtain ⟨y0, y1, y2, y3, y4, y5, y6, y7, y8⟩ : _ ∧ _ ∧ _ ∧ _ ∧ _ ∧ _ ∧ _ ∧ _ ∧ _ := ⟨cell_of_row W _ 0 _ _ (0, 0) hSw.1.2, cell_of_row W _ 1 _ _ (0, 0) hSw.1.2, cell_of_row W _ 2 _ _ (0, 0) hSw.1.2, cell_of_row W _ 3 _ _ (0, 0) hSw.1.2, cell_of_row W _ 4 _ _ (0, 0) hSw.1.2, cell_of_row W _ 5 _ _ (0, 0) hSw.1.2, cell_of_row W _ 6 _ _ (0, 0) hSw.1.2, cell_of_row W _ 7 _ _ (0, 0) hSw.1.2, cell_of_row W _ 8 _ _ (0, 0) hSw.1.2⟩; clear hSw; go_simp; try with_reducible rfl))
  try simp only [Act.put, List.getElem_toArray, List.getElem_cons_succ, List.getElem_cons_zero, List.setIfInBounds_toArray, List.set_cons_zero, List.set_cons_succ]
  refine wpAnyH_take (i := 7) (oi := _) (v := ?_) rfl (by kernel_rfl) (by kernel_rfl) (by kernel_rfl) (fun _ _ _ h => h) (Or.inl ⟨by rfl, ?_⟩) (by assumption) ?_
  rotate_left
  · (intro W hSw; clear hSw; go_simp; try with_reducible rfl)
  try simp only [Act.put, List.getElem_toArray, List.getElem_cons_succ, List.getElem_cons_zero, List.setIfInBounds_toArray, List.set_cons_zero, List.set_cons_succ]
  refine wpAnyH_take (i := 8) (oi := _) (v := ?_) rfl (by kernel_rfl) (by kernel_rfl) (by kernel_rfl) (fun _ _ _ h => h) (Or.inl ⟨by rfl, ?_⟩) (by assumption) ?_
  rotate_left
  · (intro W hSw; (obtain ⟨y0, y1, y2, y3, y4, y5, y6, y7, y8⟩ : _ ∧ _ ∧ _ ∧ _ ∧ _ ∧ _ ∧ _ ∧ _ ∧ _ := ⟨cell_of_row W _ 0 _ _ (0, 0) hSw.1.2, cell_of_row W _ 1 _ _ (0, 0) hSw.1.2, cell_of_row W _ 2 _ _ (0, 0) hSw.1.2, cell_of_row W _ 3 _ _ (0, 0) hSw.1.2, cell_of_row W _ 4 _ _ (0, 0) hSw.1.2, cell_of_row W _ 5 _ _ (0, 0) hSw.1.2, cell_of_row W _ 6 _ _ (0, 0) hSw.1.2, cell_of_row W _ 7 _ _ (0, 0) hSw.1.2, cell_of_row W _ 8 _ _ (0, 0) hSw.1.2⟩; clear hSw; go_simp; try with_reducible rfl))
  try simp only [Act.put, List.getElem_toArray, List.getElem_cons_succ, List.getElem_cons_zero, List.setIfInBounds_toArray, List.set_cons_zero, List.set_cons_succ]
  refine wpAnyH_take (i := 10) (oi := _) (v := ?_) rfl (by kernel_rfl) (by kernel_rfl) (by kernel_rfl) (fun _ _ _ h => h) (Or.inl ⟨by rfl, ?_⟩) (by assumption) ?_
  rotate_left
  · (intro W hSw; clear hSw; go_simp; try with_reducible rfl)
  try simp only [Act.put, List.getElem_toArray, List.getElem_cons_succ, List.getElem_cons_zero, List.setIfInBounds_toArray, List.set_cons_zero, List.set_cons_succ]
  refine wpAnyH_take (i := 11) (oi := _) (v := ?_) rfl (by kernel_rfl) (by kernel_rfl) (by kernel_rfl) (fun _ _ _ h => h) (Or.inl ⟨by rfl, ?_⟩) (by assumption) ?_
  rotate_left
  · (intro W hSw; (obtain ⟨y0, y1, y2, y3, y4, y5, y6, y7, y8⟩ : _ ∧ _ ∧ _ ∧ _ ∧ _ ∧ _ ∧ _ ∧ _ ∧ _ := ⟨cell_of_row W _ 0 _ _ (0, 0) hSw.1.2, cell_of_row W _ 1 _ _ (0, 0) hSw.1.2, cell_of_row W _ 2 _ _ (0, 0) hSw.1.2, cell_of_row W _ 3 _ _ (0, 0) hSw.1.2, cell_of_row W _ 4 _ _ (0, 0) hSw.1.2, cell_of_row W _ 5 _ _ (0, 0) hSw.1.2, cell_of_row W _ 6 _ _ (0, 0) hSw.1.2, cell_of_row W _ 7 _ _ (0, 0) hSw.1.2, cell_of_row W _ 8 _ _ (0, 0) hSw.1.2⟩; clear hSw; go_simp; try with_reducible rfl))
  try simp only [Act.put, List.getElem_toArray, List.getElem_cons_succ, List.getElem_cons_zero, List.setIfInBounds_toArray, List.set_cons_zero, List.set_cons_succ]
  refine wpAnyH_ready (rs := [3]) (by kernel_rfl) (by simp) ?_
  refine AllReadyH.cons rfl (fun K hK => ?_) AllReadyH.nil
  simp only [List.getElem_toArray, List.getElem_cons_succ, List.getElem_cons_zero]
  rw [if_pos (by rfl)]
  go_simp
  (go_at_call 14; refine (HD.out _).mono ?_; rintro _ t1 ⟨rfl, b1⟩; have u1 := And.intro (hHeld.1.call b1) (own_below hHeld.2 b1))
  go_wp2_with fail
  refine hK.out _ _ u1 (fun hHeld => ?_)
  clear hK K
  try simp only [Act.put, List.getElem_toArray, List.getElem_cons_succ, List.getElem_cons_zero, List.setIfInBounds_toArray, List.set_cons_zero, List.set_cons_succ]
  refine wpAnyH_ready (rs := [6]) (by kernel_rfl) (by simp) ?_
  refine AllReadyH.cons rfl (fun K hK => ?_) AllReadyH.nil
  simp only [List.getElem_toArray, List.getElem_cons_succ, List.getElem_cons_zero]
  rw [if_pos (by rfl)]
  go_simp
  (go_at_call 12; refine (HA.out _ u1.1.1.2).mono ?_; rintro _ t2 ⟨rfl, b2⟩; have u2 := And.intro (u1.1.call b2) (own_below u1.2 b2))
  go_wp2_with fail
  refine hK.out _ _ u2 (fun hHeld => ?_)
  clear hK K
  try simp only [Act.put, List.getElem_toArray, List.getElem_cons_succ, List.getElem_cons_zero, List.setIfInBounds_toArray, List.set_cons_zero, List.set_cons_succ]
  refine wpAnyH_ready (rs := [9]) (by kernel_rfl) (by simp) ?_
  refine AllReadyH.cons rfl (fun K hK => ?_) AllReadyH.nil
  simp only [List.getElem_toArray, List.getElem_cons_succ, List.getElem_cons_zero]
  rw [if_pos (by rfl)]
  go_simp
  (go_at_call 15; refine (HY.out _ u2.1.1.2).mono ?_; rintro _ t3 ⟨rfl, b3⟩; have u3 := And.intro (u2.1.call b3) (own_below u2.2 b3))
  go_wp2_with fail
  refine hK.out _ _ u3 (fun hHeld => ?_)
  clear hK K
  try simp only [Act.put, List.getElem_toArray, List.getElem_cons_succ, List.getElem_cons_zero, List.setIfInBounds_toArray, List.set_cons_zero, List.set_cons_succ]
  refine wpAnyH_ready (rs := [12]) (by kernel_rfl) (by simp) ?_
  refine AllReadyH.cons rfl (fun K hK => ?_) AllReadyH.nil
  simp only [List.getElem_toArray, List.getElem_cons_succ, List.getElem_cons_zero]
  rw [if_pos (by rfl)]
  go_simp
  (go_at_call 15; refine (HZ.out _ u3.1.1.2).mono ?_; rintro _ t4 ⟨rfl, b4⟩; have u4 := And.intro (u3.1.call b4) (own_below u3.2 b4))
  go_wp2_with fail
  refine hK.out _ _ u4 (fun hHeld => ?_)
  clear hK K
  try simp only [Act.put, List.getElem_toArray, List.getElem_cons_succ, List.getElem_cons_zero, List.setIfInBounds_toArray, List.set_cons_zero, List.set_cons_succ]
  refine wpAnyH_ready (rs := [13]) (by kernel_rfl) (by simp) ?_
  refine AllReadyH.cons rfl (fun K hK => ?_) AllReadyH.nil
  simp only [List.getElem_toArray, List.getElem_cons_succ, List.getElem_cons_zero]
  rw [if_pos (by rfl)]
  go_simp
  refine hK.out _ _ (And.intro (u4.1.call ((Below.refl _ _).alloc (Nat.le_refl _) _)) (World.ownsRow.alloc u4.2 _)) (fun hHeld => ?_)
  clear hK K
  try simp only [Act.put, List.getElem_toArray, List.getElem_cons_succ, List.getElem_cons_zero, List.setIfInBounds_toArray, List.set_cons_zero, List.set_cons_succ]
  refine wpAnyH_ready (rs := [14]) (by kernel_rfl) (by simp) ?_
  refine AllReadyH.cons rfl (fun K hK => ?_) AllReadyH.nil
  simp only [List.getElem_toArray, List.getElem_cons_succ, List.getElem_cons_zero]
  rw [if_pos (by rfl)]
  (refine wp_append_keep _ _ _ _ (by rfl) (w.heap.size + 1) 9 i0 _ 1 16 Tryd.underlying38 HI.out.2.2.2 HI.out.2.1 HI.out.2.2.1 HI.out.1 rfl (by decide) _ _ _ (by rfl) (World.ownsRow.alloc u4.2 _) ⟨t4.heap.size, 0, none⟩ 5 5 [.string D, .string A, .string Y, .string ⟨#[105, 110]⟩, .string Z] (by rfl) rfl (news_new t4 #[.string D, .string A, .string Y, .string ⟨#[105, 110]⟩, .string Z] _) (strs_one [D, A, Y, ⟨#[105, 110]⟩, Z]) (by decide) (by unfold maxLen; omega) (by omega) (by have := u4.1.1.1.size; have := (Array.getElem?_eq_some_iff.1 u4.1.2).1; simp; omega) (t4.heap.size + 1) (by simp) ?_; intro gg cap2 w5 hown5 hg5 hat5 hold5; have hS5 := And.intro (BX.push HT.out u4.1 u4.2 hg5) hold5)
  refine hK.out _ _ hS5 (fun hHeld => ?_)
  clear hK K
  try simp only [Act.put, List.setIfInBounds_toArray, List.set_cons_zero, List.set_cons_succ]
  refine wpAnyH_take (i := 15) (oi := _) (v := ?_) rfl (by kernel_rfl) (by kernel_rfl) (by kernel_rfl) (fun _ _ _ h => h) (Or.inl ⟨by rfl, ?_⟩) (by assumption) ?_
  rotate_left
  · (intro W hSw; clear hSw; go_simp; try with_reducible rfl)
  try simp only [Act.put, List.getElem_toArray, List.getElem_cons_succ, List.getElem_cons_zero, List.setIfInBounds_toArray, List.set_cons_zero, List.set_cons_succ]
  refine wpAnyH_done (by kernel_rfl) ?_ _
  have HX3 := Lib.hid hS5.1
  have HO3 := Lib.hid hown5
  clear h8 u1 b1 u2 b2 u3 b3 u4 b4 HX2 HO1 hS5 hown5 hg5 hat5 hold5
  go_wp2_with fail
  have hj : joinB [P, ⟨#[98, 121]⟩, I, D, A, Y, ⟨#[105, 110]⟩, Z] = E := by
    rw [HE.out]
    simp only [join_cons, join_one]
    exact ext_l (by simp)
  have hjs : (joinB [P, ⟨#[98, 121]⟩, I, D, A, Y, ⟨#[105, 110]⟩, Z]).size ≤ 1000000 := by
    rw [hj, HE.out]
    simp only [ByteArray.size_append]
    simp only [show (⟨#[32]⟩ : ByteArray).size = 1 from rfl, show (⟨#[32, 98, 121, 32]⟩ : ByteArray).size = 4 from rfl, show (⟨#[32, 105, 110, 32]⟩ : ByteArray).size = 4 from rfl]
    omega
  have HJ := Lib.hid (join_own _ _ [P, ⟨#[98, 121]⟩, I, D, A, Y, ⟨#[105, 110]⟩, Z] _ HO3.out (by simp) (by simp) hjs)
  rw [hj] at HJ
  clear hj hjs
  refine HJ.out.mono ?_
  rintro _ w8 ⟨rfl, b1⟩
  have HX8 := Lib.hid (HX3.out.1.1.trans (b1.mono HX3.out.1.1.size))
  clear b1 HJ
  go_wp2
  go_ret
  exact ⟨rfl, HX8.out⟩

set_option maxRecDepth 100000 in
set_option maxHeartbeats 2000000 in
theorem op_10 (k who kc kf : Int) (ks : Nat) (sd ac : Int) (ep n : Nat) (ho : (O9.mk k who ⟨kc, kf, ks⟩ sd ac ep n).ok) (hk : k = 10) (w : World) (ht : Tab w) :
    Calls Tryd.prog 5 #[.agg #[.int .i64 k, .int .i64 who, .int .i64 kc, .int .i64 kf, .int .u64 (ks : Int), .int .i64 sd, .int .i64 ac, .int .u64 (ep : Int), .int .u64 (n : Int)]] w fun e w' => e = .returned (.string (opB ⟨k, who, ⟨kc, kf, ks⟩, sd, ac, ep, n⟩)) ∧ Below w.heap.size w w' := by
  obtain ⟨hw, hkey, ha, hep, hn⟩ := ho
  dsimp only at hw hkey ha hep hn
  subst hk
  obtain ⟨E, hE⟩ : ∃ E, E = opB ⟨10, who, ⟨kc, kf, ks⟩, sd, ac, ep, n⟩ := ⟨_, rfl⟩
  rw [← hE]
  unfold opB nB acB headB at hE
  dsimp only at hE
  rw [if_neg (by omega), if_pos rfl] at hE
  have hp := opW_size 10
  have hi := intW_size who hw.1 hw.2
  have hn4 := nameB_size ⟨kc, kf, ks⟩ hkey
  have hd := sideW_size sd
  have hac := intW_size ac ha.1 ha.2
  have hy := decW_size n hn
  have hz := decW_size ep hep
  have HP := Lib.hid (fun W => opw_any 10 W)
  have HW := Lib.hid (fun W h => itoa_any who hw.1 hw.2 W h)
  have HA := Lib.hid (fun W h => itoa_any ac ha.1 ha.2 W h)
  have HN := Lib.hid (fun W h => name_any ⟨kc, kf, ks⟩ hkey W h)
  have HY := Lib.hid (fun W h => number_any n hn W h)
  have HZ := Lib.hid (fun W h => number_any ep hep W h)
  have HD := Lib.hid (fun W => side_any sd W)
  rw [show (⟨(Lib.itoa who).toArray⟩ : ByteArray) = intW who from rfl] at HW
  rw [show (⟨(Lib.itoa ac).toArray⟩ : ByteArray) = intW ac from rfl] at HA
  unfold K3.cells at HN
  dsimp only at HN
  generalize opW 10 = P at *
  generalize intW who = I at *
  generalize intW ac = A at *
  generalize nameB _ = N at *
  generalize sideW sd = D at *
  generalize decW n = Y at *
  generalize decW ep = Z at *
  have HE := Lib.hid hE
  have hX := BX.new w 26 #[.int .i64 10, .int .i64 who, .int .i64 kc, .int .i64 kf, .int .u64 (ks : Int), .int .i64 sd, .int .i64 ac, .int .u64 (ep : Int), .int .u64 (n : Int)] ht
  have HT := Lib.hid ht
  obtain ⟨i0, ji, jz0, jz1, jz2⟩ := info_parts infoS
  have HI := Lib.hid (And.intro jz2 (And.intro jz0 (And.intro jz1 ji)))
  clear hE hw hkey ha hep hn ht ji jz0 jz1 jz2
  go_enter Tryd.func5, Tryd.ntmps5
  go_upto_region 1 with fail
  obtain ⟨W0, hW0⟩ : ∃ X, X = w.alloc (.cells #[.int .i64 10, .int .i64 who, .int .i64 kc, .int .i64 kf, .int .u64 (ks : Int), .int .i64 sd, .int .i64 ac, .int .u64 (ep : Int), .int .u64 (n : Int)] 26) := ⟨_, rfl⟩
  rw [← hW0] at hX ⊢
  have h0 := hX.drew
  clear hW0 hX
  refine wp_region_held_drew (S := (fun W => BX w 26 #[.int .i64 10, .int .i64 who, .int .i64 kc, .int .i64 kf, .int .u64 (ks : Int), .int .i64 sd, .int .i64 ac, .int .u64 (ep : Int), .int .u64 (n : Int)] W)) (by kernel_rfl) h0 (fun hHeld => ?_)
  refine wpAnyH_take (i := 0) (oi := _) (v := ?_) rfl (by kernel_rfl) (by kernel_rfl) (by kernel_rfl) (fun _ _ _ h => h) (Or.inl ⟨by rfl, ?_⟩) (by assumption) ?_
  rotate_left
  · (intro W hSw; clear hSw; go_simp; try with_reducible rfl)
  try simp only [Act.put, List.getElem_toArray, List.getElem_cons_zero, List.setIfInBounds_toArray, List.set_cons_zero, List.set_cons_succ]
  refine wpAnyH_take (i := 1) (oi := _) (v := ?_) rfl (by kernel_rfl) (by kernel_rfl) (by kernel_rfl) (fun _ _ _ h => h) (Or.inl ⟨by rfl, ?_⟩) (by assumption) ?_
  rotate_left
  · (intro W hSw; (obtain ⟨y0, y1, y2, y3, y4, y5, y6, y7, y8⟩ : _ ∧ _ ∧ _ ∧ _ ∧ _ ∧ _ ∧ _ ∧ _ ∧ _ := ⟨cell_of_row W _ 0 _ _ (0, 0) hSw.2, cell_of_row W _ 1 _ _ (0, 0) hSw.2, cell_of_row W _ 2 _ _ (0, 0) hSw.2, cell_of_row W _ 3 _ _ (0, 0) hSw.2, cell_of_row W _ 4 _ _ (0, 0) hSw.2, cell_of_row W _ 5 _ _ (0, 0) hSw.2, cell_of_row W _ 6 _ _ (0, 0) hSw.2, cell_of_row W _ 7 _ _ (0, 0) hSw.2, cell_of_row W _ 8 _ _ (0, 0) hSw.2⟩; clear hSw; go_simp; try with_reducible rfl))
  try simp only [Act.put, List.getElem_toArray, List.getElem_cons_succ, List.getElem_cons_zero, List.setIfInBounds_toArray, List.set_cons_zero, List.set_cons_succ]
  refine wpAnyH_take (i := 3) (oi := _) (v := ?_) rfl (by kernel_rfl) (by kernel_rfl) (by kernel_rfl) (fun _ _ _ h => h) (Or.inl ⟨by rfl, ?_⟩) (by assumption) ?_
  rotate_left
  · (intro W hSw; clear hSw; go_simp; try with_reducible rfl)
  try simp only [Act.put, List.getElem_toArray, List.getElem_cons_succ, List.getElem_cons_zero, List.setIfInBounds_toArray, List.set_cons_zero, List.set_cons_succ]
  refine wpAnyH_take (i := 4) (oi := _) (v := ?_) rfl (by kernel_rfl) (by kernel_rfl) (by kernel_rfl) (fun _ _ _ h => h) (Or.inl ⟨by rfl, ?_⟩) (by assumption) ?_
  rotate_left
  · (intro W hSw; (obtain ⟨y0, y1, y2, y3, y4, y5, y6, y7, y8⟩ : _ ∧ _ ∧ _ ∧ _ ∧ _ ∧ _ ∧ _ ∧ _ ∧ _ := ⟨cell_of_row W _ 0 _ _ (0, 0) hSw.2, cell_of_row W _ 1 _ _ (0, 0) hSw.2, cell_of_row W _ 2 _ _ (0, 0) hSw.2, cell_of_row W _ 3 _ _ (0, 0) hSw.2, cell_of_row W _ 4 _ _ (0, 0) hSw.2, cell_of_row W _ 5 _ _ (0, 0) hSw.2, cell_of_row W _ 6 _ _ (0, 0) hSw.2, cell_of_row W _ 7 _ _ (0, 0) hSw.2, cell_of_row W _ 8 _ _ (0, 0) hSw.2⟩; clear hSw; go_simp; try with_reducible rfl))
  try simp only [Act.put, List.getElem_toArray, List.getElem_cons_succ, List.getElem_cons_zero, List.setIfInBounds_toArray, List.set_cons_zero, List.set_cons_succ]
  refine wpAnyH_ready (rs := [2]) (by kernel_rfl) (by simp) ?_
  refine AllReadyH.cons rfl (fun K hK => ?_) AllReadyH.nil
  simp only [List.getElem_toArray, List.getElem_cons_succ, List.getElem_cons_zero]
  rw [if_pos (by rfl)]
  go_simp
  (go_at_call 11; refine (HP.out _).mono ?_; rintro _ v1 ⟨rfl, b1⟩; have g1 := hHeld.call b1)
  go_wp2_with fail
  refine hK.out _ _ g1 (fun hHeld => ?_)
  clear hK K
  try simp only [Act.put, List.getElem_toArray, List.getElem_cons_succ, List.getElem_cons_zero, List.setIfInBounds_toArray, List.set_cons_zero, List.set_cons_succ]
  refine wpAnyH_ready (rs := [5]) (by kernel_rfl) (by simp) ?_
  refine AllReadyH.cons rfl (fun K hK => ?_) AllReadyH.nil
  simp only [List.getElem_toArray, List.getElem_cons_succ, List.getElem_cons_zero]
  rw [if_pos (by rfl)]
  go_simp
  (go_at_call 12; refine (HW.out _ g1.1.2).mono ?_; rintro _ v2 ⟨rfl, b2⟩; have g2 := g1.call b2)
  go_wp2_with fail
  refine hK.out _ _ g2 (fun hHeld => ?_)
  clear hK K
  try simp only [Act.put, List.getElem_toArray, List.getElem_cons_succ, List.getElem_cons_zero, List.setIfInBounds_toArray, List.set_cons_zero, List.set_cons_succ]
  refine wpAnyH_ready (rs := [6]) (by kernel_rfl) (by simp) ?_
  refine AllReadyH.cons rfl (fun K hK => ?_) AllReadyH.nil
  simp only [List.getElem_toArray, List.getElem_cons_succ, List.getElem_cons_zero]
  rw [if_pos (by rfl)]
  go_simp
  refine hK.out _ _ (g2.call ((Below.refl _ _).alloc (Nat.le_refl _) _)) (fun hHeld => ?_)
  clear hK K
  try simp only [Act.put, List.getElem_toArray, List.getElem_cons_succ, List.getElem_cons_zero, List.setIfInBounds_toArray, List.set_cons_zero, List.set_cons_succ]
  refine wpAnyH_take (i := 7) (oi := _) (v := ?_) rfl (by kernel_rfl) (by kernel_rfl) (by kernel_rfl) (fun _ _ _ h => h) (Or.inl ⟨by rfl, ?_⟩) (by assumption) ?_
  rotate_left
  · (intro W hSw; clear hSw; go_simp; try with_reducible rfl)
  try simp only [Act.put, List.getElem_toArray, List.getElem_cons_succ, List.getElem_cons_zero, List.setIfInBounds_toArray, List.set_cons_zero, List.set_cons_succ]
  refine wpAnyH_done (by kernel_rfl) ?_ _
  have HO1 := Lib.hid (own_new v2 (w.heap.size + 1) 3 #[.string P, .string ⟨#[98, 121]⟩, .string I] rfl (Array.getElem?_eq_some_iff.1 g2.2).1 (by decide))
  have HX2 := Lib.hid (g2.call ((Below.refl _ _).alloc (Nat.le_refl _) (.cells #[.string P, .string ⟨#[98, 121]⟩, .string I] 9)))
  obtain ⟨g, hg⟩ : ∃ g, g = v2.heap.size := ⟨_, rfl⟩
  obtain ⟨W2, hW2⟩ : ∃ X, X = v2.alloc (.cells #[.string P, .string ⟨#[98, 121]⟩, .string I] 9) := ⟨_, rfl⟩
  rw [← hW2] at HX2 HO1 ⊢
  rw [← hg] at HO1 ⊢
  clear hg hW2 h0 g1 g2 b1 b2
  obtain ⟨x0, x1, x2, x3, x4, x5, x6, x7, x8⟩ : _ ∧ _ ∧ _ ∧ _ ∧ _ ∧ _ ∧ _ ∧ _ ∧ _ := ⟨cell_of_row W2 _ 0 _ _ (0, 0) HX2.out.2, cell_of_row W2 _ 1 _ _ (0, 0) HX2.out.2, cell_of_row W2 _ 2 _ _ (0, 0) HX2.out.2, cell_of_row W2 _ 3 _ _ (0, 0) HX2.out.2, cell_of_row W2 _ 4 _ _ (0, 0) HX2.out.2, cell_of_row W2 _ 5 _ _ (0, 0) HX2.out.2, cell_of_row W2 _ 6 _ _ (0, 0) HX2.out.2, cell_of_row W2 _ 7 _ _ (0, 0) HX2.out.2, cell_of_row W2 _ 8 _ _ (0, 0) HX2.out.2⟩
  go_upto_region 11 with fail
  have h8 := And.intro HX2.out.drew (World.ownsRow.drew HO1.out)
  clear x0 x1 x2 x3 x4 x5 x6 x7 x8
  refine wp_region_held_drew (S := (fun W => BX w 26 #[.int .i64 10, .int .i64 who, .int .i64 kc, .int .i64 kf, .int .u64 (ks : Int), .int .i64 sd, .int .i64 ac, .int .u64 (ep : Int), .int .u64 (n : Int)] W ∧ W.ownsRow (w.heap.size + 1) 9 1 (.slice (some ⟨g, 0, none⟩) 3 3) 3 [.string P, .string ⟨#[98, 121]⟩, .string I])) (by kernel_rfl) h8 (fun hHeld => ?_)
  refine wpAnyH_take (i := 0) (oi := _) (v := ?_) rfl (by kernel_rfl) (by kernel_rfl) (by kernel_rfl) (fun _ _ _ h => h) (Or.inl ⟨by rfl, ?_⟩) (by assumption) ?_
  rotate_left
  · (intro W hSw; clear hSw; go_simp; try with_reducible rfl)
  try simp only [Act.put, List.getElem_toArray, List.getElem_cons_zero, List.setIfInBounds_toArray, List.set_cons_zero, List.set_cons_succ]
  refine wpAnyH_take (i := 1) (oi := _) (v := ?_) rfl (by kernel_rfl) (by kernel_rfl) (by kernel_rfl) (fun _ _ _ h => h) (Or.inl ⟨by rfl, ?_⟩) (by assumption) ?_
  rotate_left
  · (intro W hSw; clear hSw; go_simp; try with_reducible rfl)
  try simp only [Act.put, List.getElem_toArray, List.getElem_cons_succ, List.getElem_cons_zero, List.setIfInBounds_toArray, List.set_cons_zero, List.set_cons_succ]
  refine wpAnyH_take (i := 2) (oi := _) (v := ?_) rfl (by kernel_rfl) (by kernel_rfl) (by kernel_rfl) (fun _ _ _ h => h) (Or.inl ⟨by rfl, ?_⟩) (by assumption) ?_
  rotate_left
  · (intro W hSw; (obtain ⟨y0, y1, y2, y3, y4, y5, y6, y7, y8⟩ : _ ∧ _ ∧ _ ∧ _ ∧ _ ∧ _ ∧ _ ∧ _ ∧ _ := ⟨cell_of_row W _ 0 _ _ (0, 0) hSw.1.2, cell_of_row W _ 1 _ _ (0, 0) hSw.1.2, cell_of_row W _ 2 _ _ (0, 0) hSw.1.2, cell_of_row W _ 3 _ _ (0, 0) hSw.1.2, cell_of_row W _ 4 _ _ (0, 0) hSw.1.2, cell_of_row W _ 5 _ _ (0, 0) hSw.1.2, cell_of_row W _ 6 _ _ (0, 0) hSw.1.2, cell_of_row W _ 7 _ _ (0, 0) hSw.1.2, cell_of_row W _ 8 _ _ (0, 0) hSw.1.2⟩; clear hSw; go_simp; try with_reducible rfl))
  try simp only [Act.put, List.getElem_toArray, List.getElem_cons_succ, List.getElem_cons_zero, List.setIfInBounds_toArray, List.set_cons_zero, List.set_cons_succ]
  refine wpAnyH_take (i := 4) (oi := _) (v := ?_) rfl (by kernel_rfl) (by kernel_rfl) (by kernel_rfl) (fun _ _ _ h => h) (Or.inl ⟨by rfl, ?_⟩) (by assumption) ?_
  rotate_left
  · (intro W hSw; clear hSw; go_simp; try with_reducible rfl)
  try simp only [Act.put, List.getElem_toArray, List.getElem_cons_succ, List.getElem_cons_zero, List.setIfInBounds_toArray, List.set_cons_zero, List.set_cons_succ]
  refine wpAnyH_take (i := 5) (oi := _) (v := ?_) rfl (by kernel_rfl) (by kernel_rfl) (by kernel_rfl) (fun _ _ _ h => h) (Or.inl ⟨by rfl, ?_⟩) (by assumption) ?_
  rotate_left
  · (intro W hSw; (obtain ⟨y0, y1, y2, y3, y4, y5, y6, y7, y8⟩ : _ ∧ _ ∧ _ ∧ _ ∧ _ ∧ _ ∧ _ ∧ _ ∧ _ := ⟨cell_of_row W _ 0 _ _ (0, 0) hSw.1.2, cell_of_row W _ 1 _ _ (0, 0) hSw.1.2, cell_of_row W _ 2 _ _ (0, 0) hSw.1.2, cell_of_row W _ 3 _ _ (0, 0) hSw.1.2, cell_of_row W _ 4 _ _ (0, 0) hSw.1.2, cell_of_row W _ 5 _ _ (0, 0) hSw.1.2, cell_of_row W _ 6 _ _ (0, 0) hSw.1.2, cell_of_row W _ 7 _ _ (0, 0) hSw.1.2, cell_of_row W _ 8 _ _ (0, 0) hSw.1.2⟩; clear hSw; go_simp; try with_reducible rfl))
  try simp only [Act.put, List.getElem_toArray, List.getElem_cons_succ, List.getElem_cons_zero, List.setIfInBounds_toArray, List.set_cons_zero, List.set_cons_succ]
  refine wpAnyH_ready (rs := [3]) (by kernel_rfl) (by simp) ?_
  refine AllReadyH.cons rfl (fun K hK => ?_) AllReadyH.nil
  simp only [List.getElem_toArray, List.getElem_cons_succ, List.getElem_cons_zero]
  rw [if_pos (by rfl)]
  go_simp
  (go_at_call 14; refine (HD.out _).mono ?_; rintro _ t1 ⟨rfl, b1⟩; have u1 := And.intro (hHeld.1.call b1) (own_below hHeld.2 b1))
  go_wp2_with fail
  refine hK.out _ _ u1 (fun hHeld => ?_)
  clear hK K
  try simp only [Act.put, List.getElem_toArray, List.getElem_cons_succ, List.getElem_cons_zero, List.setIfInBounds_toArray, List.set_cons_zero, List.set_cons_succ]
  refine wpAnyH_ready (rs := [6]) (by kernel_rfl) (by simp) ?_
  refine AllReadyH.cons rfl (fun K hK => ?_) AllReadyH.nil
  simp only [List.getElem_toArray, List.getElem_cons_succ, List.getElem_cons_zero]
  rw [if_pos (by rfl)]
  go_simp
  (go_at_call 12; refine (HA.out _ u1.1.1.2).mono ?_; rintro _ t2 ⟨rfl, b2⟩; have u2 := And.intro (u1.1.call b2) (own_below u1.2 b2))
  go_wp2_with fail
  refine hK.out _ _ u2 (fun hHeld => ?_)
  clear hK K
  try simp only [Act.put, List.getElem_toArray, List.getElem_cons_succ, List.getElem_cons_zero, List.setIfInBounds_toArray, List.set_cons_zero, List.set_cons_succ]
  refine wpAnyH_ready (rs := [7]) (by kernel_rfl) (by simp) ?_
  refine AllReadyH.cons rfl (fun K hK => ?_) AllReadyH.nil
  simp only [List.getElem_toArray, List.getElem_cons_succ, List.getElem_cons_zero]
  rw [if_pos (by rfl)]
  go_simp
  refine hK.out _ _ (And.intro (u2.1.call ((Below.refl _ _).alloc (Nat.le_refl _) _)) (World.ownsRow.alloc u2.2 _)) (fun hHeld => ?_)
  clear hK K
  try simp only [Act.put, List.getElem_toArray, List.getElem_cons_succ, List.getElem_cons_zero, List.setIfInBounds_toArray, List.set_cons_zero, List.set_cons_succ]
  refine wpAnyH_ready (rs := [8]) (by kernel_rfl) (by simp) ?_
  refine AllReadyH.cons rfl (fun K hK => ?_) AllReadyH.nil
  simp only [List.getElem_toArray, List.getElem_cons_succ, List.getElem_cons_zero]
  rw [if_pos (by rfl)]
  (refine wp_append_keep _ _ _ _ (by rfl) (w.heap.size + 1) 9 i0 _ 1 16 Tryd.underlying38 HI.out.2.2.2 HI.out.2.1 HI.out.2.2.1 HI.out.1 rfl (by decide) _ _ _ (by rfl) (World.ownsRow.alloc u2.2 _) ⟨t2.heap.size, 0, none⟩ 2 2 [.string D, .string A] (by rfl) rfl (news_new t2 #[.string D, .string A] _) (strs_one [D, A]) (by decide) (by unfold maxLen; omega) (by omega) (by have := u2.1.1.1.size; have := (Array.getElem?_eq_some_iff.1 u2.1.2).1; simp; omega) (t2.heap.size + 1) (by simp) ?_; intro gg cap2 w5 hown5 hg5 hat5 hold5; have hS5 := And.intro (BX.push HT.out u2.1 u2.2 hg5) hold5)
  refine hK.out _ _ hS5 (fun hHeld => ?_)
  clear hK K
  try simp only [Act.put, List.setIfInBounds_toArray, List.set_cons_zero, List.set_cons_succ]
  refine wpAnyH_take (i := 9) (oi := _) (v := ?_) rfl (by kernel_rfl) (by kernel_rfl) (by kernel_rfl) (fun _ _ _ h => h) (Or.inl ⟨by rfl, ?_⟩) (by assumption) ?_
  rotate_left
  · (intro W hSw; clear hSw; go_simp; try with_reducible rfl)
  try simp only [Act.put, List.getElem_toArray, List.getElem_cons_succ, List.getElem_cons_zero, List.setIfInBounds_toArray, List.set_cons_zero, List.set_cons_succ]
  refine wpAnyH_done (by kernel_rfl) ?_ _
  have HX3 := Lib.hid hS5.1
  have HO3 := Lib.hid hown5
  clear h8 u1 b1 u2 b2 HX2 HO1 hS5 hown5 hg5 hat5 hold5
  go_wp2_with fail
  have hj : joinB [P, ⟨#[98, 121]⟩, I, D, A] = E := by
    rw [HE.out]
    simp only [join_cons, join_one]
    exact ext_l (by simp)
  have hjs : (joinB [P, ⟨#[98, 121]⟩, I, D, A]).size ≤ 1000000 := by
    rw [hj, HE.out]
    simp only [ByteArray.size_append]
    simp only [show (⟨#[32]⟩ : ByteArray).size = 1 from rfl, show (⟨#[32, 98, 121, 32]⟩ : ByteArray).size = 4 from rfl]
    omega
  have HJ := Lib.hid (join_own _ _ [P, ⟨#[98, 121]⟩, I, D, A] _ HO3.out (by simp) (by simp) hjs)
  rw [hj] at HJ
  clear hj hjs
  refine HJ.out.mono ?_
  rintro _ w8 ⟨rfl, b1⟩
  have HX8 := Lib.hid (HX3.out.1.1.trans (b1.mono HX3.out.1.1.size))
  clear b1 HJ
  go_wp2
  go_ret
  exact ⟨rfl, HX8.out⟩

set_option maxRecDepth 100000 in
set_option maxHeartbeats 2000000 in
theorem op_else (k who kc kf : Int) (ks : Nat) (sd ac : Int) (ep n : Nat) (ho : (O9.mk k who ⟨kc, kf, ks⟩ sd ac ep n).ok) (hk : ¬ (1 ≤ k ∧ k ≤ 5) ∧ k ≠ 10 ∧ k ≠ 7 ∧ k ≠ 8) (w : World) (ht : Tab w) :
    Calls Tryd.prog 5 #[.agg #[.int .i64 k, .int .i64 who, .int .i64 kc, .int .i64 kf, .int .u64 (ks : Int), .int .i64 sd, .int .i64 ac, .int .u64 (ep : Int), .int .u64 (n : Int)]] w fun e w' => e = .returned (.string (opB ⟨k, who, ⟨kc, kf, ks⟩, sd, ac, ep, n⟩)) ∧ Below w.heap.size w w' := by
  obtain ⟨hw, hkey, ha, hep, hn⟩ := ho
  dsimp only at hw hkey ha hep hn
  obtain ⟨E, hE⟩ : ∃ E, E = opB ⟨k, who, ⟨kc, kf, ks⟩, sd, ac, ep, n⟩ := ⟨_, rfl⟩
  rw [← hE]
  unfold opB nB acB headB at hE
  dsimp only at hE
  rw [if_neg hk.1, if_neg hk.2.1, if_neg (by omega)] at hE
  have hp := opW_size k
  have hi := intW_size who hw.1 hw.2
  have hn4 := nameB_size ⟨kc, kf, ks⟩ hkey
  have hd := sideW_size sd
  have hac := intW_size ac ha.1 ha.2
  have hy := decW_size n hn
  have hz := decW_size ep hep
  have HP := Lib.hid (fun W => opw_any k W)
  have HW := Lib.hid (fun W h => itoa_any who hw.1 hw.2 W h)
  have HA := Lib.hid (fun W h => itoa_any ac ha.1 ha.2 W h)
  have HN := Lib.hid (fun W h => name_any ⟨kc, kf, ks⟩ hkey W h)
  have HY := Lib.hid (fun W h => number_any n hn W h)
  have HZ := Lib.hid (fun W h => number_any ep hep W h)
  have HD := Lib.hid (fun W => side_any sd W)
  rw [show (⟨(Lib.itoa who).toArray⟩ : ByteArray) = intW who from rfl] at HW
  rw [show (⟨(Lib.itoa ac).toArray⟩ : ByteArray) = intW ac from rfl] at HA
  unfold K3.cells at HN
  dsimp only at HN
  generalize opW k = P at *
  generalize intW who = I at *
  generalize intW ac = A at *
  generalize nameB _ = N at *
  generalize sideW sd = D at *
  generalize decW n = Y at *
  generalize decW ep = Z at *
  have HE := Lib.hid hE
  have hX := BX.new w 26 #[.int .i64 k, .int .i64 who, .int .i64 kc, .int .i64 kf, .int .u64 (ks : Int), .int .i64 sd, .int .i64 ac, .int .u64 (ep : Int), .int .u64 (n : Int)] ht
  have HT := Lib.hid ht
  obtain ⟨i0, ji, jz0, jz1, jz2⟩ := info_parts infoS
  have HI := Lib.hid (And.intro jz2 (And.intro jz0 (And.intro jz1 ji)))
  have e1 : (k == 1) = false := by simp; omega
  have e2 : (k == 2) = false := by simp; omega
  have e3 : (k == 3) = false := by simp; omega
  have e4 : (k == 4) = false := by simp; omega
  have e5 : (k == 5) = false := by simp; omega
  have e7 : (k == 7) = false := by simp; omega
  have e8 : (k == 8) = false := by simp; omega
  have e10 : (k == 10) = false := by simp; omega
  clear hE hw hkey ha hep hn ht ji jz0 jz1 jz2
  go_enter Tryd.func5, Tryd.ntmps5
  go_upto_region 1 with fail
  obtain ⟨W0, hW0⟩ : ∃ X, X = w.alloc (.cells #[.int .i64 k, .int .i64 who, .int .i64 kc, .int .i64 kf, .int .u64 (ks : Int), .int .i64 sd, .int .i64 ac, .int .u64 (ep : Int), .int .u64 (n : Int)] 26) := ⟨_, rfl⟩
  rw [← hW0] at hX ⊢
  have h0 := hX.drew
  clear hW0 hX
  refine wp_region_held_drew (S := (fun W => BX w 26 #[.int .i64 k, .int .i64 who, .int .i64 kc, .int .i64 kf, .int .u64 (ks : Int), .int .i64 sd, .int .i64 ac, .int .u64 (ep : Int), .int .u64 (n : Int)] W)) (by kernel_rfl) h0 (fun hHeld => ?_)
  refine wpAnyH_take (i := 0) (oi := _) (v := ?_) rfl (by kernel_rfl) (by kernel_rfl) (by kernel_rfl) (fun _ _ _ h => h) (Or.inl ⟨by rfl, ?_⟩) (by assumption) ?_
  rotate_left
  · (intro W hSw; clear hSw; go_simp; try with_reducible rfl)
  try simp only [Act.put, List.getElem_toArray, List.getElem_cons_zero, List.setIfInBounds_toArray, List.set_cons_zero, List.set_cons_succ]
  refine wpAnyH_take (i := 1) (oi := _) (v := ?_) rfl (by kernel_rfl) (by kernel_rfl) (by kernel_rfl) (fun _ _ _ h => h) (Or.inl ⟨by rfl, ?_⟩) (by assumption) ?_
  rotate_left
  · (intro W hSw; (obtain ⟨y0, y1, y2, y3, y4, y5, y6, y7, y8⟩ : _ ∧ _ ∧ _ ∧ _ ∧ _ ∧ _ ∧ _ ∧ _ ∧ _ := ⟨cell_of_row W _ 0 _ _ (0, 0) hSw.2, cell_of_row W _ 1 _ _ (0, 0) hSw.2, cell_of_row W _ 2 _ _ (0, 0) hSw.2, cell_of_row W _ 3 _ _ (0, 0) hSw.2, cell_of_row W _ 4 _ _ (0, 0) hSw.2, cell_of_row W _ 5 _ _ (0, 0) hSw.2, cell_of_row W _ 6 _ _ (0, 0) hSw.2, cell_of_row W _ 7 _ _ (0, 0) hSw.2, cell_of_row W _ 8 _ _ (0, 0) hSw.2⟩; clear hSw; go_simp; try with_reducible rfl))
  try simp only [Act.put, List.getElem_toArray, List.getElem_cons_succ, List.getElem_cons_zero, List.setIfInBounds_toArray, List.set_cons_zero, List.set_cons_succ]
  refine wpAnyH_take (i := 3) (oi := _) (v := ?_) rfl (by kernel_rfl) (by kernel_rfl) (by kernel_rfl) (fun _ _ _ h => h) (Or.inl ⟨by rfl, ?_⟩) (by assumption) ?_
  rotate_left
  · (intro W hSw; clear hSw; go_simp; try with_reducible rfl)
  try simp only [Act.put, List.getElem_toArray, List.getElem_cons_succ, List.getElem_cons_zero, List.setIfInBounds_toArray, List.set_cons_zero, List.set_cons_succ]
  refine wpAnyH_take (i := 4) (oi := _) (v := ?_) rfl (by kernel_rfl) (by kernel_rfl) (by kernel_rfl) (fun _ _ _ h => h) (Or.inl ⟨by rfl, ?_⟩) (by assumption) ?_
  rotate_left
  · (intro W hSw; (obtain ⟨y0, y1, y2, y3, y4, y5, y6, y7, y8⟩ : _ ∧ _ ∧ _ ∧ _ ∧ _ ∧ _ ∧ _ ∧ _ ∧ _ := ⟨cell_of_row W _ 0 _ _ (0, 0) hSw.2, cell_of_row W _ 1 _ _ (0, 0) hSw.2, cell_of_row W _ 2 _ _ (0, 0) hSw.2, cell_of_row W _ 3 _ _ (0, 0) hSw.2, cell_of_row W _ 4 _ _ (0, 0) hSw.2, cell_of_row W _ 5 _ _ (0, 0) hSw.2, cell_of_row W _ 6 _ _ (0, 0) hSw.2, cell_of_row W _ 7 _ _ (0, 0) hSw.2, cell_of_row W _ 8 _ _ (0, 0) hSw.2⟩; clear hSw; go_simp; try with_reducible rfl))
  try simp only [Act.put, List.getElem_toArray, List.getElem_cons_succ, List.getElem_cons_zero, List.setIfInBounds_toArray, List.set_cons_zero, List.set_cons_succ]
  refine wpAnyH_ready (rs := [2]) (by kernel_rfl) (by simp) ?_
  refine AllReadyH.cons rfl (fun K hK => ?_) AllReadyH.nil
  simp only [List.getElem_toArray, List.getElem_cons_succ, List.getElem_cons_zero]
  rw [if_pos (by rfl)]
  go_simp
  (go_at_call 11; refine (HP.out _).mono ?_; rintro _ v1 ⟨rfl, b1⟩; have g1 := hHeld.call b1)
  go_wp2_with fail
  refine hK.out _ _ g1 (fun hHeld => ?_)
  clear hK K
  try simp only [Act.put, List.getElem_toArray, List.getElem_cons_succ, List.getElem_cons_zero, List.setIfInBounds_toArray, List.set_cons_zero, List.set_cons_succ]
  refine wpAnyH_ready (rs := [5]) (by kernel_rfl) (by simp) ?_
  refine AllReadyH.cons rfl (fun K hK => ?_) AllReadyH.nil
  simp only [List.getElem_toArray, List.getElem_cons_succ, List.getElem_cons_zero]
  rw [if_pos (by rfl)]
  go_simp
  (go_at_call 12; refine (HW.out _ g1.1.2).mono ?_; rintro _ v2 ⟨rfl, b2⟩; have g2 := g1.call b2)
  go_wp2_with fail
  refine hK.out _ _ g2 (fun hHeld => ?_)
  clear hK K
  try simp only [Act.put, List.getElem_toArray, List.getElem_cons_succ, List.getElem_cons_zero, List.setIfInBounds_toArray, List.set_cons_zero, List.set_cons_succ]
  refine wpAnyH_ready (rs := [6]) (by kernel_rfl) (by simp) ?_
  refine AllReadyH.cons rfl (fun K hK => ?_) AllReadyH.nil
  simp only [List.getElem_toArray, List.getElem_cons_succ, List.getElem_cons_zero]
  rw [if_pos (by rfl)]
  go_simp
  refine hK.out _ _ (g2.call ((Below.refl _ _).alloc (Nat.le_refl _) _)) (fun hHeld => ?_)
  clear hK K
  try simp only [Act.put, List.getElem_toArray, List.getElem_cons_succ, List.getElem_cons_zero, List.setIfInBounds_toArray, List.set_cons_zero, List.set_cons_succ]
  refine wpAnyH_take (i := 7) (oi := _) (v := ?_) rfl (by kernel_rfl) (by kernel_rfl) (by kernel_rfl) (fun _ _ _ h => h) (Or.inl ⟨by rfl, ?_⟩) (by assumption) ?_
  rotate_left
  · (intro W hSw; clear hSw; go_simp; try with_reducible rfl)
  try simp only [Act.put, List.getElem_toArray, List.getElem_cons_succ, List.getElem_cons_zero, List.setIfInBounds_toArray, List.set_cons_zero, List.set_cons_succ]
  refine wpAnyH_done (by kernel_rfl) ?_ _
  have HO1 := Lib.hid (own_new v2 (w.heap.size + 1) 3 #[.string P, .string ⟨#[98, 121]⟩, .string I] rfl (Array.getElem?_eq_some_iff.1 g2.2).1 (by decide))
  have HX2 := Lib.hid (g2.call ((Below.refl _ _).alloc (Nat.le_refl _) (.cells #[.string P, .string ⟨#[98, 121]⟩, .string I] 9)))
  obtain ⟨g, hg⟩ : ∃ g, g = v2.heap.size := ⟨_, rfl⟩
  obtain ⟨W2, hW2⟩ : ∃ X, X = v2.alloc (.cells #[.string P, .string ⟨#[98, 121]⟩, .string I] 9) := ⟨_, rfl⟩
  rw [← hW2] at HX2 HO1 ⊢
  rw [← hg] at HO1 ⊢
  clear hg hW2 h0 g1 g2 b1 b2
  obtain ⟨x0, x1, x2, x3, x4, x5, x6, x7, x8⟩ : _ ∧ _ ∧ _ ∧ _ ∧ _ ∧ _ ∧ _ ∧ _ ∧ _ := ⟨cell_of_row W2 _ 0 _ _ (0, 0) HX2.out.2, cell_of_row W2 _ 1 _ _ (0, 0) HX2.out.2, cell_of_row W2 _ 2 _ _ (0, 0) HX2.out.2, cell_of_row W2 _ 3 _ _ (0, 0) HX2.out.2, cell_of_row W2 _ 4 _ _ (0, 0) HX2.out.2, cell_of_row W2 _ 5 _ _ (0, 0) HX2.out.2, cell_of_row W2 _ 6 _ _ (0, 0) HX2.out.2, cell_of_row W2 _ 7 _ _ (0, 0) HX2.out.2, cell_of_row W2 _ 8 _ _ (0, 0) HX2.out.2⟩
  go_upto_region 3 with fail
  have h8 := And.intro HX2.out.drew (World.ownsRow.drew HO1.out)
  clear x0 x1 x2 x3 x4 x5 x6 x7 x8
  refine wp_region_held_drew (S := (fun W => BX w 26 #[.int .i64 k, .int .i64 who, .int .i64 kc, .int .i64 kf, .int .u64 (ks : Int), .int .i64 sd, .int .i64 ac, .int .u64 (ep : Int), .int .u64 (n : Int)] W ∧ W.ownsRow (w.heap.size + 1) 9 1 (.slice (some ⟨g, 0, none⟩) 3 3) 3 [.string P, .string ⟨#[98, 121]⟩, .string I])) (by kernel_rfl) h8 (fun hHeld => ?_)
  refine wpAnyH_take (i := 0) (oi := _) (v := ?_) rfl (by kernel_rfl) (by kernel_rfl) (by kernel_rfl) (fun _ _ _ h => h) (Or.inl ⟨by rfl, ?_⟩) (by assumption) ?_
  rotate_left
  · (intro W hSw; clear hSw; go_simp; try with_reducible rfl)
  try simp only [Act.put, List.getElem_toArray, List.getElem_cons_zero, List.setIfInBounds_toArray, List.set_cons_zero, List.set_cons_succ]
  refine wpAnyH_take (i := 1) (oi := _) (v := ?_) rfl (by kernel_rfl) (by kernel_rfl) (by kernel_rfl) (fun _ _ _ h => h) (Or.inl ⟨by rfl, ?_⟩) (by assumption) ?_
  rotate_left
  · (intro W hSw; clear hSw; go_simp; try with_reducible rfl)
  try simp only [Act.put, List.getElem_toArray, List.getElem_cons_succ, List.getElem_cons_zero, List.setIfInBounds_toArray, List.set_cons_zero, List.set_cons_succ]
  refine wpAnyH_take (i := 2) (oi := _) (v := ?_) rfl (by kernel_rfl) (by kernel_rfl) (by kernel_rfl) (fun _ _ _ h => h) (Or.inl ⟨by rfl, ?_⟩) (by assumption) ?_
  rotate_left
  · (intro W hSw; (obtain ⟨y0, y1, y2, y3, y4, y5, y6, y7, y8⟩ : _ ∧ _ ∧ _ ∧ _ ∧ _ ∧ _ ∧ _ ∧ _ ∧ _ := ⟨cell_of_row W _ 0 _ _ (0, 0) hSw.1.2, cell_of_row W _ 1 _ _ (0, 0) hSw.1.2, cell_of_row W _ 2 _ _ (0, 0) hSw.1.2, cell_of_row W _ 3 _ _ (0, 0) hSw.1.2, cell_of_row W _ 4 _ _ (0, 0) hSw.1.2, cell_of_row W _ 5 _ _ (0, 0) hSw.1.2, cell_of_row W _ 6 _ _ (0, 0) hSw.1.2, cell_of_row W _ 7 _ _ (0, 0) hSw.1.2, cell_of_row W _ 8 _ _ (0, 0) hSw.1.2⟩; clear hSw; go_simp; try with_reducible rfl))
  try simp only [Act.put, List.getElem_toArray, List.getElem_cons_succ, List.getElem_cons_zero, List.setIfInBounds_toArray, List.set_cons_zero, List.set_cons_succ]
  refine wpAnyH_take (i := 4) (oi := _) (v := ?_) rfl (by kernel_rfl) (by kernel_rfl) (by kernel_rfl) (fun _ _ _ h => h) (Or.inl ⟨by rfl, ?_⟩) (by assumption) ?_
  rotate_left
  · (intro W hSw; clear hSw; go_simp; try with_reducible rfl)
  try simp only [Act.put, List.getElem_toArray, List.getElem_cons_succ, List.getElem_cons_zero, List.setIfInBounds_toArray, List.set_cons_zero, List.set_cons_succ]
  refine wpAnyH_take (i := 5) (oi := _) (v := ?_) rfl (by kernel_rfl) (by kernel_rfl) (by kernel_rfl) (fun _ _ _ h => h) (Or.inl ⟨by rfl, ?_⟩) (by assumption) ?_
  rotate_left
  · (intro W hSw; (obtain ⟨y0, y1, y2, y3, y4, y5, y6, y7, y8⟩ : _ ∧ _ ∧ _ ∧ _ ∧ _ ∧ _ ∧ _ ∧ _ ∧ _ := ⟨cell_of_row W _ 0 _ _ (0, 0) hSw.1.2, cell_of_row W _ 1 _ _ (0, 0) hSw.1.2, cell_of_row W _ 2 _ _ (0, 0) hSw.1.2, cell_of_row W _ 3 _ _ (0, 0) hSw.1.2, cell_of_row W _ 4 _ _ (0, 0) hSw.1.2, cell_of_row W _ 5 _ _ (0, 0) hSw.1.2, cell_of_row W _ 6 _ _ (0, 0) hSw.1.2, cell_of_row W _ 7 _ _ (0, 0) hSw.1.2, cell_of_row W _ 8 _ _ (0, 0) hSw.1.2⟩; clear hSw; go_simp; try with_reducible rfl))
  try simp only [Act.put, List.getElem_toArray, List.getElem_cons_succ, List.getElem_cons_zero, List.setIfInBounds_toArray, List.set_cons_zero, List.set_cons_succ]
  refine wpAnyH_take (i := 7) (oi := _) (v := ?_) rfl (by kernel_rfl) (by kernel_rfl) (by kernel_rfl) (fun _ _ _ h => h) (Or.inl ⟨by rfl, ?_⟩) (by assumption) ?_
  rotate_left
  · (intro W hSw; clear hSw; go_simp; try with_reducible rfl)
  try simp only [Act.put, List.getElem_toArray, List.getElem_cons_succ, List.getElem_cons_zero, List.setIfInBounds_toArray, List.set_cons_zero, List.set_cons_succ]
  refine wpAnyH_take (i := 8) (oi := _) (v := ?_) rfl (by kernel_rfl) (by kernel_rfl) (by kernel_rfl) (fun _ _ _ h => h) (Or.inl ⟨by rfl, ?_⟩) (by assumption) ?_
  rotate_left
  · (intro W hSw; (obtain ⟨y0, y1, y2, y3, y4, y5, y6, y7, y8⟩ : _ ∧ _ ∧ _ ∧ _ ∧ _ ∧ _ ∧ _ ∧ _ ∧ _ := ⟨cell_of_row W _ 0 _ _ (0, 0) hSw.1.2, cell_of_row W _ 1 _ _ (0, 0) hSw.1.2, cell_of_row W _ 2 _ _ (0, 0) hSw.1.2, cell_of_row W _ 3 _ _ (0, 0) hSw.1.2, cell_of_row W _ 4 _ _ (0, 0) hSw.1.2, cell_of_row W _ 5 _ _ (0, 0) hSw.1.2, cell_of_row W _ 6 _ _ (0, 0) hSw.1.2, cell_of_row W _ 7 _ _ (0, 0) hSw.1.2, cell_of_row W _ 8 _ _ (0, 0) hSw.1.2⟩; clear hSw; go_simp; try with_reducible rfl))
  try simp only [Act.put, List.getElem_toArray, List.getElem_cons_succ, List.getElem_cons_zero, List.setIfInBounds_toArray, List.set_cons_zero, List.set_cons_succ]
  refine wpAnyH_ready (rs := [3]) (by kernel_rfl) (by simp) ?_
  refine AllReadyH.cons rfl (fun K hK => ?_) AllReadyH.nil
  simp only [List.getElem_toArray, List.getElem_cons_succ, List.getElem_cons_zero]
  rw [if_pos (by rfl)]
  go_simp
  (go_at_call 14; refine (HD.out _).mono ?_; rintro _ t1 ⟨rfl, b1⟩; have u1 := And.intro (hHeld.1.call b1) (own_below hHeld.2 b1))
  go_wp2_with fail
  refine hK.out _ _ u1 (fun hHeld => ?_)
  clear hK K
  try simp only [Act.put, List.getElem_toArray, List.getElem_cons_succ, List.getElem_cons_zero, List.setIfInBounds_toArray, List.set_cons_zero, List.set_cons_succ]
  refine wpAnyH_ready (rs := [6]) (by kernel_rfl) (by simp) ?_
  refine AllReadyH.cons rfl (fun K hK => ?_) AllReadyH.nil
  simp only [List.getElem_toArray, List.getElem_cons_succ, List.getElem_cons_zero]
  rw [if_pos (by rfl)]
  go_simp
  (go_at_call 12; refine (HA.out _ u1.1.1.2).mono ?_; rintro _ t2 ⟨rfl, b2⟩; have u2 := And.intro (u1.1.call b2) (own_below u1.2 b2))
  go_wp2_with fail
  refine hK.out _ _ u2 (fun hHeld => ?_)
  clear hK K
  try simp only [Act.put, List.getElem_toArray, List.getElem_cons_succ, List.getElem_cons_zero, List.setIfInBounds_toArray, List.set_cons_zero, List.set_cons_succ]
  refine wpAnyH_ready (rs := [9]) (by kernel_rfl) (by simp) ?_
  refine AllReadyH.cons rfl (fun K hK => ?_) AllReadyH.nil
  simp only [List.getElem_toArray, List.getElem_cons_succ, List.getElem_cons_zero]
  rw [if_pos (by rfl)]
  go_simp
  (go_at_call 15; refine (HY.out _ u2.1.1.2).mono ?_; rintro _ t3 ⟨rfl, b3⟩; have u3 := And.intro (u2.1.call b3) (own_below u2.2 b3))
  go_wp2_with fail
  refine hK.out _ _ u3 (fun hHeld => ?_)
  clear hK K
  try simp only [Act.put, List.getElem_toArray, List.getElem_cons_succ, List.getElem_cons_zero, List.setIfInBounds_toArray, List.set_cons_zero, List.set_cons_succ]
  refine wpAnyH_ready (rs := [10]) (by kernel_rfl) (by simp) ?_
  refine AllReadyH.cons rfl (fun K hK => ?_) AllReadyH.nil
  simp only [List.getElem_toArray, List.getElem_cons_succ, List.getElem_cons_zero]
  rw [if_pos (by rfl)]
  go_simp
  refine hK.out _ _ (And.intro (u3.1.call ((Below.refl _ _).alloc (Nat.le_refl _) _)) (World.ownsRow.alloc u3.2 _)) (fun hHeld => ?_)
  clear hK K
  try simp only [Act.put, List.getElem_toArray, List.getElem_cons_succ, List.getElem_cons_zero, List.setIfInBounds_toArray, List.set_cons_zero, List.set_cons_succ]
  refine wpAnyH_ready (rs := [11]) (by kernel_rfl) (by simp) ?_
  refine AllReadyH.cons rfl (fun K hK => ?_) AllReadyH.nil
  simp only [List.getElem_toArray, List.getElem_cons_succ, List.getElem_cons_zero]
  rw [if_pos (by rfl)]
  (refine wp_append_keep _ _ _ _ (by rfl) (w.heap.size + 1) 9 i0 _ 1 16 Tryd.underlying38 HI.out.2.2.2 HI.out.2.1 HI.out.2.2.1 HI.out.1 rfl (by decide) _ _ _ (by rfl) (World.ownsRow.alloc u3.2 _) ⟨t3.heap.size, 0, none⟩ 3 3 [.string D, .string A, .string Y] (by rfl) rfl (news_new t3 #[.string D, .string A, .string Y] _) (strs_one [D, A, Y]) (by decide) (by unfold maxLen; omega) (by omega) (by have := u3.1.1.1.size; have := (Array.getElem?_eq_some_iff.1 u3.1.2).1; simp; omega) (t3.heap.size + 1) (by simp) ?_; intro gg cap2 w5 hown5 hg5 hat5 hold5; have hS5 := And.intro (BX.push HT.out u3.1 u3.2 hg5) hold5)
  refine hK.out _ _ hS5 (fun hHeld => ?_)
  clear hK K
  try simp only [Act.put, List.setIfInBounds_toArray, List.set_cons_zero, List.set_cons_succ]
  refine wpAnyH_take (i := 12) (oi := _) (v := ?_) rfl (by kernel_rfl) (by kernel_rfl) (by kernel_rfl) (fun _ _ _ h => h) (Or.inl ⟨by rfl, ?_⟩) (by assumption) ?_
  rotate_left
  · (intro W hSw; clear hSw; go_simp; try with_reducible rfl)
  try simp only [Act.put, List.getElem_toArray, List.getElem_cons_succ, List.getElem_cons_zero, List.setIfInBounds_toArray, List.set_cons_zero, List.set_cons_succ]
  refine wpAnyH_done (by kernel_rfl) ?_ _
  have HX3 := Lib.hid hS5.1
  have HO3 := Lib.hid hown5
  clear h8 u1 b1 u2 b2 u3 b3 HX2 HO1 hS5 hown5 hg5 hat5 hold5
  go_wp2_with fail
  have hj : joinB [P, ⟨#[98, 121]⟩, I, D, A, Y] = E := by
    rw [HE.out]
    simp only [join_cons, join_one]
    exact ext_l (by simp)
  have hjs : (joinB [P, ⟨#[98, 121]⟩, I, D, A, Y]).size ≤ 1000000 := by
    rw [hj, HE.out]
    simp only [ByteArray.size_append]
    simp only [show (⟨#[32]⟩ : ByteArray).size = 1 from rfl, show (⟨#[32, 98, 121, 32]⟩ : ByteArray).size = 4 from rfl]
    omega
  have HJ := Lib.hid (join_own _ _ [P, ⟨#[98, 121]⟩, I, D, A, Y] _ HO3.out (by simp) (by simp) hjs)
  rw [hj] at HJ
  clear hj hjs
  refine HJ.out.mono ?_
  rintro _ w8 ⟨rfl, b1⟩
  have HX8 := Lib.hid (HX3.out.1.1.trans (b1.mono HX3.out.1.1.size))
  clear b1 HJ
  go_wp2
  go_ret
  exact ⟨rfl, HX8.out⟩

theorem op_any (o : O9) (ho : o.ok) (w : World) (ht : Tab w) :
    Calls Tryd.prog 5 #[.agg o.cells] w fun e w' => e = .returned (.string (opB o)) ∧ Below w.heap.size w w' := by
  obtain ⟨k, who, ⟨kc, kf, ks⟩, sd, ac, ep, n⟩ := o
  by_cases hk : ¬ (1 ≤ k ∧ k ≤ 5) ∧ k ≠ 10 ∧ k ≠ 7 ∧ k ≠ 8
  · exact op_else k who kc kf ks sd ac ep n ho hk w ht
  · have h : k = 1 ∨ k = 2 ∨ k = 3 ∨ k = 4 ∨ k = 5 ∨ k = 7 ∨ k = 8 ∨ k = 10 := by omega
    rcases h with h | h | h | h | h | h | h | h
    · exact op_1 k who kc kf ks sd ac ep n ho h w ht
    · exact op_2 k who kc kf ks sd ac ep n ho h w ht
    · exact op_3 k who kc kf ks sd ac ep n ho h w ht
    · exact op_4 k who kc kf ks sd ac ep n ho h w ht
    · exact op_5 k who kc kf ks sd ac ep n ho h w ht
    · exact op_7 k who kc kf ks sd ac ep n ho h w ht
    · exact op_8 k who kc kf ks sd ac ep n ho h w ht
    · exact op_10 k who kc kf ks sd ac ep n ho h w ht
end Go.Proofs.YtpakefgbjncdiadDoor.Rep
