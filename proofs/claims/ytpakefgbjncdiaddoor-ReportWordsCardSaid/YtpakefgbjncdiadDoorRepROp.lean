/- The page's words of an operation. -/
import Derived.Test.YtpakefgbjncdiadDoorRepBox
import Derived.Great.BuildSlice
import Derived.Great.Walk
import Derived.Deep.Cut
import Derived.Deep.RegionHeld3
namespace Go.Proofs.YtpakefgbjncdiadDoor.Rep
open Go Go.RowKit Num Dec packetKeys

set_option maxRecDepth 100000 in
set_option maxHeartbeats 2000000 in
theorem rop_few (k who kc kf : Int) (ks : Nat) (sd ac : Int) (ep n : Nat) (ho : (O9.mk k who ⟨kc, kf, ks⟩ sd ac ep n).ok) (hk : 1 ≤ k ∧ k ≤ 5) (w : World) (ht : Tab w) :
    Calls Tryd.prog 6 #[.agg #[.int .i64 k, .int .i64 who, .int .i64 kc, .int .i64 kf, .int .u64 (ks : Int), .int .i64 sd, .int .i64 ac, .int .u64 (ep : Int), .int .u64 (n : Int)]] w fun e w' => e = .returned (.string (opB ⟨k, who, ⟨kc, kf, ks⟩, sd, ac, ep, n⟩)) ∧ Below w.heap.size w w' := by
  obtain ⟨hw, hkey, ha, hep, hn⟩ := ho
  dsimp only at hw hkey ha hep hn
  obtain ⟨E, hE⟩ : ∃ E, E = opB ⟨k, who, ⟨kc, kf, ks⟩, sd, ac, ep, n⟩ := ⟨_, rfl⟩
  rw [← hE]
  unfold opB nB acB headB at hE
  dsimp only at hE
  rw [if_pos hk] at hE
  have hp := opW_size k
  have hi := intW_size who hw.1 hw.2
  have hn4 := nameB_size ⟨kc, kf, ks⟩ hkey
  have hd := sideW_size sd
  have hac := intW_size ac ha.1 ha.2
  have hy := decW_size n hn
  have hz := decW_size ep hep
  have HW := Lib.hid (fun W => rwhole_any who hw.1 hw.2 W)
  have HA := Lib.hid (fun W => rwhole_any ac ha.1 ha.2 W)
  have HN := Lib.hid (fun W h => rname_any ⟨kc, kf, ks⟩ hkey W h)
  have HY := Lib.hid (fun W => rdigits_any n hn W)
  have HZ := Lib.hid (fun W => rdigits_any ep hep W)
  have HD := Lib.hid (fun W => letter_any sd W)
  have hAt := opwords_at
  obtain ⟨j, rfl⟩ := Int.eq_ofNat_of_zero_le (by omega : 0 ≤ k)
  have hq := hAt j (by omega) (by omega)
  generalize opW (j : Int) = P at *
  rw [show (⟨(Lib.itoa who).toArray⟩ : ByteArray) = intW who from rfl] at HW
  rw [show (⟨(Lib.itoa ac).toArray⟩ : ByteArray) = intW ac from rfl] at HA
  rw [show (⟨(Lib.decDigits n).toArray⟩ : ByteArray) = decW n from rfl] at HY
  rw [show (⟨(Lib.decDigits ep).toArray⟩ : ByteArray) = decW ep from rfl] at HZ
  unfold K3.cells at HN
  dsimp only at HN
  generalize intW who = I at *
  generalize intW ac = A at *
  generalize nameB _ = N at *
  generalize sideW sd = D at *
  generalize decW n = Y at *
  generalize decW ep = Z at *
  have HE := Lib.hid hE
  have hX := BX.new w 26 #[.int .i64 (j : Int), .int .i64 who, .int .i64 kc, .int .i64 kf, .int .u64 (ks : Int), .int .i64 sd, .int .i64 ac, .int .u64 (ep : Int), .int .u64 (n : Int)] ht
  obtain ⟨C, hC⟩ : ∃ C, C = opwords.map Value.string := ⟨_, rfl⟩
  rw [← hC] at hq
  clear hE hAt hw hkey ha hep hn ht
  go_enter Tryd.func6, Tryd.ntmps6
  go_upto_region 1 with fail
  obtain ⟨W0, hW0⟩ : ∃ X, X = w.alloc (.cells #[.int .i64 (j : Int), .int .i64 who, .int .i64 kc, .int .i64 kf, .int .u64 (ks : Int), .int .i64 sd, .int .i64 ac, .int .u64 (ep : Int), .int .u64 (n : Int)] 26) := ⟨_, rfl⟩
  rw [← hW0] at hX ⊢
  have hz0 : W0.heap.size = w.heap.size + 1 := by rw [hW0]; simp
  clear hW0
  refine wp_region_lit ?_
  refine Great.wpList_buildSliceTo rfl 38 9 11 _ rfl (w.heap.size + 1) hz0 (some 6) rfl Tryd.underlying38 C (by rw [hC]; kernel_rfl) ?_
  have hX1 : BX w 26 #[.int .i64 (j : Int), .int .i64 who, .int .i64 kc, .int .i64 kf, .int .u64 (ks : Int), .int .i64 sd, .int .i64 ac, .int .u64 (ep : Int), .int .u64 (n : Int)] (W0.alloc (.cells C 9)) := hX.call ((Below.refl _ _).alloc (Nat.le_refl _) _)
  have hc : (W0.alloc (.cells C 9)).cell? ⟨w.heap.size + 1, j, none⟩ = some (.string P) := (cell_of_row _ _ j _ _ (0, 0) (by have := heap_alloc_new W0 (.cells C 9); rw [hz0] at this; exact this)).trans hq
  clear hq
  obtain ⟨W1, hW1⟩ : ∃ X, X = W0.alloc (.cells C 9) := ⟨_, rfl⟩
  rw [← hW1] at hX1 hc ⊢
  clear hW1 hX hC hz0
  obtain ⟨x0, x1, x2, x3, x4, x5, x6, x7, x8⟩ : _ ∧ _ ∧ _ ∧ _ ∧ _ ∧ _ ∧ _ ∧ _ ∧ _ := ⟨cell_of_row W1 _ 0 _ _ (0, 0) hX1.2, cell_of_row W1 _ 1 _ _ (0, 0) hX1.2, cell_of_row W1 _ 2 _ _ (0, 0) hX1.2, cell_of_row W1 _ 3 _ _ (0, 0) hX1.2, cell_of_row W1 _ 4 _ _ (0, 0) hX1.2, cell_of_row W1 _ 5 _ _ (0, 0) hX1.2, cell_of_row W1 _ 6 _ _ (0, 0) hX1.2, cell_of_row W1 _ 7 _ _ (0, 0) hX1.2, cell_of_row W1 _ 8 _ _ (0, 0) hX1.2⟩
  have HX1 := Lib.hid hX1
  clear hX1
  simp only [Act.put, List.setIfInBounds_toArray, List.set_cons_zero, List.set_cons_succ]
  have q1 := add_eq P ⟨#[32, 98, 121, 32]⟩ (by show P.size + 4 ≤ _; omega)
  have s1 : (P ++ ⟨#[32, 98, 121, 32]⟩).size = P.size + 4 := ByteArray.size_append
  generalize P ++ ⟨#[32, 98, 121, 32]⟩ = X1 at q1 s1 HE
  have q2 := add_eq X1 I (by omega)
  have s2 : (X1 ++ I).size = X1.size + I.size := ByteArray.size_append
  generalize X1 ++ I = X2 at q2 s2 HE
  have q3 := add_eq X2 ⟨#[32]⟩ (by show X2.size + 1 ≤ _; omega)
  have s3 : (X2 ++ ⟨#[32]⟩).size = X2.size + 1 := ByteArray.size_append
  generalize X2 ++ ⟨#[32]⟩ = X3 at q3 s3 HE
  go_wp2_with fail
  refine (HW.out _).mono ?_
  rintro _ w2 ⟨rfl, b1⟩
  have HX2 := Lib.hid (HX1.out.call b1)
  clear b1 HX1 x0 x1 x2 x3 x4 x5 x6 x7 x8
  obtain ⟨x0, x1, x2, x3, x4, x5, x6, x7, x8⟩ : _ ∧ _ ∧ _ ∧ _ ∧ _ ∧ _ ∧ _ ∧ _ ∧ _ := ⟨cell_of_row w2 _ 0 _ _ (0, 0) HX2.out.2, cell_of_row w2 _ 1 _ _ (0, 0) HX2.out.2, cell_of_row w2 _ 2 _ _ (0, 0) HX2.out.2, cell_of_row w2 _ 3 _ _ (0, 0) HX2.out.2, cell_of_row w2 _ 4 _ _ (0, 0) HX2.out.2, cell_of_row w2 _ 5 _ _ (0, 0) HX2.out.2, cell_of_row w2 _ 6 _ _ (0, 0) HX2.out.2, cell_of_row w2 _ 7 _ _ (0, 0) HX2.out.2, cell_of_row w2 _ 8 _ _ (0, 0) HX2.out.2⟩
  have q4 := add_eq X3 N (by omega)
  go_wp2_with fail
  refine (HN.out _ HX2.out.1.2).mono ?_
  rintro _ w3 ⟨rfl, b1⟩
  have HX3 := Lib.hid (HX2.out.call b1)
  clear b1 HX2 x0 x1 x2 x3 x4 x5 x6 x7 x8
  go_wp2
  go_ret
  exact ⟨by rw [HE.out]; rfl, HX3.out.1.1⟩

set_option maxRecDepth 100000 in
set_option maxHeartbeats 2000000 in
theorem rop_6 (k who kc kf : Int) (ks : Nat) (sd ac : Int) (ep n : Nat) (ho : (O9.mk k who ⟨kc, kf, ks⟩ sd ac ep n).ok) (hk : k = 6) (w : World) (ht : Tab w) :
    Calls Tryd.prog 6 #[.agg #[.int .i64 k, .int .i64 who, .int .i64 kc, .int .i64 kf, .int .u64 (ks : Int), .int .i64 sd, .int .i64 ac, .int .u64 (ep : Int), .int .u64 (n : Int)]] w fun e w' => e = .returned (.string (opB ⟨k, who, ⟨kc, kf, ks⟩, sd, ac, ep, n⟩)) ∧ Below w.heap.size w w' := by
  obtain ⟨hw, hkey, ha, hep, hn⟩ := ho
  dsimp only at hw hkey ha hep hn
  subst hk
  obtain ⟨E, hE⟩ : ∃ E, E = opB ⟨6, who, ⟨kc, kf, ks⟩, sd, ac, ep, n⟩ := ⟨_, rfl⟩
  rw [← hE]
  unfold opB nB acB headB at hE
  dsimp only at hE
  rw [if_neg (by omega), if_neg (by omega), if_neg (by omega)] at hE
  have hp := opW_size 6
  have hi := intW_size who hw.1 hw.2
  have hn4 := nameB_size ⟨kc, kf, ks⟩ hkey
  have hd := sideW_size sd
  have hac := intW_size ac ha.1 ha.2
  have hy := decW_size n hn
  have hz := decW_size ep hep
  have HW := Lib.hid (fun W => rwhole_any who hw.1 hw.2 W)
  have HA := Lib.hid (fun W => rwhole_any ac ha.1 ha.2 W)
  have HN := Lib.hid (fun W h => rname_any ⟨kc, kf, ks⟩ hkey W h)
  have HY := Lib.hid (fun W => rdigits_any n hn W)
  have HZ := Lib.hid (fun W => rdigits_any ep hep W)
  have HD := Lib.hid (fun W => letter_any sd W)
  have hAt := opwords_at
  have hq := hAt 6 (by decide) (by decide)
  rw [show ((6 : Nat) : Int) = 6 from rfl] at hq
  generalize opW 6 = P at *
  rw [show (⟨(Lib.itoa who).toArray⟩ : ByteArray) = intW who from rfl] at HW
  rw [show (⟨(Lib.itoa ac).toArray⟩ : ByteArray) = intW ac from rfl] at HA
  rw [show (⟨(Lib.decDigits n).toArray⟩ : ByteArray) = decW n from rfl] at HY
  rw [show (⟨(Lib.decDigits ep).toArray⟩ : ByteArray) = decW ep from rfl] at HZ
  unfold K3.cells at HN
  dsimp only at HN
  generalize intW who = I at *
  generalize intW ac = A at *
  generalize nameB _ = N at *
  generalize sideW sd = D at *
  generalize decW n = Y at *
  generalize decW ep = Z at *
  have HE := Lib.hid hE
  have hX := BX.new w 26 #[.int .i64 6, .int .i64 who, .int .i64 kc, .int .i64 kf, .int .u64 (ks : Int), .int .i64 sd, .int .i64 ac, .int .u64 (ep : Int), .int .u64 (n : Int)] ht
  obtain ⟨C, hC⟩ : ∃ C, C = opwords.map Value.string := ⟨_, rfl⟩
  rw [← hC] at hq
  clear hE hAt hw hkey ha hep hn ht
  go_enter Tryd.func6, Tryd.ntmps6
  go_upto_region 1 with fail
  obtain ⟨W0, hW0⟩ : ∃ X, X = w.alloc (.cells #[.int .i64 6, .int .i64 who, .int .i64 kc, .int .i64 kf, .int .u64 (ks : Int), .int .i64 sd, .int .i64 ac, .int .u64 (ep : Int), .int .u64 (n : Int)] 26) := ⟨_, rfl⟩
  rw [← hW0] at hX ⊢
  have hz0 : W0.heap.size = w.heap.size + 1 := by rw [hW0]; simp
  clear hW0
  refine wp_region_lit ?_
  refine Great.wpList_buildSliceTo rfl 38 9 11 _ rfl (w.heap.size + 1) hz0 (some 6) rfl Tryd.underlying38 C (by rw [hC]; kernel_rfl) ?_
  have hX1 : BX w 26 #[.int .i64 6, .int .i64 who, .int .i64 kc, .int .i64 kf, .int .u64 (ks : Int), .int .i64 sd, .int .i64 ac, .int .u64 (ep : Int), .int .u64 (n : Int)] (W0.alloc (.cells C 9)) := hX.call ((Below.refl _ _).alloc (Nat.le_refl _) _)
  have hc : (W0.alloc (.cells C 9)).cell? ⟨w.heap.size + 1, 6, none⟩ = some (.string P) := (cell_of_row _ _ 6 _ _ (0, 0) (by have := heap_alloc_new W0 (.cells C 9); rw [hz0] at this; exact this)).trans hq
  clear hq
  obtain ⟨W1, hW1⟩ : ∃ X, X = W0.alloc (.cells C 9) := ⟨_, rfl⟩
  rw [← hW1] at hX1 hc ⊢
  clear hW1 hX hC hz0
  obtain ⟨x0, x1, x2, x3, x4, x5, x6, x7, x8⟩ : _ ∧ _ ∧ _ ∧ _ ∧ _ ∧ _ ∧ _ ∧ _ ∧ _ := ⟨cell_of_row W1 _ 0 _ _ (0, 0) hX1.2, cell_of_row W1 _ 1 _ _ (0, 0) hX1.2, cell_of_row W1 _ 2 _ _ (0, 0) hX1.2, cell_of_row W1 _ 3 _ _ (0, 0) hX1.2, cell_of_row W1 _ 4 _ _ (0, 0) hX1.2, cell_of_row W1 _ 5 _ _ (0, 0) hX1.2, cell_of_row W1 _ 6 _ _ (0, 0) hX1.2, cell_of_row W1 _ 7 _ _ (0, 0) hX1.2, cell_of_row W1 _ 8 _ _ (0, 0) hX1.2⟩
  have HX1 := Lib.hid hX1
  clear hX1
  simp only [Act.put, List.setIfInBounds_toArray, List.set_cons_zero, List.set_cons_succ]
  have q1 := add_eq P ⟨#[32, 98, 121, 32]⟩ (by show P.size + 4 ≤ _; omega)
  have s1 : (P ++ ⟨#[32, 98, 121, 32]⟩).size = P.size + 4 := ByteArray.size_append
  generalize P ++ ⟨#[32, 98, 121, 32]⟩ = X1 at q1 s1 HE
  have q2 := add_eq X1 I (by omega)
  have s2 : (X1 ++ I).size = X1.size + I.size := ByteArray.size_append
  generalize X1 ++ I = X2 at q2 s2 HE
  have q3 := add_eq X2 ⟨#[32]⟩ (by show X2.size + 1 ≤ _; omega)
  have s3 : (X2 ++ ⟨#[32]⟩).size = X2.size + 1 := ByteArray.size_append
  generalize X2 ++ ⟨#[32]⟩ = X3 at q3 s3 HE
  go_wp2_with fail
  refine (HW.out _).mono ?_
  rintro _ w2 ⟨rfl, b1⟩
  have HX2 := Lib.hid (HX1.out.call b1)
  clear b1 HX1 x0 x1 x2 x3 x4 x5 x6 x7 x8
  obtain ⟨x0, x1, x2, x3, x4, x5, x6, x7, x8⟩ : _ ∧ _ ∧ _ ∧ _ ∧ _ ∧ _ ∧ _ ∧ _ ∧ _ := ⟨cell_of_row w2 _ 0 _ _ (0, 0) HX2.out.2, cell_of_row w2 _ 1 _ _ (0, 0) HX2.out.2, cell_of_row w2 _ 2 _ _ (0, 0) HX2.out.2, cell_of_row w2 _ 3 _ _ (0, 0) HX2.out.2, cell_of_row w2 _ 4 _ _ (0, 0) HX2.out.2, cell_of_row w2 _ 5 _ _ (0, 0) HX2.out.2, cell_of_row w2 _ 6 _ _ (0, 0) HX2.out.2, cell_of_row w2 _ 7 _ _ (0, 0) HX2.out.2, cell_of_row w2 _ 8 _ _ (0, 0) HX2.out.2⟩
  have q4 := add_eq X3 D (by omega)
  have s4 : (X3 ++ D).size = X3.size + D.size := ByteArray.size_append
  generalize X3 ++ D = X4 at q4 s4 HE
  have q5 := add_eq X4 ⟨#[32]⟩ (by show X4.size + 1 ≤ _; omega)
  have s5 : (X4 ++ ⟨#[32]⟩).size = X4.size + 1 := ByteArray.size_append
  generalize X4 ++ ⟨#[32]⟩ = X5 at q5 s5 HE
  have q6 := add_eq X5 A (by omega)
  have s6 : (X5 ++ A).size = X5.size + A.size := ByteArray.size_append
  generalize X5 ++ A = X6 at q6 s6 HE
  go_upto_region 8 with fail
  have h8 := HX2.out.drew
  clear x0 x1 x2 x3 x4 x5 x6 x7 x8
  refine wp_region_held_drew (S := (fun W => BX w 26 #[.int .i64 6, .int .i64 who, .int .i64 kc, .int .i64 kf, .int .u64 (ks : Int), .int .i64 sd, .int .i64 ac, .int .u64 (ep : Int), .int .u64 (n : Int)] W)) (by kernel_rfl) h8 (fun hHeld => ?_)
  refine wpAnyH_take (i := 0) (oi := _) (v := ?_) rfl (by kernel_rfl) (by kernel_rfl) (by kernel_rfl) (fun _ _ _ h => h) (Or.inl ⟨by rfl, ?_⟩) (by assumption) ?_
  rotate_left
  · (intro W hSw; clear hSw; go_simp; try with_reducible rfl)
  try simp only [Act.put, List.getElem_toArray, List.getElem_cons_zero, List.setIfInBounds_toArray, List.set_cons_zero, List.set_cons_succ]
  refine wpAnyH_take (i := 1) (oi := _) (v := ?_) rfl (by kernel_rfl) (by kernel_rfl) (by kernel_rfl) (fun _ _ _ h => h) (Or.inl ⟨by rfl, ?_⟩) (by assumption) ?_
  rotate_left
  · (intro W hSw; clear hSw; go_simp; try with_reducible rfl)
  try simp only [Act.put, List.getElem_toArray, List.getElem_cons_succ, List.getElem_cons_zero, List.setIfInBounds_toArray, List.set_cons_zero, List.set_cons_succ]
  refine wpAnyH_take (i := 2) (oi := _) (v := ?_) rfl (by kernel_rfl) (by kernel_rfl) (by kernel_rfl) (fun _ _ _ h => h) (Or.inl ⟨by rfl, ?_⟩) (by assumption) ?_
  rotate_left
  · (intro W hSw; (obtain ⟨y0, y1, y2, y3, y4, y5, y6, y7, y8⟩ : _ ∧ _ ∧ _ ∧ _ ∧ _ ∧ _ ∧ _ ∧ _ ∧ _ := ⟨cell_of_row W _ 0 _ _ (0, 0) hSw.2, cell_of_row W _ 1 _ _ (0, 0) hSw.2, cell_of_row W _ 2 _ _ (0, 0) hSw.2, cell_of_row W _ 3 _ _ (0, 0) hSw.2, cell_of_row W _ 4 _ _ (0, 0) hSw.2, cell_of_row W _ 5 _ _ (0, 0) hSw.2, cell_of_row W _ 6 _ _ (0, 0) hSw.2, cell_of_row W _ 7 _ _ (0, 0) hSw.2, cell_of_row W _ 8 _ _ (0, 0) hSw.2⟩; clear hSw; go_simp; try with_reducible rfl))
  try simp only [Act.put, List.getElem_toArray, List.getElem_cons_succ, List.getElem_cons_zero, List.setIfInBounds_toArray, List.set_cons_zero, List.set_cons_succ]
  refine wpAnyH_take (i := 6) (oi := _) (v := ?_) rfl (by kernel_rfl) (by kernel_rfl) (by kernel_rfl) (fun _ _ _ h => h) (Or.inl ⟨by rfl, ?_⟩) (by assumption) ?_
  rotate_left
  · (intro W hSw; clear hSw; go_simp; try with_reducible rfl)
  try simp only [Act.put, List.getElem_toArray, List.getElem_cons_succ, List.getElem_cons_zero, List.setIfInBounds_toArray, List.set_cons_zero, List.set_cons_succ]
  refine wpAnyH_take (i := 7) (oi := _) (v := ?_) rfl (by kernel_rfl) (by kernel_rfl) (by kernel_rfl) (fun _ _ _ h => h) (Or.inl ⟨by rfl, ?_⟩) (by assumption) ?_
  rotate_left
  · (intro W hSw; (obtain ⟨y0, y1, y2, y3, y4, y5, y6, y7, y8⟩ : _ ∧ _ ∧ _ ∧ _ ∧ _ ∧ _ ∧ _ ∧ _ ∧ _ := ⟨cell_of_row W _ 0 _ _ (0, 0) hSw.2, cell_of_row W _ 1 _ _ (0, 0) hSw.2, cell_of_row W _ 2 _ _ (0, 0) hSw.2, cell_of_row W _ 3 _ _ (0, 0) hSw.2, cell_of_row W _ 4 _ _ (0, 0) hSw.2, cell_of_row W _ 5 _ _ (0, 0) hSw.2, cell_of_row W _ 6 _ _ (0, 0) hSw.2, cell_of_row W _ 7 _ _ (0, 0) hSw.2, cell_of_row W _ 8 _ _ (0, 0) hSw.2⟩; clear hSw; go_simp; try with_reducible rfl))
  try simp only [Act.put, List.getElem_toArray, List.getElem_cons_succ, List.getElem_cons_zero, List.setIfInBounds_toArray, List.set_cons_zero, List.set_cons_succ]
  refine wpAnyH_ready (rs := [3]) (by kernel_rfl) (by simp) ?_
  refine AllReadyH.cons rfl (fun K hK => ?_) AllReadyH.nil
  simp only [List.getElem_toArray, List.getElem_cons_succ, List.getElem_cons_zero]
  rw [if_pos (by rfl)]
  go_simp
  (go_at_call 19; refine (HD.out _).mono ?_; rintro _ v1 ⟨rfl, b1⟩; have g1 := hHeld.call b1)
  go_wp2_with fail
  refine hK.out _ _ g1 (fun hHeld => ?_)
  clear hK K
  try simp only [Act.put, List.getElem_toArray, List.getElem_cons_succ, List.getElem_cons_zero, List.setIfInBounds_toArray, List.set_cons_zero, List.set_cons_succ]
  refine wpAnyH_take (i := 4) (oi := _) (v := ?_) rfl (by kernel_rfl) (by kernel_rfl) (by kernel_rfl) (fun _ _ _ h => h) (Or.inl ⟨by rfl, ?_⟩) (by assumption) ?_
  rotate_left
  · (intro W hSw; clear hSw; go_simp; try with_reducible rfl)
  try simp only [Act.put, List.getElem_toArray, List.getElem_cons_succ, List.getElem_cons_zero, List.setIfInBounds_toArray, List.set_cons_zero, List.set_cons_succ]
  refine wpAnyH_take (i := 5) (oi := _) (v := ?_) rfl (by kernel_rfl) (by kernel_rfl) (by kernel_rfl) (fun _ _ _ h => h) (Or.inl ⟨by rfl, ?_⟩) (by assumption) ?_
  rotate_left
  · (intro W hSw; clear hSw; go_simp; try with_reducible rfl)
  try simp only [Act.put, List.getElem_toArray, List.getElem_cons_succ, List.getElem_cons_zero, List.setIfInBounds_toArray, List.set_cons_zero, List.set_cons_succ]
  refine wpAnyH_ready (rs := [8]) (by kernel_rfl) (by simp) ?_
  refine AllReadyH.cons rfl (fun K hK => ?_) AllReadyH.nil
  simp only [List.getElem_toArray, List.getElem_cons_succ, List.getElem_cons_zero]
  rw [if_pos (by rfl)]
  go_simp
  (go_at_call 17; refine (HA.out _).mono ?_; rintro _ v2 ⟨rfl, b2⟩; have g2 := g1.call b2)
  go_wp2_with fail
  refine hK.out _ _ g2 (fun hHeld => ?_)
  clear hK K
  try simp only [Act.put, List.getElem_toArray, List.getElem_cons_succ, List.getElem_cons_zero, List.setIfInBounds_toArray, List.set_cons_zero, List.set_cons_succ]
  refine wpAnyH_take (i := 9) (oi := _) (v := ?_) rfl (by kernel_rfl) (by kernel_rfl) (by kernel_rfl) (fun _ _ _ h => h) (Or.inl ⟨by rfl, ?_⟩) (by assumption) ?_
  rotate_left
  · (intro W hSw; clear hSw; go_simp; try with_reducible rfl)
  try simp only [Act.put, List.getElem_toArray, List.getElem_cons_succ, List.getElem_cons_zero, List.setIfInBounds_toArray, List.set_cons_zero, List.set_cons_succ]
  refine wpAnyH_take (i := 10) (oi := _) (v := ?_) rfl (by kernel_rfl) (by kernel_rfl) (by kernel_rfl) (fun _ _ _ h => h) (Or.inl ⟨by rfl, ?_⟩) (by assumption) ?_
  rotate_left
  · (intro W hSw; clear hSw; go_simp; try with_reducible rfl)
  try simp only [Act.put, List.getElem_toArray, List.getElem_cons_succ, List.getElem_cons_zero, List.setIfInBounds_toArray, List.set_cons_zero, List.set_cons_succ]
  refine wpAnyH_done (by kernel_rfl) ?_ _
  have HX3 := Lib.hid g2
  clear h8 g1 g2 b1 b2 HX2
  obtain ⟨x0, x1, x2, x3, x4, x5, x6, x7, x8⟩ : _ ∧ _ ∧ _ ∧ _ ∧ _ ∧ _ ∧ _ ∧ _ ∧ _ := ⟨cell_of_row v2 _ 0 _ _ (0, 0) HX3.out.2, cell_of_row v2 _ 1 _ _ (0, 0) HX3.out.2, cell_of_row v2 _ 2 _ _ (0, 0) HX3.out.2, cell_of_row v2 _ 3 _ _ (0, 0) HX3.out.2, cell_of_row v2 _ 4 _ _ (0, 0) HX3.out.2, cell_of_row v2 _ 5 _ _ (0, 0) HX3.out.2, cell_of_row v2 _ 6 _ _ (0, 0) HX3.out.2, cell_of_row v2 _ 7 _ _ (0, 0) HX3.out.2, cell_of_row v2 _ 8 _ _ (0, 0) HX3.out.2⟩
  have q7 := add_eq X6 ⟨#[32]⟩ (by show X6.size + 1 ≤ _; omega)
  have s7 : (X6 ++ ⟨#[32]⟩).size = X6.size + 1 := ByteArray.size_append
  generalize X6 ++ ⟨#[32]⟩ = X7 at q7 s7 HE
  have q8 := add_eq X7 Y (by omega)
  have s8 : (X7 ++ Y).size = X7.size + Y.size := ByteArray.size_append
  generalize X7 ++ Y = X8 at q8 s8 HE
  go_wp2_with fail
  refine (HY.out _).mono ?_
  rintro _ w4 ⟨rfl, b1⟩
  have HX4 := Lib.hid (HX3.out.call b1)
  clear b1 HX3 x0 x1 x2 x3 x4 x5 x6 x7 x8
  obtain ⟨x0, x1, x2, x3, x4, x5, x6, x7, x8⟩ : _ ∧ _ ∧ _ ∧ _ ∧ _ ∧ _ ∧ _ ∧ _ ∧ _ := ⟨cell_of_row w4 _ 0 _ _ (0, 0) HX4.out.2, cell_of_row w4 _ 1 _ _ (0, 0) HX4.out.2, cell_of_row w4 _ 2 _ _ (0, 0) HX4.out.2, cell_of_row w4 _ 3 _ _ (0, 0) HX4.out.2, cell_of_row w4 _ 4 _ _ (0, 0) HX4.out.2, cell_of_row w4 _ 5 _ _ (0, 0) HX4.out.2, cell_of_row w4 _ 6 _ _ (0, 0) HX4.out.2, cell_of_row w4 _ 7 _ _ (0, 0) HX4.out.2, cell_of_row w4 _ 8 _ _ (0, 0) HX4.out.2⟩
  go_wp2
  go_ret
  exact ⟨by rw [HE.out]; rfl, HX4.out.1.1⟩

set_option maxRecDepth 100000 in
set_option maxHeartbeats 2000000 in
theorem rop_7 (k who kc kf : Int) (ks : Nat) (sd ac : Int) (ep n : Nat) (ho : (O9.mk k who ⟨kc, kf, ks⟩ sd ac ep n).ok) (hk : k = 7) (w : World) (ht : Tab w) :
    Calls Tryd.prog 6 #[.agg #[.int .i64 k, .int .i64 who, .int .i64 kc, .int .i64 kf, .int .u64 (ks : Int), .int .i64 sd, .int .i64 ac, .int .u64 (ep : Int), .int .u64 (n : Int)]] w fun e w' => e = .returned (.string (opB ⟨k, who, ⟨kc, kf, ks⟩, sd, ac, ep, n⟩)) ∧ Below w.heap.size w w' := by
  obtain ⟨hw, hkey, ha, hep, hn⟩ := ho
  dsimp only at hw hkey ha hep hn
  subst hk
  obtain ⟨E, hE⟩ : ∃ E, E = opB ⟨7, who, ⟨kc, kf, ks⟩, sd, ac, ep, n⟩ := ⟨_, rfl⟩
  rw [← hE]
  unfold opB nB acB headB at hE
  dsimp only at hE
  rw [if_neg (by omega), if_neg (by omega), if_pos (.inl rfl)] at hE
  have hp := opW_size 7
  have hi := intW_size who hw.1 hw.2
  have hn4 := nameB_size ⟨kc, kf, ks⟩ hkey
  have hd := sideW_size sd
  have hac := intW_size ac ha.1 ha.2
  have hy := decW_size n hn
  have hz := decW_size ep hep
  have HW := Lib.hid (fun W => rwhole_any who hw.1 hw.2 W)
  have HA := Lib.hid (fun W => rwhole_any ac ha.1 ha.2 W)
  have HN := Lib.hid (fun W h => rname_any ⟨kc, kf, ks⟩ hkey W h)
  have HY := Lib.hid (fun W => rdigits_any n hn W)
  have HZ := Lib.hid (fun W => rdigits_any ep hep W)
  have HD := Lib.hid (fun W => letter_any sd W)
  have hAt := opwords_at
  have hq := hAt 7 (by decide) (by decide)
  rw [show ((7 : Nat) : Int) = 7 from rfl] at hq
  generalize opW 7 = P at *
  rw [show (⟨(Lib.itoa who).toArray⟩ : ByteArray) = intW who from rfl] at HW
  rw [show (⟨(Lib.itoa ac).toArray⟩ : ByteArray) = intW ac from rfl] at HA
  rw [show (⟨(Lib.decDigits n).toArray⟩ : ByteArray) = decW n from rfl] at HY
  rw [show (⟨(Lib.decDigits ep).toArray⟩ : ByteArray) = decW ep from rfl] at HZ
  unfold K3.cells at HN
  dsimp only at HN
  generalize intW who = I at *
  generalize intW ac = A at *
  generalize nameB _ = N at *
  generalize sideW sd = D at *
  generalize decW n = Y at *
  generalize decW ep = Z at *
  have HE := Lib.hid hE
  have hX := BX.new w 26 #[.int .i64 7, .int .i64 who, .int .i64 kc, .int .i64 kf, .int .u64 (ks : Int), .int .i64 sd, .int .i64 ac, .int .u64 (ep : Int), .int .u64 (n : Int)] ht
  obtain ⟨C, hC⟩ : ∃ C, C = opwords.map Value.string := ⟨_, rfl⟩
  rw [← hC] at hq
  clear hE hAt hw hkey ha hep hn ht
  go_enter Tryd.func6, Tryd.ntmps6
  go_upto_region 1 with fail
  obtain ⟨W0, hW0⟩ : ∃ X, X = w.alloc (.cells #[.int .i64 7, .int .i64 who, .int .i64 kc, .int .i64 kf, .int .u64 (ks : Int), .int .i64 sd, .int .i64 ac, .int .u64 (ep : Int), .int .u64 (n : Int)] 26) := ⟨_, rfl⟩
  rw [← hW0] at hX ⊢
  have hz0 : W0.heap.size = w.heap.size + 1 := by rw [hW0]; simp
  clear hW0
  refine wp_region_lit ?_
  refine Great.wpList_buildSliceTo rfl 38 9 11 _ rfl (w.heap.size + 1) hz0 (some 6) rfl Tryd.underlying38 C (by rw [hC]; kernel_rfl) ?_
  have hX1 : BX w 26 #[.int .i64 7, .int .i64 who, .int .i64 kc, .int .i64 kf, .int .u64 (ks : Int), .int .i64 sd, .int .i64 ac, .int .u64 (ep : Int), .int .u64 (n : Int)] (W0.alloc (.cells C 9)) := hX.call ((Below.refl _ _).alloc (Nat.le_refl _) _)
  have hc : (W0.alloc (.cells C 9)).cell? ⟨w.heap.size + 1, 7, none⟩ = some (.string P) := (cell_of_row _ _ 7 _ _ (0, 0) (by have := heap_alloc_new W0 (.cells C 9); rw [hz0] at this; exact this)).trans hq
  clear hq
  obtain ⟨W1, hW1⟩ : ∃ X, X = W0.alloc (.cells C 9) := ⟨_, rfl⟩
  rw [← hW1] at hX1 hc ⊢
  clear hW1 hX hC hz0
  obtain ⟨x0, x1, x2, x3, x4, x5, x6, x7, x8⟩ : _ ∧ _ ∧ _ ∧ _ ∧ _ ∧ _ ∧ _ ∧ _ ∧ _ := ⟨cell_of_row W1 _ 0 _ _ (0, 0) hX1.2, cell_of_row W1 _ 1 _ _ (0, 0) hX1.2, cell_of_row W1 _ 2 _ _ (0, 0) hX1.2, cell_of_row W1 _ 3 _ _ (0, 0) hX1.2, cell_of_row W1 _ 4 _ _ (0, 0) hX1.2, cell_of_row W1 _ 5 _ _ (0, 0) hX1.2, cell_of_row W1 _ 6 _ _ (0, 0) hX1.2, cell_of_row W1 _ 7 _ _ (0, 0) hX1.2, cell_of_row W1 _ 8 _ _ (0, 0) hX1.2⟩
  have HX1 := Lib.hid hX1
  clear hX1
  simp only [Act.put, List.setIfInBounds_toArray, List.set_cons_zero, List.set_cons_succ]
  have q1 := add_eq P ⟨#[32, 98, 121, 32]⟩ (by show P.size + 4 ≤ _; omega)
  have s1 : (P ++ ⟨#[32, 98, 121, 32]⟩).size = P.size + 4 := ByteArray.size_append
  generalize P ++ ⟨#[32, 98, 121, 32]⟩ = X1 at q1 s1 HE
  have q2 := add_eq X1 I (by omega)
  have s2 : (X1 ++ I).size = X1.size + I.size := ByteArray.size_append
  generalize X1 ++ I = X2 at q2 s2 HE
  have q3 := add_eq X2 ⟨#[32]⟩ (by show X2.size + 1 ≤ _; omega)
  have s3 : (X2 ++ ⟨#[32]⟩).size = X2.size + 1 := ByteArray.size_append
  generalize X2 ++ ⟨#[32]⟩ = X3 at q3 s3 HE
  go_wp2_with fail
  refine (HW.out _).mono ?_
  rintro _ w2 ⟨rfl, b1⟩
  have HX2 := Lib.hid (HX1.out.call b1)
  clear b1 HX1 x0 x1 x2 x3 x4 x5 x6 x7 x8
  obtain ⟨x0, x1, x2, x3, x4, x5, x6, x7, x8⟩ : _ ∧ _ ∧ _ ∧ _ ∧ _ ∧ _ ∧ _ ∧ _ ∧ _ := ⟨cell_of_row w2 _ 0 _ _ (0, 0) HX2.out.2, cell_of_row w2 _ 1 _ _ (0, 0) HX2.out.2, cell_of_row w2 _ 2 _ _ (0, 0) HX2.out.2, cell_of_row w2 _ 3 _ _ (0, 0) HX2.out.2, cell_of_row w2 _ 4 _ _ (0, 0) HX2.out.2, cell_of_row w2 _ 5 _ _ (0, 0) HX2.out.2, cell_of_row w2 _ 6 _ _ (0, 0) HX2.out.2, cell_of_row w2 _ 7 _ _ (0, 0) HX2.out.2, cell_of_row w2 _ 8 _ _ (0, 0) HX2.out.2⟩
  have q4 := add_eq X3 D (by omega)
  have s4 : (X3 ++ D).size = X3.size + D.size := ByteArray.size_append
  generalize X3 ++ D = X4 at q4 s4 HE
  have q5 := add_eq X4 ⟨#[32]⟩ (by show X4.size + 1 ≤ _; omega)
  have s5 : (X4 ++ ⟨#[32]⟩).size = X4.size + 1 := ByteArray.size_append
  generalize X4 ++ ⟨#[32]⟩ = X5 at q5 s5 HE
  have q6 := add_eq X5 A (by omega)
  have s6 : (X5 ++ A).size = X5.size + A.size := ByteArray.size_append
  generalize X5 ++ A = X6 at q6 s6 HE
  go_upto_region 8 with fail
  have h8 := HX2.out.drew
  clear x0 x1 x2 x3 x4 x5 x6 x7 x8
  refine wp_region_held_drew (S := (fun W => BX w 26 #[.int .i64 7, .int .i64 who, .int .i64 kc, .int .i64 kf, .int .u64 (ks : Int), .int .i64 sd, .int .i64 ac, .int .u64 (ep : Int), .int .u64 (n : Int)] W)) (by kernel_rfl) h8 (fun hHeld => ?_)
  refine wpAnyH_take (i := 0) (oi := _) (v := ?_) rfl (by kernel_rfl) (by kernel_rfl) (by kernel_rfl) (fun _ _ _ h => h) (Or.inl ⟨by rfl, ?_⟩) (by assumption) ?_
  rotate_left
  · (intro W hSw; clear hSw; go_simp; try with_reducible rfl)
  try simp only [Act.put, List.getElem_toArray, List.getElem_cons_zero, List.setIfInBounds_toArray, List.set_cons_zero, List.set_cons_succ]
  refine wpAnyH_take (i := 1) (oi := _) (v := ?_) rfl (by kernel_rfl) (by kernel_rfl) (by kernel_rfl) (fun _ _ _ h => h) (Or.inl ⟨by rfl, ?_⟩) (by assumption) ?_
  rotate_left
  · (intro W hSw; clear hSw; go_simp; try with_reducible rfl)
  try simp only [Act.put, List.getElem_toArray, List.getElem_cons_succ, List.getElem_cons_zero, List.setIfInBounds_toArray, List.set_cons_zero, List.set_cons_succ]
  refine wpAnyH_take (i := 2) (oi := _) (v := ?_) rfl (by kernel_rfl) (by kernel_rfl) (by kernel_rfl) (fun _ _ _ h => h) (Or.inl ⟨by rfl, ?_⟩) (by assumption) ?_
  rotate_left
  · (intro W hSw; (obtain ⟨y0, y1, y2, y3, y4, y5, y6, y7, y8⟩ : _ ∧ _ ∧ _ ∧ _ ∧ _ ∧ _ ∧ _ ∧ _ ∧ _ := ⟨cell_of_row W _ 0 _ _ (0, 0) hSw.2, cell_of_row W _ 1 _ _ (0, 0) hSw.2, cell_of_row W _ 2 _ _ (0, 0) hSw.2, cell_of_row W _ 3 _ _ (0, 0) hSw.2, cell_of_row W _ 4 _ _ (0, 0) hSw.2, cell_of_row W _ 5 _ _ (0, 0) hSw.2, cell_of_row W _ 6 _ _ (0, 0) hSw.2, cell_of_row W _ 7 _ _ (0, 0) hSw.2, cell_of_row W _ 8 _ _ (0, 0) hSw.2⟩; clear hSw; go_simp; try with_reducible rfl))
  try simp only [Act.put, List.getElem_toArray, List.getElem_cons_succ, List.getElem_cons_zero, List.setIfInBounds_toArray, List.set_cons_zero, List.set_cons_succ]
  refine wpAnyH_take (i := 6) (oi := _) (v := ?_) rfl (by kernel_rfl) (by kernel_rfl) (by kernel_rfl) (fun _ _ _ h => h) (Or.inl ⟨by rfl, ?_⟩) (by assumption) ?_
  rotate_left
  · (intro W hSw; clear hSw; go_simp; try with_reducible rfl)
  try simp only [Act.put, List.getElem_toArray, List.getElem_cons_succ, List.getElem_cons_zero, List.setIfInBounds_toArray, List.set_cons_zero, List.set_cons_succ]
  refine wpAnyH_take (i := 7) (oi := _) (v := ?_) rfl (by kernel_rfl) (by kernel_rfl) (by kernel_rfl) (fun _ _ _ h => h) (Or.inl ⟨by rfl, ?_⟩) (by assumption) ?_
  rotate_left
  · (intro W hSw; (obtain ⟨y0, y1, y2, y3, y4, y5, y6, y7, y8⟩ : _ ∧ _ ∧ _ ∧ _ ∧ _ ∧ _ ∧ _ ∧ _ ∧ _ := ⟨cell_of_row W _ 0 _ _ (0, 0) hSw.2, cell_of_row W _ 1 _ _ (0, 0) hSw.2, cell_of_row W _ 2 _ _ (0, 0) hSw.2, cell_of_row W _ 3 _ _ (0, 0) hSw.2, cell_of_row W _ 4 _ _ (0, 0) hSw.2, cell_of_row W _ 5 _ _ (0, 0) hSw.2, cell_of_row W _ 6 _ _ (0, 0) hSw.2, cell_of_row W _ 7 _ _ (0, 0) hSw.2, cell_of_row W _ 8 _ _ (0, 0) hSw.2⟩; clear hSw; go_simp; try with_reducible rfl))
  try simp only [Act.put, List.getElem_toArray, List.getElem_cons_succ, List.getElem_cons_zero, List.setIfInBounds_toArray, List.set_cons_zero, List.set_cons_succ]
  refine wpAnyH_ready (rs := [3]) (by kernel_rfl) (by simp) ?_
  refine AllReadyH.cons rfl (fun K hK => ?_) AllReadyH.nil
  simp only [List.getElem_toArray, List.getElem_cons_succ, List.getElem_cons_zero]
  rw [if_pos (by rfl)]
  go_simp
  (go_at_call 19; refine (HD.out _).mono ?_; rintro _ v1 ⟨rfl, b1⟩; have g1 := hHeld.call b1)
  go_wp2_with fail
  refine hK.out _ _ g1 (fun hHeld => ?_)
  clear hK K
  try simp only [Act.put, List.getElem_toArray, List.getElem_cons_succ, List.getElem_cons_zero, List.setIfInBounds_toArray, List.set_cons_zero, List.set_cons_succ]
  refine wpAnyH_take (i := 4) (oi := _) (v := ?_) rfl (by kernel_rfl) (by kernel_rfl) (by kernel_rfl) (fun _ _ _ h => h) (Or.inl ⟨by rfl, ?_⟩) (by assumption) ?_
  rotate_left
  · (intro W hSw; clear hSw; go_simp; try with_reducible rfl)
  try simp only [Act.put, List.getElem_toArray, List.getElem_cons_succ, List.getElem_cons_zero, List.setIfInBounds_toArray, List.set_cons_zero, List.set_cons_succ]
  refine wpAnyH_take (i := 5) (oi := _) (v := ?_) rfl (by kernel_rfl) (by kernel_rfl) (by kernel_rfl) (fun _ _ _ h => h) (Or.inl ⟨by rfl, ?_⟩) (by assumption) ?_
  rotate_left
  · (intro W hSw; clear hSw; go_simp; try with_reducible rfl)
  try simp only [Act.put, List.getElem_toArray, List.getElem_cons_succ, List.getElem_cons_zero, List.setIfInBounds_toArray, List.set_cons_zero, List.set_cons_succ]
  refine wpAnyH_ready (rs := [8]) (by kernel_rfl) (by simp) ?_
  refine AllReadyH.cons rfl (fun K hK => ?_) AllReadyH.nil
  simp only [List.getElem_toArray, List.getElem_cons_succ, List.getElem_cons_zero]
  rw [if_pos (by rfl)]
  go_simp
  (go_at_call 17; refine (HA.out _).mono ?_; rintro _ v2 ⟨rfl, b2⟩; have g2 := g1.call b2)
  go_wp2_with fail
  refine hK.out _ _ g2 (fun hHeld => ?_)
  clear hK K
  try simp only [Act.put, List.getElem_toArray, List.getElem_cons_succ, List.getElem_cons_zero, List.setIfInBounds_toArray, List.set_cons_zero, List.set_cons_succ]
  refine wpAnyH_take (i := 9) (oi := _) (v := ?_) rfl (by kernel_rfl) (by kernel_rfl) (by kernel_rfl) (fun _ _ _ h => h) (Or.inl ⟨by rfl, ?_⟩) (by assumption) ?_
  rotate_left
  · (intro W hSw; clear hSw; go_simp; try with_reducible rfl)
  try simp only [Act.put, List.getElem_toArray, List.getElem_cons_succ, List.getElem_cons_zero, List.setIfInBounds_toArray, List.set_cons_zero, List.set_cons_succ]
  refine wpAnyH_take (i := 10) (oi := _) (v := ?_) rfl (by kernel_rfl) (by kernel_rfl) (by kernel_rfl) (fun _ _ _ h => h) (Or.inl ⟨by rfl, ?_⟩) (by assumption) ?_
  rotate_left
  · (intro W hSw; clear hSw; go_simp; try with_reducible rfl)
  try simp only [Act.put, List.getElem_toArray, List.getElem_cons_succ, List.getElem_cons_zero, List.setIfInBounds_toArray, List.set_cons_zero, List.set_cons_succ]
  refine wpAnyH_done (by kernel_rfl) ?_ _
  have HX3 := Lib.hid g2
  clear h8 g1 g2 b1 b2 HX2
  obtain ⟨x0, x1, x2, x3, x4, x5, x6, x7, x8⟩ : _ ∧ _ ∧ _ ∧ _ ∧ _ ∧ _ ∧ _ ∧ _ ∧ _ := ⟨cell_of_row v2 _ 0 _ _ (0, 0) HX3.out.2, cell_of_row v2 _ 1 _ _ (0, 0) HX3.out.2, cell_of_row v2 _ 2 _ _ (0, 0) HX3.out.2, cell_of_row v2 _ 3 _ _ (0, 0) HX3.out.2, cell_of_row v2 _ 4 _ _ (0, 0) HX3.out.2, cell_of_row v2 _ 5 _ _ (0, 0) HX3.out.2, cell_of_row v2 _ 6 _ _ (0, 0) HX3.out.2, cell_of_row v2 _ 7 _ _ (0, 0) HX3.out.2, cell_of_row v2 _ 8 _ _ (0, 0) HX3.out.2⟩
  have q7 := add_eq X6 ⟨#[32]⟩ (by show X6.size + 1 ≤ _; omega)
  have s7 : (X6 ++ ⟨#[32]⟩).size = X6.size + 1 := ByteArray.size_append
  generalize X6 ++ ⟨#[32]⟩ = X7 at q7 s7 HE
  have q8 := add_eq X7 Y (by omega)
  have s8 : (X7 ++ Y).size = X7.size + Y.size := ByteArray.size_append
  generalize X7 ++ Y = X8 at q8 s8 HE
  go_wp2_with fail
  refine (HY.out _).mono ?_
  rintro _ w4 ⟨rfl, b1⟩
  have HX4 := Lib.hid (HX3.out.call b1)
  clear b1 HX3 x0 x1 x2 x3 x4 x5 x6 x7 x8
  obtain ⟨x0, x1, x2, x3, x4, x5, x6, x7, x8⟩ : _ ∧ _ ∧ _ ∧ _ ∧ _ ∧ _ ∧ _ ∧ _ ∧ _ := ⟨cell_of_row w4 _ 0 _ _ (0, 0) HX4.out.2, cell_of_row w4 _ 1 _ _ (0, 0) HX4.out.2, cell_of_row w4 _ 2 _ _ (0, 0) HX4.out.2, cell_of_row w4 _ 3 _ _ (0, 0) HX4.out.2, cell_of_row w4 _ 4 _ _ (0, 0) HX4.out.2, cell_of_row w4 _ 5 _ _ (0, 0) HX4.out.2, cell_of_row w4 _ 6 _ _ (0, 0) HX4.out.2, cell_of_row w4 _ 7 _ _ (0, 0) HX4.out.2, cell_of_row w4 _ 8 _ _ (0, 0) HX4.out.2⟩
  have q9 := add_eq X8 ⟨#[32, 105, 110, 32]⟩ (by show X8.size + 4 ≤ _; omega)
  have s9 : (X8 ++ ⟨#[32, 105, 110, 32]⟩).size = X8.size + 4 := ByteArray.size_append
  generalize X8 ++ ⟨#[32, 105, 110, 32]⟩ = X9 at q9 s9 HE
  have q10 := add_eq X9 Z (by omega)
  go_wp2_with fail
  refine (HZ.out _).mono ?_
  rintro _ w5 ⟨rfl, b1⟩
  have HX5 := Lib.hid (HX4.out.call b1)
  clear b1 HX4 x0 x1 x2 x3 x4 x5 x6 x7 x8
  go_wp2
  go_ret
  exact ⟨by rw [HE.out]; rfl, HX5.out.1.1⟩

set_option maxRecDepth 100000 in
set_option maxHeartbeats 2000000 in
theorem rop_8 (k who kc kf : Int) (ks : Nat) (sd ac : Int) (ep n : Nat) (ho : (O9.mk k who ⟨kc, kf, ks⟩ sd ac ep n).ok) (hk : k = 8) (w : World) (ht : Tab w) :
    Calls Tryd.prog 6 #[.agg #[.int .i64 k, .int .i64 who, .int .i64 kc, .int .i64 kf, .int .u64 (ks : Int), .int .i64 sd, .int .i64 ac, .int .u64 (ep : Int), .int .u64 (n : Int)]] w fun e w' => e = .returned (.string (opB ⟨k, who, ⟨kc, kf, ks⟩, sd, ac, ep, n⟩)) ∧ Below w.heap.size w w' := by
  obtain ⟨hw, hkey, ha, hep, hn⟩ := ho
  dsimp only at hw hkey ha hep hn
  subst hk
  obtain ⟨E, hE⟩ : ∃ E, E = opB ⟨8, who, ⟨kc, kf, ks⟩, sd, ac, ep, n⟩ := ⟨_, rfl⟩
  rw [← hE]
  unfold opB nB acB headB at hE
  dsimp only at hE
  rw [if_neg (by omega), if_neg (by omega), if_pos (.inr rfl)] at hE
  have hp := opW_size 8
  have hi := intW_size who hw.1 hw.2
  have hn4 := nameB_size ⟨kc, kf, ks⟩ hkey
  have hd := sideW_size sd
  have hac := intW_size ac ha.1 ha.2
  have hy := decW_size n hn
  have hz := decW_size ep hep
  have HW := Lib.hid (fun W => rwhole_any who hw.1 hw.2 W)
  have HA := Lib.hid (fun W => rwhole_any ac ha.1 ha.2 W)
  have HN := Lib.hid (fun W h => rname_any ⟨kc, kf, ks⟩ hkey W h)
  have HY := Lib.hid (fun W => rdigits_any n hn W)
  have HZ := Lib.hid (fun W => rdigits_any ep hep W)
  have HD := Lib.hid (fun W => letter_any sd W)
  have hAt := opwords_at
  have hq := hAt 8 (by decide) (by decide)
  rw [show ((8 : Nat) : Int) = 8 from rfl] at hq
  generalize opW 8 = P at *
  rw [show (⟨(Lib.itoa who).toArray⟩ : ByteArray) = intW who from rfl] at HW
  rw [show (⟨(Lib.itoa ac).toArray⟩ : ByteArray) = intW ac from rfl] at HA
  rw [show (⟨(Lib.decDigits n).toArray⟩ : ByteArray) = decW n from rfl] at HY
  rw [show (⟨(Lib.decDigits ep).toArray⟩ : ByteArray) = decW ep from rfl] at HZ
  unfold K3.cells at HN
  dsimp only at HN
  generalize intW who = I at *
  generalize intW ac = A at *
  generalize nameB _ = N at *
  generalize sideW sd = D at *
  generalize decW n = Y at *
  generalize decW ep = Z at *
  have HE := Lib.hid hE
  have hX := BX.new w 26 #[.int .i64 8, .int .i64 who, .int .i64 kc, .int .i64 kf, .int .u64 (ks : Int), .int .i64 sd, .int .i64 ac, .int .u64 (ep : Int), .int .u64 (n : Int)] ht
  obtain ⟨C, hC⟩ : ∃ C, C = opwords.map Value.string := ⟨_, rfl⟩
  rw [← hC] at hq
  clear hE hAt hw hkey ha hep hn ht
  go_enter Tryd.func6, Tryd.ntmps6
  go_upto_region 1 with fail
  obtain ⟨W0, hW0⟩ : ∃ X, X = w.alloc (.cells #[.int .i64 8, .int .i64 who, .int .i64 kc, .int .i64 kf, .int .u64 (ks : Int), .int .i64 sd, .int .i64 ac, .int .u64 (ep : Int), .int .u64 (n : Int)] 26) := ⟨_, rfl⟩
  rw [← hW0] at hX ⊢
  have hz0 : W0.heap.size = w.heap.size + 1 := by rw [hW0]; simp
  clear hW0
  refine wp_region_lit ?_
  refine Great.wpList_buildSliceTo rfl 38 9 11 _ rfl (w.heap.size + 1) hz0 (some 6) rfl Tryd.underlying38 C (by rw [hC]; kernel_rfl) ?_
  have hX1 : BX w 26 #[.int .i64 8, .int .i64 who, .int .i64 kc, .int .i64 kf, .int .u64 (ks : Int), .int .i64 sd, .int .i64 ac, .int .u64 (ep : Int), .int .u64 (n : Int)] (W0.alloc (.cells C 9)) := hX.call ((Below.refl _ _).alloc (Nat.le_refl _) _)
  have hc : (W0.alloc (.cells C 9)).cell? ⟨w.heap.size + 1, 8, none⟩ = some (.string P) := (cell_of_row _ _ 8 _ _ (0, 0) (by have := heap_alloc_new W0 (.cells C 9); rw [hz0] at this; exact this)).trans hq
  clear hq
  obtain ⟨W1, hW1⟩ : ∃ X, X = W0.alloc (.cells C 9) := ⟨_, rfl⟩
  rw [← hW1] at hX1 hc ⊢
  clear hW1 hX hC hz0
  obtain ⟨x0, x1, x2, x3, x4, x5, x6, x7, x8⟩ : _ ∧ _ ∧ _ ∧ _ ∧ _ ∧ _ ∧ _ ∧ _ ∧ _ := ⟨cell_of_row W1 _ 0 _ _ (0, 0) hX1.2, cell_of_row W1 _ 1 _ _ (0, 0) hX1.2, cell_of_row W1 _ 2 _ _ (0, 0) hX1.2, cell_of_row W1 _ 3 _ _ (0, 0) hX1.2, cell_of_row W1 _ 4 _ _ (0, 0) hX1.2, cell_of_row W1 _ 5 _ _ (0, 0) hX1.2, cell_of_row W1 _ 6 _ _ (0, 0) hX1.2, cell_of_row W1 _ 7 _ _ (0, 0) hX1.2, cell_of_row W1 _ 8 _ _ (0, 0) hX1.2⟩
  have HX1 := Lib.hid hX1
  clear hX1
  simp only [Act.put, List.setIfInBounds_toArray, List.set_cons_zero, List.set_cons_succ]
  have q1 := add_eq P ⟨#[32, 98, 121, 32]⟩ (by show P.size + 4 ≤ _; omega)
  have s1 : (P ++ ⟨#[32, 98, 121, 32]⟩).size = P.size + 4 := ByteArray.size_append
  generalize P ++ ⟨#[32, 98, 121, 32]⟩ = X1 at q1 s1 HE
  have q2 := add_eq X1 I (by omega)
  have s2 : (X1 ++ I).size = X1.size + I.size := ByteArray.size_append
  generalize X1 ++ I = X2 at q2 s2 HE
  have q3 := add_eq X2 ⟨#[32]⟩ (by show X2.size + 1 ≤ _; omega)
  have s3 : (X2 ++ ⟨#[32]⟩).size = X2.size + 1 := ByteArray.size_append
  generalize X2 ++ ⟨#[32]⟩ = X3 at q3 s3 HE
  go_wp2_with fail
  refine (HW.out _).mono ?_
  rintro _ w2 ⟨rfl, b1⟩
  have HX2 := Lib.hid (HX1.out.call b1)
  clear b1 HX1 x0 x1 x2 x3 x4 x5 x6 x7 x8
  obtain ⟨x0, x1, x2, x3, x4, x5, x6, x7, x8⟩ : _ ∧ _ ∧ _ ∧ _ ∧ _ ∧ _ ∧ _ ∧ _ ∧ _ := ⟨cell_of_row w2 _ 0 _ _ (0, 0) HX2.out.2, cell_of_row w2 _ 1 _ _ (0, 0) HX2.out.2, cell_of_row w2 _ 2 _ _ (0, 0) HX2.out.2, cell_of_row w2 _ 3 _ _ (0, 0) HX2.out.2, cell_of_row w2 _ 4 _ _ (0, 0) HX2.out.2, cell_of_row w2 _ 5 _ _ (0, 0) HX2.out.2, cell_of_row w2 _ 6 _ _ (0, 0) HX2.out.2, cell_of_row w2 _ 7 _ _ (0, 0) HX2.out.2, cell_of_row w2 _ 8 _ _ (0, 0) HX2.out.2⟩
  have q4 := add_eq X3 D (by omega)
  have s4 : (X3 ++ D).size = X3.size + D.size := ByteArray.size_append
  generalize X3 ++ D = X4 at q4 s4 HE
  have q5 := add_eq X4 ⟨#[32]⟩ (by show X4.size + 1 ≤ _; omega)
  have s5 : (X4 ++ ⟨#[32]⟩).size = X4.size + 1 := ByteArray.size_append
  generalize X4 ++ ⟨#[32]⟩ = X5 at q5 s5 HE
  have q6 := add_eq X5 A (by omega)
  have s6 : (X5 ++ A).size = X5.size + A.size := ByteArray.size_append
  generalize X5 ++ A = X6 at q6 s6 HE
  go_upto_region 8 with fail
  have h8 := HX2.out.drew
  clear x0 x1 x2 x3 x4 x5 x6 x7 x8
  refine wp_region_held_drew (S := (fun W => BX w 26 #[.int .i64 8, .int .i64 who, .int .i64 kc, .int .i64 kf, .int .u64 (ks : Int), .int .i64 sd, .int .i64 ac, .int .u64 (ep : Int), .int .u64 (n : Int)] W)) (by kernel_rfl) h8 (fun hHeld => ?_)
  refine wpAnyH_take (i := 0) (oi := _) (v := ?_) rfl (by kernel_rfl) (by kernel_rfl) (by kernel_rfl) (fun _ _ _ h => h) (Or.inl ⟨by rfl, ?_⟩) (by assumption) ?_
  rotate_left
  · (intro W hSw; clear hSw; go_simp; try with_reducible rfl)
  try simp only [Act.put, List.getElem_toArray, List.getElem_cons_zero, List.setIfInBounds_toArray, List.set_cons_zero, List.set_cons_succ]
  refine wpAnyH_take (i := 1) (oi := _) (v := ?_) rfl (by kernel_rfl) (by kernel_rfl) (by kernel_rfl) (fun _ _ _ h => h) (Or.inl ⟨by rfl, ?_⟩) (by assumption) ?_
  rotate_left
  · (intro W hSw; clear hSw; go_simp; try with_reducible rfl)
  try simp only [Act.put, List.getElem_toArray, List.getElem_cons_succ, List.getElem_cons_zero, List.setIfInBounds_toArray, List.set_cons_zero, List.set_cons_succ]
  refine wpAnyH_take (i := 2) (oi := _) (v := ?_) rfl (by kernel_rfl) (by kernel_rfl) (by kernel_rfl) (fun _ _ _ h => h) (Or.inl ⟨by rfl, ?_⟩) (by assumption) ?_
  rotate_left
  · (intro W hSw; (obtain ⟨y0, y1, y2, y3, y4, y5, y6, y7, y8⟩ : _ ∧ _ ∧ _ ∧ _ ∧ _ ∧ _ ∧ _ ∧ _ ∧ _ := ⟨cell_of_row W _ 0 _ _ (0, 0) hSw.2, cell_of_row W _ 1 _ _ (0, 0) hSw.2, cell_of_row W _ 2 _ _ (0, 0) hSw.2, cell_of_row W _ 3 _ _ (0, 0) hSw.2, cell_of_row W _ 4 _ _ (0, 0) hSw.2, cell_of_row W _ 5 _ _ (0, 0) hSw.2, cell_of_row W _ 6 _ _ (0, 0) hSw.2, cell_of_row W _ 7 _ _ (0, 0) hSw.2, cell_of_row W _ 8 _ _ (0, 0) hSw.2⟩; clear hSw; go_simp; try with_reducible rfl))
  try simp only [Act.put, List.getElem_toArray, List.getElem_cons_succ, List.getElem_cons_zero, List.setIfInBounds_toArray, List.set_cons_zero, List.set_cons_succ]
  refine wpAnyH_take (i := 6) (oi := _) (v := ?_) rfl (by kernel_rfl) (by kernel_rfl) (by kernel_rfl) (fun _ _ _ h => h) (Or.inl ⟨by rfl, ?_⟩) (by assumption) ?_
  rotate_left
  · (intro W hSw; clear hSw; go_simp; try with_reducible rfl)
  try simp only [Act.put, List.getElem_toArray, List.getElem_cons_succ, List.getElem_cons_zero, List.setIfInBounds_toArray, List.set_cons_zero, List.set_cons_succ]
  refine wpAnyH_take (i := 7) (oi := _) (v := ?_) rfl (by kernel_rfl) (by kernel_rfl) (by kernel_rfl) (fun _ _ _ h => h) (Or.inl ⟨by rfl, ?_⟩) (by assumption) ?_
  rotate_left
  · (intro W hSw; (obtain ⟨y0, y1, y2, y3, y4, y5, y6, y7, y8⟩ : _ ∧ _ ∧ _ ∧ _ ∧ _ ∧ _ ∧ _ ∧ _ ∧ _ := ⟨cell_of_row W _ 0 _ _ (0, 0) hSw.2, cell_of_row W _ 1 _ _ (0, 0) hSw.2, cell_of_row W _ 2 _ _ (0, 0) hSw.2, cell_of_row W _ 3 _ _ (0, 0) hSw.2, cell_of_row W _ 4 _ _ (0, 0) hSw.2, cell_of_row W _ 5 _ _ (0, 0) hSw.2, cell_of_row W _ 6 _ _ (0, 0) hSw.2, cell_of_row W _ 7 _ _ (0, 0) hSw.2, cell_of_row W _ 8 _ _ (0, 0) hSw.2⟩; clear hSw; go_simp; try with_reducible rfl))
  try simp only [Act.put, List.getElem_toArray, List.getElem_cons_succ, List.getElem_cons_zero, List.setIfInBounds_toArray, List.set_cons_zero, List.set_cons_succ]
  refine wpAnyH_ready (rs := [3]) (by kernel_rfl) (by simp) ?_
  refine AllReadyH.cons rfl (fun K hK => ?_) AllReadyH.nil
  simp only [List.getElem_toArray, List.getElem_cons_succ, List.getElem_cons_zero]
  rw [if_pos (by rfl)]
  go_simp
  (go_at_call 19; refine (HD.out _).mono ?_; rintro _ v1 ⟨rfl, b1⟩; have g1 := hHeld.call b1)
  go_wp2_with fail
  refine hK.out _ _ g1 (fun hHeld => ?_)
  clear hK K
  try simp only [Act.put, List.getElem_toArray, List.getElem_cons_succ, List.getElem_cons_zero, List.setIfInBounds_toArray, List.set_cons_zero, List.set_cons_succ]
  refine wpAnyH_take (i := 4) (oi := _) (v := ?_) rfl (by kernel_rfl) (by kernel_rfl) (by kernel_rfl) (fun _ _ _ h => h) (Or.inl ⟨by rfl, ?_⟩) (by assumption) ?_
  rotate_left
  · (intro W hSw; clear hSw; go_simp; try with_reducible rfl)
  try simp only [Act.put, List.getElem_toArray, List.getElem_cons_succ, List.getElem_cons_zero, List.setIfInBounds_toArray, List.set_cons_zero, List.set_cons_succ]
  refine wpAnyH_take (i := 5) (oi := _) (v := ?_) rfl (by kernel_rfl) (by kernel_rfl) (by kernel_rfl) (fun _ _ _ h => h) (Or.inl ⟨by rfl, ?_⟩) (by assumption) ?_
  rotate_left
  · (intro W hSw; clear hSw; go_simp; try with_reducible rfl)
  try simp only [Act.put, List.getElem_toArray, List.getElem_cons_succ, List.getElem_cons_zero, List.setIfInBounds_toArray, List.set_cons_zero, List.set_cons_succ]
  refine wpAnyH_ready (rs := [8]) (by kernel_rfl) (by simp) ?_
  refine AllReadyH.cons rfl (fun K hK => ?_) AllReadyH.nil
  simp only [List.getElem_toArray, List.getElem_cons_succ, List.getElem_cons_zero]
  rw [if_pos (by rfl)]
  go_simp
  (go_at_call 17; refine (HA.out _).mono ?_; rintro _ v2 ⟨rfl, b2⟩; have g2 := g1.call b2)
  go_wp2_with fail
  refine hK.out _ _ g2 (fun hHeld => ?_)
  clear hK K
  try simp only [Act.put, List.getElem_toArray, List.getElem_cons_succ, List.getElem_cons_zero, List.setIfInBounds_toArray, List.set_cons_zero, List.set_cons_succ]
  refine wpAnyH_take (i := 9) (oi := _) (v := ?_) rfl (by kernel_rfl) (by kernel_rfl) (by kernel_rfl) (fun _ _ _ h => h) (Or.inl ⟨by rfl, ?_⟩) (by assumption) ?_
  rotate_left
  · (intro W hSw; clear hSw; go_simp; try with_reducible rfl)
  try simp only [Act.put, List.getElem_toArray, List.getElem_cons_succ, List.getElem_cons_zero, List.setIfInBounds_toArray, List.set_cons_zero, List.set_cons_succ]
  refine wpAnyH_take (i := 10) (oi := _) (v := ?_) rfl (by kernel_rfl) (by kernel_rfl) (by kernel_rfl) (fun _ _ _ h => h) (Or.inl ⟨by rfl, ?_⟩) (by assumption) ?_
  rotate_left
  · (intro W hSw; clear hSw; go_simp; try with_reducible rfl)
  try simp only [Act.put, List.getElem_toArray, List.getElem_cons_succ, List.getElem_cons_zero, List.setIfInBounds_toArray, List.set_cons_zero, List.set_cons_succ]
  refine wpAnyH_done (by kernel_rfl) ?_ _
  have HX3 := Lib.hid g2
  clear h8 g1 g2 b1 b2 HX2
  obtain ⟨x0, x1, x2, x3, x4, x5, x6, x7, x8⟩ : _ ∧ _ ∧ _ ∧ _ ∧ _ ∧ _ ∧ _ ∧ _ ∧ _ := ⟨cell_of_row v2 _ 0 _ _ (0, 0) HX3.out.2, cell_of_row v2 _ 1 _ _ (0, 0) HX3.out.2, cell_of_row v2 _ 2 _ _ (0, 0) HX3.out.2, cell_of_row v2 _ 3 _ _ (0, 0) HX3.out.2, cell_of_row v2 _ 4 _ _ (0, 0) HX3.out.2, cell_of_row v2 _ 5 _ _ (0, 0) HX3.out.2, cell_of_row v2 _ 6 _ _ (0, 0) HX3.out.2, cell_of_row v2 _ 7 _ _ (0, 0) HX3.out.2, cell_of_row v2 _ 8 _ _ (0, 0) HX3.out.2⟩
  have q7 := add_eq X6 ⟨#[32]⟩ (by show X6.size + 1 ≤ _; omega)
  have s7 : (X6 ++ ⟨#[32]⟩).size = X6.size + 1 := ByteArray.size_append
  generalize X6 ++ ⟨#[32]⟩ = X7 at q7 s7 HE
  have q8 := add_eq X7 Y (by omega)
  have s8 : (X7 ++ Y).size = X7.size + Y.size := ByteArray.size_append
  generalize X7 ++ Y = X8 at q8 s8 HE
  go_wp2_with fail
  refine (HY.out _).mono ?_
  rintro _ w4 ⟨rfl, b1⟩
  have HX4 := Lib.hid (HX3.out.call b1)
  clear b1 HX3 x0 x1 x2 x3 x4 x5 x6 x7 x8
  obtain ⟨x0, x1, x2, x3, x4, x5, x6, x7, x8⟩ : _ ∧ _ ∧ _ ∧ _ ∧ _ ∧ _ ∧ _ ∧ _ ∧ _ := ⟨cell_of_row w4 _ 0 _ _ (0, 0) HX4.out.2, cell_of_row w4 _ 1 _ _ (0, 0) HX4.out.2, cell_of_row w4 _ 2 _ _ (0, 0) HX4.out.2, cell_of_row w4 _ 3 _ _ (0, 0) HX4.out.2, cell_of_row w4 _ 4 _ _ (0, 0) HX4.out.2, cell_of_row w4 _ 5 _ _ (0, 0) HX4.out.2, cell_of_row w4 _ 6 _ _ (0, 0) HX4.out.2, cell_of_row w4 _ 7 _ _ (0, 0) HX4.out.2, cell_of_row w4 _ 8 _ _ (0, 0) HX4.out.2⟩
  have q9 := add_eq X8 ⟨#[32, 105, 110, 32]⟩ (by show X8.size + 4 ≤ _; omega)
  have s9 : (X8 ++ ⟨#[32, 105, 110, 32]⟩).size = X8.size + 4 := ByteArray.size_append
  generalize X8 ++ ⟨#[32, 105, 110, 32]⟩ = X9 at q9 s9 HE
  have q10 := add_eq X9 Z (by omega)
  go_wp2_with fail
  refine (HZ.out _).mono ?_
  rintro _ w5 ⟨rfl, b1⟩
  have HX5 := Lib.hid (HX4.out.call b1)
  clear b1 HX4 x0 x1 x2 x3 x4 x5 x6 x7 x8
  go_wp2
  go_ret
  exact ⟨by rw [HE.out]; rfl, HX5.out.1.1⟩

set_option maxRecDepth 100000 in
set_option maxHeartbeats 2000000 in
theorem rop_9 (k who kc kf : Int) (ks : Nat) (sd ac : Int) (ep n : Nat) (ho : (O9.mk k who ⟨kc, kf, ks⟩ sd ac ep n).ok) (hk : k = 9) (w : World) (ht : Tab w) :
    Calls Tryd.prog 6 #[.agg #[.int .i64 k, .int .i64 who, .int .i64 kc, .int .i64 kf, .int .u64 (ks : Int), .int .i64 sd, .int .i64 ac, .int .u64 (ep : Int), .int .u64 (n : Int)]] w fun e w' => e = .returned (.string (opB ⟨k, who, ⟨kc, kf, ks⟩, sd, ac, ep, n⟩)) ∧ Below w.heap.size w w' := by
  obtain ⟨hw, hkey, ha, hep, hn⟩ := ho
  dsimp only at hw hkey ha hep hn
  subst hk
  obtain ⟨E, hE⟩ : ∃ E, E = opB ⟨9, who, ⟨kc, kf, ks⟩, sd, ac, ep, n⟩ := ⟨_, rfl⟩
  rw [← hE]
  unfold opB nB acB headB at hE
  dsimp only at hE
  rw [if_neg (by omega), if_neg (by omega), if_neg (by omega)] at hE
  have hp := opW_size 9
  have hi := intW_size who hw.1 hw.2
  have hn4 := nameB_size ⟨kc, kf, ks⟩ hkey
  have hd := sideW_size sd
  have hac := intW_size ac ha.1 ha.2
  have hy := decW_size n hn
  have hz := decW_size ep hep
  have HW := Lib.hid (fun W => rwhole_any who hw.1 hw.2 W)
  have HA := Lib.hid (fun W => rwhole_any ac ha.1 ha.2 W)
  have HN := Lib.hid (fun W h => rname_any ⟨kc, kf, ks⟩ hkey W h)
  have HY := Lib.hid (fun W => rdigits_any n hn W)
  have HZ := Lib.hid (fun W => rdigits_any ep hep W)
  have HD := Lib.hid (fun W => letter_any sd W)
  have hAt := opwords_at
  have hq := hAt 9 (by decide) (by decide)
  rw [show ((9 : Nat) : Int) = 9 from rfl] at hq
  generalize opW 9 = P at *
  rw [show (⟨(Lib.itoa who).toArray⟩ : ByteArray) = intW who from rfl] at HW
  rw [show (⟨(Lib.itoa ac).toArray⟩ : ByteArray) = intW ac from rfl] at HA
  rw [show (⟨(Lib.decDigits n).toArray⟩ : ByteArray) = decW n from rfl] at HY
  rw [show (⟨(Lib.decDigits ep).toArray⟩ : ByteArray) = decW ep from rfl] at HZ
  unfold K3.cells at HN
  dsimp only at HN
  generalize intW who = I at *
  generalize intW ac = A at *
  generalize nameB _ = N at *
  generalize sideW sd = D at *
  generalize decW n = Y at *
  generalize decW ep = Z at *
  have HE := Lib.hid hE
  have hX := BX.new w 26 #[.int .i64 9, .int .i64 who, .int .i64 kc, .int .i64 kf, .int .u64 (ks : Int), .int .i64 sd, .int .i64 ac, .int .u64 (ep : Int), .int .u64 (n : Int)] ht
  obtain ⟨C, hC⟩ : ∃ C, C = opwords.map Value.string := ⟨_, rfl⟩
  rw [← hC] at hq
  clear hE hAt hw hkey ha hep hn ht
  go_enter Tryd.func6, Tryd.ntmps6
  go_upto_region 1 with fail
  obtain ⟨W0, hW0⟩ : ∃ X, X = w.alloc (.cells #[.int .i64 9, .int .i64 who, .int .i64 kc, .int .i64 kf, .int .u64 (ks : Int), .int .i64 sd, .int .i64 ac, .int .u64 (ep : Int), .int .u64 (n : Int)] 26) := ⟨_, rfl⟩
  rw [← hW0] at hX ⊢
  have hz0 : W0.heap.size = w.heap.size + 1 := by rw [hW0]; simp
  clear hW0
  refine wp_region_lit ?_
  refine Great.wpList_buildSliceTo rfl 38 9 11 _ rfl (w.heap.size + 1) hz0 (some 6) rfl Tryd.underlying38 C (by rw [hC]; kernel_rfl) ?_
  have hX1 : BX w 26 #[.int .i64 9, .int .i64 who, .int .i64 kc, .int .i64 kf, .int .u64 (ks : Int), .int .i64 sd, .int .i64 ac, .int .u64 (ep : Int), .int .u64 (n : Int)] (W0.alloc (.cells C 9)) := hX.call ((Below.refl _ _).alloc (Nat.le_refl _) _)
  have hc : (W0.alloc (.cells C 9)).cell? ⟨w.heap.size + 1, 9, none⟩ = some (.string P) := (cell_of_row _ _ 9 _ _ (0, 0) (by have := heap_alloc_new W0 (.cells C 9); rw [hz0] at this; exact this)).trans hq
  clear hq
  obtain ⟨W1, hW1⟩ : ∃ X, X = W0.alloc (.cells C 9) := ⟨_, rfl⟩
  rw [← hW1] at hX1 hc ⊢
  clear hW1 hX hC hz0
  obtain ⟨x0, x1, x2, x3, x4, x5, x6, x7, x8⟩ : _ ∧ _ ∧ _ ∧ _ ∧ _ ∧ _ ∧ _ ∧ _ ∧ _ := ⟨cell_of_row W1 _ 0 _ _ (0, 0) hX1.2, cell_of_row W1 _ 1 _ _ (0, 0) hX1.2, cell_of_row W1 _ 2 _ _ (0, 0) hX1.2, cell_of_row W1 _ 3 _ _ (0, 0) hX1.2, cell_of_row W1 _ 4 _ _ (0, 0) hX1.2, cell_of_row W1 _ 5 _ _ (0, 0) hX1.2, cell_of_row W1 _ 6 _ _ (0, 0) hX1.2, cell_of_row W1 _ 7 _ _ (0, 0) hX1.2, cell_of_row W1 _ 8 _ _ (0, 0) hX1.2⟩
  have HX1 := Lib.hid hX1
  clear hX1
  simp only [Act.put, List.setIfInBounds_toArray, List.set_cons_zero, List.set_cons_succ]
  have q1 := add_eq P ⟨#[32, 98, 121, 32]⟩ (by show P.size + 4 ≤ _; omega)
  have s1 : (P ++ ⟨#[32, 98, 121, 32]⟩).size = P.size + 4 := ByteArray.size_append
  generalize P ++ ⟨#[32, 98, 121, 32]⟩ = X1 at q1 s1 HE
  have q2 := add_eq X1 I (by omega)
  have s2 : (X1 ++ I).size = X1.size + I.size := ByteArray.size_append
  generalize X1 ++ I = X2 at q2 s2 HE
  have q3 := add_eq X2 ⟨#[32]⟩ (by show X2.size + 1 ≤ _; omega)
  have s3 : (X2 ++ ⟨#[32]⟩).size = X2.size + 1 := ByteArray.size_append
  generalize X2 ++ ⟨#[32]⟩ = X3 at q3 s3 HE
  go_wp2_with fail
  refine (HW.out _).mono ?_
  rintro _ w2 ⟨rfl, b1⟩
  have HX2 := Lib.hid (HX1.out.call b1)
  clear b1 HX1 x0 x1 x2 x3 x4 x5 x6 x7 x8
  obtain ⟨x0, x1, x2, x3, x4, x5, x6, x7, x8⟩ : _ ∧ _ ∧ _ ∧ _ ∧ _ ∧ _ ∧ _ ∧ _ ∧ _ := ⟨cell_of_row w2 _ 0 _ _ (0, 0) HX2.out.2, cell_of_row w2 _ 1 _ _ (0, 0) HX2.out.2, cell_of_row w2 _ 2 _ _ (0, 0) HX2.out.2, cell_of_row w2 _ 3 _ _ (0, 0) HX2.out.2, cell_of_row w2 _ 4 _ _ (0, 0) HX2.out.2, cell_of_row w2 _ 5 _ _ (0, 0) HX2.out.2, cell_of_row w2 _ 6 _ _ (0, 0) HX2.out.2, cell_of_row w2 _ 7 _ _ (0, 0) HX2.out.2, cell_of_row w2 _ 8 _ _ (0, 0) HX2.out.2⟩
  have q4 := add_eq X3 D (by omega)
  have s4 : (X3 ++ D).size = X3.size + D.size := ByteArray.size_append
  generalize X3 ++ D = X4 at q4 s4 HE
  have q5 := add_eq X4 ⟨#[32]⟩ (by show X4.size + 1 ≤ _; omega)
  have s5 : (X4 ++ ⟨#[32]⟩).size = X4.size + 1 := ByteArray.size_append
  generalize X4 ++ ⟨#[32]⟩ = X5 at q5 s5 HE
  have q6 := add_eq X5 A (by omega)
  have s6 : (X5 ++ A).size = X5.size + A.size := ByteArray.size_append
  generalize X5 ++ A = X6 at q6 s6 HE
  go_upto_region 8 with fail
  have h8 := HX2.out.drew
  clear x0 x1 x2 x3 x4 x5 x6 x7 x8
  refine wp_region_held_drew (S := (fun W => BX w 26 #[.int .i64 9, .int .i64 who, .int .i64 kc, .int .i64 kf, .int .u64 (ks : Int), .int .i64 sd, .int .i64 ac, .int .u64 (ep : Int), .int .u64 (n : Int)] W)) (by kernel_rfl) h8 (fun hHeld => ?_)
  refine wpAnyH_take (i := 0) (oi := _) (v := ?_) rfl (by kernel_rfl) (by kernel_rfl) (by kernel_rfl) (fun _ _ _ h => h) (Or.inl ⟨by rfl, ?_⟩) (by assumption) ?_
  rotate_left
  · (intro W hSw; clear hSw; go_simp; try with_reducible rfl)
  try simp only [Act.put, List.getElem_toArray, List.getElem_cons_zero, List.setIfInBounds_toArray, List.set_cons_zero, List.set_cons_succ]
  refine wpAnyH_take (i := 1) (oi := _) (v := ?_) rfl (by kernel_rfl) (by kernel_rfl) (by kernel_rfl) (fun _ _ _ h => h) (Or.inl ⟨by rfl, ?_⟩) (by assumption) ?_
  rotate_left
  · (intro W hSw; clear hSw; go_simp; try with_reducible rfl)
  try simp only [Act.put, List.getElem_toArray, List.getElem_cons_succ, List.getElem_cons_zero, List.setIfInBounds_toArray, List.set_cons_zero, List.set_cons_succ]
  refine wpAnyH_take (i := 2) (oi := _) (v := ?_) rfl (by kernel_rfl) (by kernel_rfl) (by kernel_rfl) (fun _ _ _ h => h) (Or.inl ⟨by rfl, ?_⟩) (by assumption) ?_
  rotate_left
  · (intro W hSw; (obtain ⟨y0, y1, y2, y3, y4, y5, y6, y7, y8⟩ : _ ∧ _ ∧ _ ∧ _ ∧ _ ∧ _ ∧ _ ∧ _ ∧ _ := ⟨cell_of_row W _ 0 _ _ (0, 0) hSw.2, cell_of_row W _ 1 _ _ (0, 0) hSw.2, cell_of_row W _ 2 _ _ (0, 0) hSw.2, cell_of_row W _ 3 _ _ (0, 0) hSw.2, cell_of_row W _ 4 _ _ (0, 0) hSw.2, cell_of_row W _ 5 _ _ (0, 0) hSw.2, cell_of_row W _ 6 _ _ (0, 0) hSw.2, cell_of_row W _ 7 _ _ (0, 0) hSw.2, cell_of_row W _ 8 _ _ (0, 0) hSw.2⟩; clear hSw; go_simp; try with_reducible rfl))
  try simp only [Act.put, List.getElem_toArray, List.getElem_cons_succ, List.getElem_cons_zero, List.setIfInBounds_toArray, List.set_cons_zero, List.set_cons_succ]
  refine wpAnyH_take (i := 6) (oi := _) (v := ?_) rfl (by kernel_rfl) (by kernel_rfl) (by kernel_rfl) (fun _ _ _ h => h) (Or.inl ⟨by rfl, ?_⟩) (by assumption) ?_
  rotate_left
  · (intro W hSw; clear hSw; go_simp; try with_reducible rfl)
  try simp only [Act.put, List.getElem_toArray, List.getElem_cons_succ, List.getElem_cons_zero, List.setIfInBounds_toArray, List.set_cons_zero, List.set_cons_succ]
  refine wpAnyH_take (i := 7) (oi := _) (v := ?_) rfl (by kernel_rfl) (by kernel_rfl) (by kernel_rfl) (fun _ _ _ h => h) (Or.inl ⟨by rfl, ?_⟩) (by assumption) ?_
  rotate_left
  · (intro W hSw; (obtain ⟨y0, y1, y2, y3, y4, y5, y6, y7, y8⟩ : _ ∧ _ ∧ _ ∧ _ ∧ _ ∧ _ ∧ _ ∧ _ ∧ _ := ⟨cell_of_row W _ 0 _ _ (0, 0) hSw.2, cell_of_row W _ 1 _ _ (0, 0) hSw.2, cell_of_row W _ 2 _ _ (0, 0) hSw.2, cell_of_row W _ 3 _ _ (0, 0) hSw.2, cell_of_row W _ 4 _ _ (0, 0) hSw.2, cell_of_row W _ 5 _ _ (0, 0) hSw.2, cell_of_row W _ 6 _ _ (0, 0) hSw.2, cell_of_row W _ 7 _ _ (0, 0) hSw.2, cell_of_row W _ 8 _ _ (0, 0) hSw.2⟩; clear hSw; go_simp; try with_reducible rfl))
  try simp only [Act.put, List.getElem_toArray, List.getElem_cons_succ, List.getElem_cons_zero, List.setIfInBounds_toArray, List.set_cons_zero, List.set_cons_succ]
  refine wpAnyH_ready (rs := [3]) (by kernel_rfl) (by simp) ?_
  refine AllReadyH.cons rfl (fun K hK => ?_) AllReadyH.nil
  simp only [List.getElem_toArray, List.getElem_cons_succ, List.getElem_cons_zero]
  rw [if_pos (by rfl)]
  go_simp
  (go_at_call 19; refine (HD.out _).mono ?_; rintro _ v1 ⟨rfl, b1⟩; have g1 := hHeld.call b1)
  go_wp2_with fail
  refine hK.out _ _ g1 (fun hHeld => ?_)
  clear hK K
  try simp only [Act.put, List.getElem_toArray, List.getElem_cons_succ, List.getElem_cons_zero, List.setIfInBounds_toArray, List.set_cons_zero, List.set_cons_succ]
  refine wpAnyH_take (i := 4) (oi := _) (v := ?_) rfl (by kernel_rfl) (by kernel_rfl) (by kernel_rfl) (fun _ _ _ h => h) (Or.inl ⟨by rfl, ?_⟩) (by assumption) ?_
  rotate_left
  · (intro W hSw; clear hSw; go_simp; try with_reducible rfl)
  try simp only [Act.put, List.getElem_toArray, List.getElem_cons_succ, List.getElem_cons_zero, List.setIfInBounds_toArray, List.set_cons_zero, List.set_cons_succ]
  refine wpAnyH_take (i := 5) (oi := _) (v := ?_) rfl (by kernel_rfl) (by kernel_rfl) (by kernel_rfl) (fun _ _ _ h => h) (Or.inl ⟨by rfl, ?_⟩) (by assumption) ?_
  rotate_left
  · (intro W hSw; clear hSw; go_simp; try with_reducible rfl)
  try simp only [Act.put, List.getElem_toArray, List.getElem_cons_succ, List.getElem_cons_zero, List.setIfInBounds_toArray, List.set_cons_zero, List.set_cons_succ]
  refine wpAnyH_ready (rs := [8]) (by kernel_rfl) (by simp) ?_
  refine AllReadyH.cons rfl (fun K hK => ?_) AllReadyH.nil
  simp only [List.getElem_toArray, List.getElem_cons_succ, List.getElem_cons_zero]
  rw [if_pos (by rfl)]
  go_simp
  (go_at_call 17; refine (HA.out _).mono ?_; rintro _ v2 ⟨rfl, b2⟩; have g2 := g1.call b2)
  go_wp2_with fail
  refine hK.out _ _ g2 (fun hHeld => ?_)
  clear hK K
  try simp only [Act.put, List.getElem_toArray, List.getElem_cons_succ, List.getElem_cons_zero, List.setIfInBounds_toArray, List.set_cons_zero, List.set_cons_succ]
  refine wpAnyH_take (i := 9) (oi := _) (v := ?_) rfl (by kernel_rfl) (by kernel_rfl) (by kernel_rfl) (fun _ _ _ h => h) (Or.inl ⟨by rfl, ?_⟩) (by assumption) ?_
  rotate_left
  · (intro W hSw; clear hSw; go_simp; try with_reducible rfl)
  try simp only [Act.put, List.getElem_toArray, List.getElem_cons_succ, List.getElem_cons_zero, List.setIfInBounds_toArray, List.set_cons_zero, List.set_cons_succ]
  refine wpAnyH_take (i := 10) (oi := _) (v := ?_) rfl (by kernel_rfl) (by kernel_rfl) (by kernel_rfl) (fun _ _ _ h => h) (Or.inl ⟨by rfl, ?_⟩) (by assumption) ?_
  rotate_left
  · (intro W hSw; clear hSw; go_simp; try with_reducible rfl)
  try simp only [Act.put, List.getElem_toArray, List.getElem_cons_succ, List.getElem_cons_zero, List.setIfInBounds_toArray, List.set_cons_zero, List.set_cons_succ]
  refine wpAnyH_done (by kernel_rfl) ?_ _
  have HX3 := Lib.hid g2
  clear h8 g1 g2 b1 b2 HX2
  obtain ⟨x0, x1, x2, x3, x4, x5, x6, x7, x8⟩ : _ ∧ _ ∧ _ ∧ _ ∧ _ ∧ _ ∧ _ ∧ _ ∧ _ := ⟨cell_of_row v2 _ 0 _ _ (0, 0) HX3.out.2, cell_of_row v2 _ 1 _ _ (0, 0) HX3.out.2, cell_of_row v2 _ 2 _ _ (0, 0) HX3.out.2, cell_of_row v2 _ 3 _ _ (0, 0) HX3.out.2, cell_of_row v2 _ 4 _ _ (0, 0) HX3.out.2, cell_of_row v2 _ 5 _ _ (0, 0) HX3.out.2, cell_of_row v2 _ 6 _ _ (0, 0) HX3.out.2, cell_of_row v2 _ 7 _ _ (0, 0) HX3.out.2, cell_of_row v2 _ 8 _ _ (0, 0) HX3.out.2⟩
  have q7 := add_eq X6 ⟨#[32]⟩ (by show X6.size + 1 ≤ _; omega)
  have s7 : (X6 ++ ⟨#[32]⟩).size = X6.size + 1 := ByteArray.size_append
  generalize X6 ++ ⟨#[32]⟩ = X7 at q7 s7 HE
  have q8 := add_eq X7 Y (by omega)
  have s8 : (X7 ++ Y).size = X7.size + Y.size := ByteArray.size_append
  generalize X7 ++ Y = X8 at q8 s8 HE
  go_wp2_with fail
  refine (HY.out _).mono ?_
  rintro _ w4 ⟨rfl, b1⟩
  have HX4 := Lib.hid (HX3.out.call b1)
  clear b1 HX3 x0 x1 x2 x3 x4 x5 x6 x7 x8
  obtain ⟨x0, x1, x2, x3, x4, x5, x6, x7, x8⟩ : _ ∧ _ ∧ _ ∧ _ ∧ _ ∧ _ ∧ _ ∧ _ ∧ _ := ⟨cell_of_row w4 _ 0 _ _ (0, 0) HX4.out.2, cell_of_row w4 _ 1 _ _ (0, 0) HX4.out.2, cell_of_row w4 _ 2 _ _ (0, 0) HX4.out.2, cell_of_row w4 _ 3 _ _ (0, 0) HX4.out.2, cell_of_row w4 _ 4 _ _ (0, 0) HX4.out.2, cell_of_row w4 _ 5 _ _ (0, 0) HX4.out.2, cell_of_row w4 _ 6 _ _ (0, 0) HX4.out.2, cell_of_row w4 _ 7 _ _ (0, 0) HX4.out.2, cell_of_row w4 _ 8 _ _ (0, 0) HX4.out.2⟩
  go_wp2
  go_ret
  exact ⟨by rw [HE.out]; rfl, HX4.out.1.1⟩

set_option maxRecDepth 100000 in
set_option maxHeartbeats 2000000 in
theorem rop_10 (k who kc kf : Int) (ks : Nat) (sd ac : Int) (ep n : Nat) (ho : (O9.mk k who ⟨kc, kf, ks⟩ sd ac ep n).ok) (hk : k = 10) (w : World) (ht : Tab w) :
    Calls Tryd.prog 6 #[.agg #[.int .i64 k, .int .i64 who, .int .i64 kc, .int .i64 kf, .int .u64 (ks : Int), .int .i64 sd, .int .i64 ac, .int .u64 (ep : Int), .int .u64 (n : Int)]] w fun e w' => e = .returned (.string (opB ⟨k, who, ⟨kc, kf, ks⟩, sd, ac, ep, n⟩)) ∧ Below w.heap.size w w' := by
  obtain ⟨hw, hkey, ha, hep, hn⟩ := ho
  dsimp only at hw hkey ha hep hn
  subst hk
  obtain ⟨E, hE⟩ : ∃ E, E = opB ⟨10, who, ⟨kc, kf, ks⟩, sd, ac, ep, n⟩ := ⟨_, rfl⟩
  rw [← hE]
  unfold opB nB acB headB at hE
  dsimp only at hE
  rw [if_neg (by omega), if_pos rfl] at hE
  have hp := opW_size 10
  have hi := intW_size who hw.1 hw.2
  have hn4 := nameB_size ⟨kc, kf, ks⟩ hkey
  have hd := sideW_size sd
  have hac := intW_size ac ha.1 ha.2
  have hy := decW_size n hn
  have hz := decW_size ep hep
  have HW := Lib.hid (fun W => rwhole_any who hw.1 hw.2 W)
  have HA := Lib.hid (fun W => rwhole_any ac ha.1 ha.2 W)
  have HN := Lib.hid (fun W h => rname_any ⟨kc, kf, ks⟩ hkey W h)
  have HY := Lib.hid (fun W => rdigits_any n hn W)
  have HZ := Lib.hid (fun W => rdigits_any ep hep W)
  have HD := Lib.hid (fun W => letter_any sd W)
  have hAt := opwords_at
  have hq := hAt 10 (by decide) (by decide)
  rw [show ((10 : Nat) : Int) = 10 from rfl] at hq
  generalize opW 10 = P at *
  rw [show (⟨(Lib.itoa who).toArray⟩ : ByteArray) = intW who from rfl] at HW
  rw [show (⟨(Lib.itoa ac).toArray⟩ : ByteArray) = intW ac from rfl] at HA
  rw [show (⟨(Lib.decDigits n).toArray⟩ : ByteArray) = decW n from rfl] at HY
  rw [show (⟨(Lib.decDigits ep).toArray⟩ : ByteArray) = decW ep from rfl] at HZ
  unfold K3.cells at HN
  dsimp only at HN
  generalize intW who = I at *
  generalize intW ac = A at *
  generalize nameB _ = N at *
  generalize sideW sd = D at *
  generalize decW n = Y at *
  generalize decW ep = Z at *
  have HE := Lib.hid hE
  have hX := BX.new w 26 #[.int .i64 10, .int .i64 who, .int .i64 kc, .int .i64 kf, .int .u64 (ks : Int), .int .i64 sd, .int .i64 ac, .int .u64 (ep : Int), .int .u64 (n : Int)] ht
  obtain ⟨C, hC⟩ : ∃ C, C = opwords.map Value.string := ⟨_, rfl⟩
  rw [← hC] at hq
  clear hE hAt hw hkey ha hep hn ht
  go_enter Tryd.func6, Tryd.ntmps6
  go_upto_region 1 with fail
  obtain ⟨W0, hW0⟩ : ∃ X, X = w.alloc (.cells #[.int .i64 10, .int .i64 who, .int .i64 kc, .int .i64 kf, .int .u64 (ks : Int), .int .i64 sd, .int .i64 ac, .int .u64 (ep : Int), .int .u64 (n : Int)] 26) := ⟨_, rfl⟩
  rw [← hW0] at hX ⊢
  have hz0 : W0.heap.size = w.heap.size + 1 := by rw [hW0]; simp
  clear hW0
  refine wp_region_lit ?_
  refine Great.wpList_buildSliceTo rfl 38 9 11 _ rfl (w.heap.size + 1) hz0 (some 6) rfl Tryd.underlying38 C (by rw [hC]; kernel_rfl) ?_
  have hX1 : BX w 26 #[.int .i64 10, .int .i64 who, .int .i64 kc, .int .i64 kf, .int .u64 (ks : Int), .int .i64 sd, .int .i64 ac, .int .u64 (ep : Int), .int .u64 (n : Int)] (W0.alloc (.cells C 9)) := hX.call ((Below.refl _ _).alloc (Nat.le_refl _) _)
  have hc : (W0.alloc (.cells C 9)).cell? ⟨w.heap.size + 1, 10, none⟩ = some (.string P) := (cell_of_row _ _ 10 _ _ (0, 0) (by have := heap_alloc_new W0 (.cells C 9); rw [hz0] at this; exact this)).trans hq
  clear hq
  obtain ⟨W1, hW1⟩ : ∃ X, X = W0.alloc (.cells C 9) := ⟨_, rfl⟩
  rw [← hW1] at hX1 hc ⊢
  clear hW1 hX hC hz0
  obtain ⟨x0, x1, x2, x3, x4, x5, x6, x7, x8⟩ : _ ∧ _ ∧ _ ∧ _ ∧ _ ∧ _ ∧ _ ∧ _ ∧ _ := ⟨cell_of_row W1 _ 0 _ _ (0, 0) hX1.2, cell_of_row W1 _ 1 _ _ (0, 0) hX1.2, cell_of_row W1 _ 2 _ _ (0, 0) hX1.2, cell_of_row W1 _ 3 _ _ (0, 0) hX1.2, cell_of_row W1 _ 4 _ _ (0, 0) hX1.2, cell_of_row W1 _ 5 _ _ (0, 0) hX1.2, cell_of_row W1 _ 6 _ _ (0, 0) hX1.2, cell_of_row W1 _ 7 _ _ (0, 0) hX1.2, cell_of_row W1 _ 8 _ _ (0, 0) hX1.2⟩
  have HX1 := Lib.hid hX1
  clear hX1
  simp only [Act.put, List.setIfInBounds_toArray, List.set_cons_zero, List.set_cons_succ]
  have q1 := add_eq P ⟨#[32, 98, 121, 32]⟩ (by show P.size + 4 ≤ _; omega)
  have s1 : (P ++ ⟨#[32, 98, 121, 32]⟩).size = P.size + 4 := ByteArray.size_append
  generalize P ++ ⟨#[32, 98, 121, 32]⟩ = X1 at q1 s1 HE
  have q2 := add_eq X1 I (by omega)
  have s2 : (X1 ++ I).size = X1.size + I.size := ByteArray.size_append
  generalize X1 ++ I = X2 at q2 s2 HE
  have q3 := add_eq X2 ⟨#[32]⟩ (by show X2.size + 1 ≤ _; omega)
  have s3 : (X2 ++ ⟨#[32]⟩).size = X2.size + 1 := ByteArray.size_append
  generalize X2 ++ ⟨#[32]⟩ = X3 at q3 s3 HE
  go_wp2_with fail
  refine (HW.out _).mono ?_
  rintro _ w2 ⟨rfl, b1⟩
  have HX2 := Lib.hid (HX1.out.call b1)
  clear b1 HX1 x0 x1 x2 x3 x4 x5 x6 x7 x8
  obtain ⟨x0, x1, x2, x3, x4, x5, x6, x7, x8⟩ : _ ∧ _ ∧ _ ∧ _ ∧ _ ∧ _ ∧ _ ∧ _ ∧ _ := ⟨cell_of_row w2 _ 0 _ _ (0, 0) HX2.out.2, cell_of_row w2 _ 1 _ _ (0, 0) HX2.out.2, cell_of_row w2 _ 2 _ _ (0, 0) HX2.out.2, cell_of_row w2 _ 3 _ _ (0, 0) HX2.out.2, cell_of_row w2 _ 4 _ _ (0, 0) HX2.out.2, cell_of_row w2 _ 5 _ _ (0, 0) HX2.out.2, cell_of_row w2 _ 6 _ _ (0, 0) HX2.out.2, cell_of_row w2 _ 7 _ _ (0, 0) HX2.out.2, cell_of_row w2 _ 8 _ _ (0, 0) HX2.out.2⟩
  have q4 := add_eq X3 D (by omega)
  have s4 : (X3 ++ D).size = X3.size + D.size := ByteArray.size_append
  generalize X3 ++ D = X4 at q4 s4 HE
  have q5 := add_eq X4 ⟨#[32]⟩ (by show X4.size + 1 ≤ _; omega)
  have s5 : (X4 ++ ⟨#[32]⟩).size = X4.size + 1 := ByteArray.size_append
  generalize X4 ++ ⟨#[32]⟩ = X5 at q5 s5 HE
  have q6 := add_eq X5 A (by omega)
  have s6 : (X5 ++ A).size = X5.size + A.size := ByteArray.size_append
  generalize X5 ++ A = X6 at q6 s6 HE
  go_upto_region 8 with fail
  have h8 := HX2.out.drew
  clear x0 x1 x2 x3 x4 x5 x6 x7 x8
  refine wp_region_held_drew (S := (fun W => BX w 26 #[.int .i64 10, .int .i64 who, .int .i64 kc, .int .i64 kf, .int .u64 (ks : Int), .int .i64 sd, .int .i64 ac, .int .u64 (ep : Int), .int .u64 (n : Int)] W)) (by kernel_rfl) h8 (fun hHeld => ?_)
  refine wpAnyH_take (i := 0) (oi := _) (v := ?_) rfl (by kernel_rfl) (by kernel_rfl) (by kernel_rfl) (fun _ _ _ h => h) (Or.inl ⟨by rfl, ?_⟩) (by assumption) ?_
  rotate_left
  · (intro W hSw; clear hSw; go_simp; try with_reducible rfl)
  try simp only [Act.put, List.getElem_toArray, List.getElem_cons_zero, List.setIfInBounds_toArray, List.set_cons_zero, List.set_cons_succ]
  refine wpAnyH_take (i := 1) (oi := _) (v := ?_) rfl (by kernel_rfl) (by kernel_rfl) (by kernel_rfl) (fun _ _ _ h => h) (Or.inl ⟨by rfl, ?_⟩) (by assumption) ?_
  rotate_left
  · (intro W hSw; clear hSw; go_simp; try with_reducible rfl)
  try simp only [Act.put, List.getElem_toArray, List.getElem_cons_succ, List.getElem_cons_zero, List.setIfInBounds_toArray, List.set_cons_zero, List.set_cons_succ]
  refine wpAnyH_take (i := 2) (oi := _) (v := ?_) rfl (by kernel_rfl) (by kernel_rfl) (by kernel_rfl) (fun _ _ _ h => h) (Or.inl ⟨by rfl, ?_⟩) (by assumption) ?_
  rotate_left
  · (intro W hSw; (obtain ⟨y0, y1, y2, y3, y4, y5, y6, y7, y8⟩ : _ ∧ _ ∧ _ ∧ _ ∧ _ ∧ _ ∧ _ ∧ _ ∧ _ := ⟨cell_of_row W _ 0 _ _ (0, 0) hSw.2, cell_of_row W _ 1 _ _ (0, 0) hSw.2, cell_of_row W _ 2 _ _ (0, 0) hSw.2, cell_of_row W _ 3 _ _ (0, 0) hSw.2, cell_of_row W _ 4 _ _ (0, 0) hSw.2, cell_of_row W _ 5 _ _ (0, 0) hSw.2, cell_of_row W _ 6 _ _ (0, 0) hSw.2, cell_of_row W _ 7 _ _ (0, 0) hSw.2, cell_of_row W _ 8 _ _ (0, 0) hSw.2⟩; clear hSw; go_simp; try with_reducible rfl))
  try simp only [Act.put, List.getElem_toArray, List.getElem_cons_succ, List.getElem_cons_zero, List.setIfInBounds_toArray, List.set_cons_zero, List.set_cons_succ]
  refine wpAnyH_take (i := 6) (oi := _) (v := ?_) rfl (by kernel_rfl) (by kernel_rfl) (by kernel_rfl) (fun _ _ _ h => h) (Or.inl ⟨by rfl, ?_⟩) (by assumption) ?_
  rotate_left
  · (intro W hSw; clear hSw; go_simp; try with_reducible rfl)
  try simp only [Act.put, List.getElem_toArray, List.getElem_cons_succ, List.getElem_cons_zero, List.setIfInBounds_toArray, List.set_cons_zero, List.set_cons_succ]
  refine wpAnyH_take (i := 7) (oi := _) (v := ?_) rfl (by kernel_rfl) (by kernel_rfl) (by kernel_rfl) (fun _ _ _ h => h) (Or.inl ⟨by rfl, ?_⟩) (by assumption) ?_
  rotate_left
  · (intro W hSw; (obtain ⟨y0, y1, y2, y3, y4, y5, y6, y7, y8⟩ : _ ∧ _ ∧ _ ∧ _ ∧ _ ∧ _ ∧ _ ∧ _ ∧ _ := ⟨cell_of_row W _ 0 _ _ (0, 0) hSw.2, cell_of_row W _ 1 _ _ (0, 0) hSw.2, cell_of_row W _ 2 _ _ (0, 0) hSw.2, cell_of_row W _ 3 _ _ (0, 0) hSw.2, cell_of_row W _ 4 _ _ (0, 0) hSw.2, cell_of_row W _ 5 _ _ (0, 0) hSw.2, cell_of_row W _ 6 _ _ (0, 0) hSw.2, cell_of_row W _ 7 _ _ (0, 0) hSw.2, cell_of_row W _ 8 _ _ (0, 0) hSw.2⟩; clear hSw; go_simp; try with_reducible rfl))
  try simp only [Act.put, List.getElem_toArray, List.getElem_cons_succ, List.getElem_cons_zero, List.setIfInBounds_toArray, List.set_cons_zero, List.set_cons_succ]
  refine wpAnyH_ready (rs := [3]) (by kernel_rfl) (by simp) ?_
  refine AllReadyH.cons rfl (fun K hK => ?_) AllReadyH.nil
  simp only [List.getElem_toArray, List.getElem_cons_succ, List.getElem_cons_zero]
  rw [if_pos (by rfl)]
  go_simp
  (go_at_call 19; refine (HD.out _).mono ?_; rintro _ v1 ⟨rfl, b1⟩; have g1 := hHeld.call b1)
  go_wp2_with fail
  refine hK.out _ _ g1 (fun hHeld => ?_)
  clear hK K
  try simp only [Act.put, List.getElem_toArray, List.getElem_cons_succ, List.getElem_cons_zero, List.setIfInBounds_toArray, List.set_cons_zero, List.set_cons_succ]
  refine wpAnyH_take (i := 4) (oi := _) (v := ?_) rfl (by kernel_rfl) (by kernel_rfl) (by kernel_rfl) (fun _ _ _ h => h) (Or.inl ⟨by rfl, ?_⟩) (by assumption) ?_
  rotate_left
  · (intro W hSw; clear hSw; go_simp; try with_reducible rfl)
  try simp only [Act.put, List.getElem_toArray, List.getElem_cons_succ, List.getElem_cons_zero, List.setIfInBounds_toArray, List.set_cons_zero, List.set_cons_succ]
  refine wpAnyH_take (i := 5) (oi := _) (v := ?_) rfl (by kernel_rfl) (by kernel_rfl) (by kernel_rfl) (fun _ _ _ h => h) (Or.inl ⟨by rfl, ?_⟩) (by assumption) ?_
  rotate_left
  · (intro W hSw; clear hSw; go_simp; try with_reducible rfl)
  try simp only [Act.put, List.getElem_toArray, List.getElem_cons_succ, List.getElem_cons_zero, List.setIfInBounds_toArray, List.set_cons_zero, List.set_cons_succ]
  refine wpAnyH_ready (rs := [8]) (by kernel_rfl) (by simp) ?_
  refine AllReadyH.cons rfl (fun K hK => ?_) AllReadyH.nil
  simp only [List.getElem_toArray, List.getElem_cons_succ, List.getElem_cons_zero]
  rw [if_pos (by rfl)]
  go_simp
  (go_at_call 17; refine (HA.out _).mono ?_; rintro _ v2 ⟨rfl, b2⟩; have g2 := g1.call b2)
  go_wp2_with fail
  refine hK.out _ _ g2 (fun hHeld => ?_)
  clear hK K
  try simp only [Act.put, List.getElem_toArray, List.getElem_cons_succ, List.getElem_cons_zero, List.setIfInBounds_toArray, List.set_cons_zero, List.set_cons_succ]
  refine wpAnyH_take (i := 9) (oi := _) (v := ?_) rfl (by kernel_rfl) (by kernel_rfl) (by kernel_rfl) (fun _ _ _ h => h) (Or.inl ⟨by rfl, ?_⟩) (by assumption) ?_
  rotate_left
  · (intro W hSw; clear hSw; go_simp; try with_reducible rfl)
  try simp only [Act.put, List.getElem_toArray, List.getElem_cons_succ, List.getElem_cons_zero, List.setIfInBounds_toArray, List.set_cons_zero, List.set_cons_succ]
  refine wpAnyH_take (i := 10) (oi := _) (v := ?_) rfl (by kernel_rfl) (by kernel_rfl) (by kernel_rfl) (fun _ _ _ h => h) (Or.inl ⟨by rfl, ?_⟩) (by assumption) ?_
  rotate_left
  · (intro W hSw; clear hSw; go_simp; try with_reducible rfl)
  try simp only [Act.put, List.getElem_toArray, List.getElem_cons_succ, List.getElem_cons_zero, List.setIfInBounds_toArray, List.set_cons_zero, List.set_cons_succ]
  refine wpAnyH_done (by kernel_rfl) ?_ _
  have HX3 := Lib.hid g2
  clear h8 g1 g2 b1 b2 HX2
  obtain ⟨x0, x1, x2, x3, x4, x5, x6, x7, x8⟩ : _ ∧ _ ∧ _ ∧ _ ∧ _ ∧ _ ∧ _ ∧ _ ∧ _ := ⟨cell_of_row v2 _ 0 _ _ (0, 0) HX3.out.2, cell_of_row v2 _ 1 _ _ (0, 0) HX3.out.2, cell_of_row v2 _ 2 _ _ (0, 0) HX3.out.2, cell_of_row v2 _ 3 _ _ (0, 0) HX3.out.2, cell_of_row v2 _ 4 _ _ (0, 0) HX3.out.2, cell_of_row v2 _ 5 _ _ (0, 0) HX3.out.2, cell_of_row v2 _ 6 _ _ (0, 0) HX3.out.2, cell_of_row v2 _ 7 _ _ (0, 0) HX3.out.2, cell_of_row v2 _ 8 _ _ (0, 0) HX3.out.2⟩
  go_wp2
  go_ret
  exact ⟨by rw [HE.out]; rfl, HX3.out.1.1⟩

set_option maxRecDepth 100000 in
set_option maxHeartbeats 2000000 in
theorem rop_low (k who kc kf : Int) (ks : Nat) (sd ac : Int) (ep n : Nat) (ho : (O9.mk k who ⟨kc, kf, ks⟩ sd ac ep n).ok) (hk : k ≤ 0) (w : World) (ht : Tab w) :
    Calls Tryd.prog 6 #[.agg #[.int .i64 k, .int .i64 who, .int .i64 kc, .int .i64 kf, .int .u64 (ks : Int), .int .i64 sd, .int .i64 ac, .int .u64 (ep : Int), .int .u64 (n : Int)]] w fun e w' => e = .returned (.string (opB ⟨k, who, ⟨kc, kf, ks⟩, sd, ac, ep, n⟩)) ∧ Below w.heap.size w w' := by
  obtain ⟨hw, hkey, ha, hep, hn⟩ := ho
  dsimp only at hw hkey ha hep hn
  obtain ⟨E, hE⟩ : ∃ E, E = opB ⟨k, who, ⟨kc, kf, ks⟩, sd, ac, ep, n⟩ := ⟨_, rfl⟩
  rw [← hE]
  unfold opB nB acB headB at hE
  dsimp only at hE
  rw [if_neg (by omega), if_neg (by omega), if_neg (by omega)] at hE
  have hp := opW_size k
  have hi := intW_size who hw.1 hw.2
  have hn4 := nameB_size ⟨kc, kf, ks⟩ hkey
  have hd := sideW_size sd
  have hac := intW_size ac ha.1 ha.2
  have hy := decW_size n hn
  have hz := decW_size ep hep
  have HW := Lib.hid (fun W => rwhole_any who hw.1 hw.2 W)
  have HA := Lib.hid (fun W => rwhole_any ac ha.1 ha.2 W)
  have HN := Lib.hid (fun W h => rname_any ⟨kc, kf, ks⟩ hkey W h)
  have HY := Lib.hid (fun W => rdigits_any n hn W)
  have HZ := Lib.hid (fun W => rdigits_any ep hep W)
  have HD := Lib.hid (fun W => letter_any sd W)
  have hAt := opwords_at
  rw [show opW k = ⟨#[110, 111, 110, 101]⟩ by unfold opW; rw [if_neg (by omega), if_neg (by omega), if_neg (by omega), if_neg (by omega), if_neg (by omega), if_neg (by omega), if_neg (by omega), if_neg (by omega), if_neg (by omega), if_neg (by omega)]] at hE hp
  rw [show (⟨(Lib.itoa who).toArray⟩ : ByteArray) = intW who from rfl] at HW
  rw [show (⟨(Lib.itoa ac).toArray⟩ : ByteArray) = intW ac from rfl] at HA
  rw [show (⟨(Lib.decDigits n).toArray⟩ : ByteArray) = decW n from rfl] at HY
  rw [show (⟨(Lib.decDigits ep).toArray⟩ : ByteArray) = decW ep from rfl] at HZ
  unfold K3.cells at HN
  dsimp only at HN
  generalize intW who = I at *
  generalize intW ac = A at *
  generalize nameB _ = N at *
  generalize sideW sd = D at *
  generalize decW n = Y at *
  generalize decW ep = Z at *
  have HE := Lib.hid hE
  have hX := BX.new w 26 #[.int .i64 k, .int .i64 who, .int .i64 kc, .int .i64 kf, .int .u64 (ks : Int), .int .i64 sd, .int .i64 ac, .int .u64 (ep : Int), .int .u64 (n : Int)] ht
  obtain ⟨C, hC⟩ : ∃ C, C = opwords.map Value.string := ⟨_, rfl⟩
  obtain ⟨P, hP⟩ : ∃ P : ByteArray, P = ⟨#[110, 111, 110, 101]⟩ := ⟨_, rfl⟩
  rw [← hP] at HE hp
  clear hE hAt hw hkey ha hep hn ht
  go_enter Tryd.func6, Tryd.ntmps6
  go_upto_region 1 with fail
  obtain ⟨W0, hW0⟩ : ∃ X, X = w.alloc (.cells #[.int .i64 k, .int .i64 who, .int .i64 kc, .int .i64 kf, .int .u64 (ks : Int), .int .i64 sd, .int .i64 ac, .int .u64 (ep : Int), .int .u64 (n : Int)] 26) := ⟨_, rfl⟩
  rw [← hW0] at hX ⊢
  have hz0 : W0.heap.size = w.heap.size + 1 := by rw [hW0]; simp
  clear hW0
  refine wp_region_lit ?_
  refine Great.wpList_buildSliceTo rfl 38 9 11 _ rfl (w.heap.size + 1) hz0 (some 6) rfl Tryd.underlying38 C (by rw [hC]; kernel_rfl) ?_
  have hX1 : BX w 26 #[.int .i64 k, .int .i64 who, .int .i64 kc, .int .i64 kf, .int .u64 (ks : Int), .int .i64 sd, .int .i64 ac, .int .u64 (ep : Int), .int .u64 (n : Int)] (W0.alloc (.cells C 9)) := hX.call ((Below.refl _ _).alloc (Nat.le_refl _) _)
  obtain ⟨W1, hW1⟩ : ∃ X, X = W0.alloc (.cells C 9) := ⟨_, rfl⟩
  rw [← hW1] at hX1 ⊢
  clear hW1 hX hC hz0
  obtain ⟨x0, x1, x2, x3, x4, x5, x6, x7, x8⟩ : _ ∧ _ ∧ _ ∧ _ ∧ _ ∧ _ ∧ _ ∧ _ ∧ _ := ⟨cell_of_row W1 _ 0 _ _ (0, 0) hX1.2, cell_of_row W1 _ 1 _ _ (0, 0) hX1.2, cell_of_row W1 _ 2 _ _ (0, 0) hX1.2, cell_of_row W1 _ 3 _ _ (0, 0) hX1.2, cell_of_row W1 _ 4 _ _ (0, 0) hX1.2, cell_of_row W1 _ 5 _ _ (0, 0) hX1.2, cell_of_row W1 _ 6 _ _ (0, 0) hX1.2, cell_of_row W1 _ 7 _ _ (0, 0) hX1.2, cell_of_row W1 _ 8 _ _ (0, 0) hX1.2⟩
  have HX1 := Lib.hid hX1
  clear hX1
  simp only [Act.put, List.setIfInBounds_toArray, List.set_cons_zero, List.set_cons_succ]
  have e7 : (k == 7) = false := by simp; omega
  have e8 : (k == 8) = false := by simp; omega
  have e10 : (k != 10) = true := by simp; omega
  go_upto_region 3 with fail
  rw [← hP]
  clear hP
  have q1 := add_eq P ⟨#[32, 98, 121, 32]⟩ (by show P.size + 4 ≤ _; omega)
  have s1 : (P ++ ⟨#[32, 98, 121, 32]⟩).size = P.size + 4 := ByteArray.size_append
  generalize P ++ ⟨#[32, 98, 121, 32]⟩ = X1 at q1 s1 HE
  have q2 := add_eq X1 I (by omega)
  have s2 : (X1 ++ I).size = X1.size + I.size := ByteArray.size_append
  generalize X1 ++ I = X2 at q2 s2 HE
  have q3 := add_eq X2 ⟨#[32]⟩ (by show X2.size + 1 ≤ _; omega)
  have s3 : (X2 ++ ⟨#[32]⟩).size = X2.size + 1 := ByteArray.size_append
  generalize X2 ++ ⟨#[32]⟩ = X3 at q3 s3 HE
  go_wp2_with fail
  refine (HW.out _).mono ?_
  rintro _ w2 ⟨rfl, b1⟩
  have HX2 := Lib.hid (HX1.out.call b1)
  clear b1 HX1 x0 x1 x2 x3 x4 x5 x6 x7 x8
  obtain ⟨x0, x1, x2, x3, x4, x5, x6, x7, x8⟩ : _ ∧ _ ∧ _ ∧ _ ∧ _ ∧ _ ∧ _ ∧ _ ∧ _ := ⟨cell_of_row w2 _ 0 _ _ (0, 0) HX2.out.2, cell_of_row w2 _ 1 _ _ (0, 0) HX2.out.2, cell_of_row w2 _ 2 _ _ (0, 0) HX2.out.2, cell_of_row w2 _ 3 _ _ (0, 0) HX2.out.2, cell_of_row w2 _ 4 _ _ (0, 0) HX2.out.2, cell_of_row w2 _ 5 _ _ (0, 0) HX2.out.2, cell_of_row w2 _ 6 _ _ (0, 0) HX2.out.2, cell_of_row w2 _ 7 _ _ (0, 0) HX2.out.2, cell_of_row w2 _ 8 _ _ (0, 0) HX2.out.2⟩
  have q4 := add_eq X3 D (by omega)
  have s4 : (X3 ++ D).size = X3.size + D.size := ByteArray.size_append
  generalize X3 ++ D = X4 at q4 s4 HE
  have q5 := add_eq X4 ⟨#[32]⟩ (by show X4.size + 1 ≤ _; omega)
  have s5 : (X4 ++ ⟨#[32]⟩).size = X4.size + 1 := ByteArray.size_append
  generalize X4 ++ ⟨#[32]⟩ = X5 at q5 s5 HE
  have q6 := add_eq X5 A (by omega)
  have s6 : (X5 ++ A).size = X5.size + A.size := ByteArray.size_append
  generalize X5 ++ A = X6 at q6 s6 HE
  go_upto_region 8 with fail
  have h8 := HX2.out.drew
  clear x0 x1 x2 x3 x4 x5 x6 x7 x8
  refine wp_region_held_drew (S := (fun W => BX w 26 #[.int .i64 k, .int .i64 who, .int .i64 kc, .int .i64 kf, .int .u64 (ks : Int), .int .i64 sd, .int .i64 ac, .int .u64 (ep : Int), .int .u64 (n : Int)] W)) (by kernel_rfl) h8 (fun hHeld => ?_)
  refine wpAnyH_take (i := 0) (oi := _) (v := ?_) rfl (by kernel_rfl) (by kernel_rfl) (by kernel_rfl) (fun _ _ _ h => h) (Or.inl ⟨by rfl, ?_⟩) (by assumption) ?_
  rotate_left
  · (intro W hSw; clear hSw; go_simp; try with_reducible rfl)
  try simp only [Act.put, List.getElem_toArray, List.getElem_cons_zero, List.setIfInBounds_toArray, List.set_cons_zero, List.set_cons_succ]
  refine wpAnyH_take (i := 1) (oi := _) (v := ?_) rfl (by kernel_rfl) (by kernel_rfl) (by kernel_rfl) (fun _ _ _ h => h) (Or.inl ⟨by rfl, ?_⟩) (by assumption) ?_
  rotate_left
  · (intro W hSw; clear hSw; go_simp; try with_reducible rfl)
  try simp only [Act.put, List.getElem_toArray, List.getElem_cons_succ, List.getElem_cons_zero, List.setIfInBounds_toArray, List.set_cons_zero, List.set_cons_succ]
  refine wpAnyH_take (i := 2) (oi := _) (v := ?_) rfl (by kernel_rfl) (by kernel_rfl) (by kernel_rfl) (fun _ _ _ h => h) (Or.inl ⟨by rfl, ?_⟩) (by assumption) ?_
  rotate_left
  · (intro W hSw; (obtain ⟨y0, y1, y2, y3, y4, y5, y6, y7, y8⟩ : _ ∧ _ ∧ _ ∧ _ ∧ _ ∧ _ ∧ _ ∧ _ ∧ _ := ⟨cell_of_row W _ 0 _ _ (0, 0) hSw.2, cell_of_row W _ 1 _ _ (0, 0) hSw.2, cell_of_row W _ 2 _ _ (0, 0) hSw.2, cell_of_row W _ 3 _ _ (0, 0) hSw.2, cell_of_row W _ 4 _ _ (0, 0) hSw.2, cell_of_row W _ 5 _ _ (0, 0) hSw.2, cell_of_row W _ 6 _ _ (0, 0) hSw.2, cell_of_row W _ 7 _ _ (0, 0) hSw.2, cell_of_row W _ 8 _ _ (0, 0) hSw.2⟩; clear hSw; go_simp; try with_reducible rfl))
  try simp only [Act.put, List.getElem_toArray, List.getElem_cons_succ, List.getElem_cons_zero, List.setIfInBounds_toArray, List.set_cons_zero, List.set_cons_succ]
  refine wpAnyH_take (i := 6) (oi := _) (v := ?_) rfl (by kernel_rfl) (by kernel_rfl) (by kernel_rfl) (fun _ _ _ h => h) (Or.inl ⟨by rfl, ?_⟩) (by assumption) ?_
  rotate_left
  · (intro W hSw; clear hSw; go_simp; try with_reducible rfl)
  try simp only [Act.put, List.getElem_toArray, List.getElem_cons_succ, List.getElem_cons_zero, List.setIfInBounds_toArray, List.set_cons_zero, List.set_cons_succ]
  refine wpAnyH_take (i := 7) (oi := _) (v := ?_) rfl (by kernel_rfl) (by kernel_rfl) (by kernel_rfl) (fun _ _ _ h => h) (Or.inl ⟨by rfl, ?_⟩) (by assumption) ?_
  rotate_left
  · (intro W hSw; (obtain ⟨y0, y1, y2, y3, y4, y5, y6, y7, y8⟩ : _ ∧ _ ∧ _ ∧ _ ∧ _ ∧ _ ∧ _ ∧ _ ∧ _ := ⟨cell_of_row W _ 0 _ _ (0, 0) hSw.2, cell_of_row W _ 1 _ _ (0, 0) hSw.2, cell_of_row W _ 2 _ _ (0, 0) hSw.2, cell_of_row W _ 3 _ _ (0, 0) hSw.2, cell_of_row W _ 4 _ _ (0, 0) hSw.2, cell_of_row W _ 5 _ _ (0, 0) hSw.2, cell_of_row W _ 6 _ _ (0, 0) hSw.2, cell_of_row W _ 7 _ _ (0, 0) hSw.2, cell_of_row W _ 8 _ _ (0, 0) hSw.2⟩; clear hSw; go_simp; try with_reducible rfl))
  try simp only [Act.put, List.getElem_toArray, List.getElem_cons_succ, List.getElem_cons_zero, List.setIfInBounds_toArray, List.set_cons_zero, List.set_cons_succ]
  refine wpAnyH_ready (rs := [3]) (by kernel_rfl) (by simp) ?_
  refine AllReadyH.cons rfl (fun K hK => ?_) AllReadyH.nil
  simp only [List.getElem_toArray, List.getElem_cons_succ, List.getElem_cons_zero]
  rw [if_pos (by rfl)]
  go_simp
  (go_at_call 19; refine (HD.out _).mono ?_; rintro _ v1 ⟨rfl, b1⟩; have g1 := hHeld.call b1)
  go_wp2_with fail
  refine hK.out _ _ g1 (fun hHeld => ?_)
  clear hK K
  try simp only [Act.put, List.getElem_toArray, List.getElem_cons_succ, List.getElem_cons_zero, List.setIfInBounds_toArray, List.set_cons_zero, List.set_cons_succ]
  refine wpAnyH_take (i := 4) (oi := _) (v := ?_) rfl (by kernel_rfl) (by kernel_rfl) (by kernel_rfl) (fun _ _ _ h => h) (Or.inl ⟨by rfl, ?_⟩) (by assumption) ?_
  rotate_left
  · (intro W hSw; clear hSw; go_simp; try with_reducible rfl)
  try simp only [Act.put, List.getElem_toArray, List.getElem_cons_succ, List.getElem_cons_zero, List.setIfInBounds_toArray, List.set_cons_zero, List.set_cons_succ]
  refine wpAnyH_take (i := 5) (oi := _) (v := ?_) rfl (by kernel_rfl) (by kernel_rfl) (by kernel_rfl) (fun _ _ _ h => h) (Or.inl ⟨by rfl, ?_⟩) (by assumption) ?_
  rotate_left
  · (intro W hSw; clear hSw; go_simp; try with_reducible rfl)
  try simp only [Act.put, List.getElem_toArray, List.getElem_cons_succ, List.getElem_cons_zero, List.setIfInBounds_toArray, List.set_cons_zero, List.set_cons_succ]
  refine wpAnyH_ready (rs := [8]) (by kernel_rfl) (by simp) ?_
  refine AllReadyH.cons rfl (fun K hK => ?_) AllReadyH.nil
  simp only [List.getElem_toArray, List.getElem_cons_succ, List.getElem_cons_zero]
  rw [if_pos (by rfl)]
  go_simp
  (go_at_call 17; refine (HA.out _).mono ?_; rintro _ v2 ⟨rfl, b2⟩; have g2 := g1.call b2)
  go_wp2_with fail
  refine hK.out _ _ g2 (fun hHeld => ?_)
  clear hK K
  try simp only [Act.put, List.getElem_toArray, List.getElem_cons_succ, List.getElem_cons_zero, List.setIfInBounds_toArray, List.set_cons_zero, List.set_cons_succ]
  refine wpAnyH_take (i := 9) (oi := _) (v := ?_) rfl (by kernel_rfl) (by kernel_rfl) (by kernel_rfl) (fun _ _ _ h => h) (Or.inl ⟨by rfl, ?_⟩) (by assumption) ?_
  rotate_left
  · (intro W hSw; clear hSw; go_simp; try with_reducible rfl)
  try simp only [Act.put, List.getElem_toArray, List.getElem_cons_succ, List.getElem_cons_zero, List.setIfInBounds_toArray, List.set_cons_zero, List.set_cons_succ]
  refine wpAnyH_take (i := 10) (oi := _) (v := ?_) rfl (by kernel_rfl) (by kernel_rfl) (by kernel_rfl) (fun _ _ _ h => h) (Or.inl ⟨by rfl, ?_⟩) (by assumption) ?_
  rotate_left
  · (intro W hSw; clear hSw; go_simp; try with_reducible rfl)
  try simp only [Act.put, List.getElem_toArray, List.getElem_cons_succ, List.getElem_cons_zero, List.setIfInBounds_toArray, List.set_cons_zero, List.set_cons_succ]
  refine wpAnyH_done (by kernel_rfl) ?_ _
  have HX3 := Lib.hid g2
  clear h8 g1 g2 b1 b2 HX2
  obtain ⟨x0, x1, x2, x3, x4, x5, x6, x7, x8⟩ : _ ∧ _ ∧ _ ∧ _ ∧ _ ∧ _ ∧ _ ∧ _ ∧ _ := ⟨cell_of_row v2 _ 0 _ _ (0, 0) HX3.out.2, cell_of_row v2 _ 1 _ _ (0, 0) HX3.out.2, cell_of_row v2 _ 2 _ _ (0, 0) HX3.out.2, cell_of_row v2 _ 3 _ _ (0, 0) HX3.out.2, cell_of_row v2 _ 4 _ _ (0, 0) HX3.out.2, cell_of_row v2 _ 5 _ _ (0, 0) HX3.out.2, cell_of_row v2 _ 6 _ _ (0, 0) HX3.out.2, cell_of_row v2 _ 7 _ _ (0, 0) HX3.out.2, cell_of_row v2 _ 8 _ _ (0, 0) HX3.out.2⟩
  have q7 := add_eq X6 ⟨#[32]⟩ (by show X6.size + 1 ≤ _; omega)
  have s7 : (X6 ++ ⟨#[32]⟩).size = X6.size + 1 := ByteArray.size_append
  generalize X6 ++ ⟨#[32]⟩ = X7 at q7 s7 HE
  have q8 := add_eq X7 Y (by omega)
  have s8 : (X7 ++ Y).size = X7.size + Y.size := ByteArray.size_append
  generalize X7 ++ Y = X8 at q8 s8 HE
  go_wp2_with fail
  refine (HY.out _).mono ?_
  rintro _ w4 ⟨rfl, b1⟩
  have HX4 := Lib.hid (HX3.out.call b1)
  clear b1 HX3 x0 x1 x2 x3 x4 x5 x6 x7 x8
  obtain ⟨x0, x1, x2, x3, x4, x5, x6, x7, x8⟩ : _ ∧ _ ∧ _ ∧ _ ∧ _ ∧ _ ∧ _ ∧ _ ∧ _ := ⟨cell_of_row w4 _ 0 _ _ (0, 0) HX4.out.2, cell_of_row w4 _ 1 _ _ (0, 0) HX4.out.2, cell_of_row w4 _ 2 _ _ (0, 0) HX4.out.2, cell_of_row w4 _ 3 _ _ (0, 0) HX4.out.2, cell_of_row w4 _ 4 _ _ (0, 0) HX4.out.2, cell_of_row w4 _ 5 _ _ (0, 0) HX4.out.2, cell_of_row w4 _ 6 _ _ (0, 0) HX4.out.2, cell_of_row w4 _ 7 _ _ (0, 0) HX4.out.2, cell_of_row w4 _ 8 _ _ (0, 0) HX4.out.2⟩
  go_wp2
  go_ret
  exact ⟨by rw [HE.out]; rfl, HX4.out.1.1⟩

set_option maxRecDepth 100000 in
set_option maxHeartbeats 2000000 in
theorem rop_high (k who kc kf : Int) (ks : Nat) (sd ac : Int) (ep n : Nat) (ho : (O9.mk k who ⟨kc, kf, ks⟩ sd ac ep n).ok) (hk : 10 < k) (w : World) (ht : Tab w) :
    Calls Tryd.prog 6 #[.agg #[.int .i64 k, .int .i64 who, .int .i64 kc, .int .i64 kf, .int .u64 (ks : Int), .int .i64 sd, .int .i64 ac, .int .u64 (ep : Int), .int .u64 (n : Int)]] w fun e w' => e = .returned (.string (opB ⟨k, who, ⟨kc, kf, ks⟩, sd, ac, ep, n⟩)) ∧ Below w.heap.size w w' := by
  obtain ⟨hw, hkey, ha, hep, hn⟩ := ho
  dsimp only at hw hkey ha hep hn
  obtain ⟨E, hE⟩ : ∃ E, E = opB ⟨k, who, ⟨kc, kf, ks⟩, sd, ac, ep, n⟩ := ⟨_, rfl⟩
  rw [← hE]
  unfold opB nB acB headB at hE
  dsimp only at hE
  rw [if_neg (by omega), if_neg (by omega), if_neg (by omega)] at hE
  have hp := opW_size k
  have hi := intW_size who hw.1 hw.2
  have hn4 := nameB_size ⟨kc, kf, ks⟩ hkey
  have hd := sideW_size sd
  have hac := intW_size ac ha.1 ha.2
  have hy := decW_size n hn
  have hz := decW_size ep hep
  have HW := Lib.hid (fun W => rwhole_any who hw.1 hw.2 W)
  have HA := Lib.hid (fun W => rwhole_any ac ha.1 ha.2 W)
  have HN := Lib.hid (fun W h => rname_any ⟨kc, kf, ks⟩ hkey W h)
  have HY := Lib.hid (fun W => rdigits_any n hn W)
  have HZ := Lib.hid (fun W => rdigits_any ep hep W)
  have HD := Lib.hid (fun W => letter_any sd W)
  have hAt := opwords_at
  rw [show opW k = ⟨#[110, 111, 110, 101]⟩ by unfold opW; rw [if_neg (by omega), if_neg (by omega), if_neg (by omega), if_neg (by omega), if_neg (by omega), if_neg (by omega), if_neg (by omega), if_neg (by omega), if_neg (by omega), if_neg (by omega)]] at hE hp
  rw [show (⟨(Lib.itoa who).toArray⟩ : ByteArray) = intW who from rfl] at HW
  rw [show (⟨(Lib.itoa ac).toArray⟩ : ByteArray) = intW ac from rfl] at HA
  rw [show (⟨(Lib.decDigits n).toArray⟩ : ByteArray) = decW n from rfl] at HY
  rw [show (⟨(Lib.decDigits ep).toArray⟩ : ByteArray) = decW ep from rfl] at HZ
  unfold K3.cells at HN
  dsimp only at HN
  generalize intW who = I at *
  generalize intW ac = A at *
  generalize nameB _ = N at *
  generalize sideW sd = D at *
  generalize decW n = Y at *
  generalize decW ep = Z at *
  have HE := Lib.hid hE
  have hX := BX.new w 26 #[.int .i64 k, .int .i64 who, .int .i64 kc, .int .i64 kf, .int .u64 (ks : Int), .int .i64 sd, .int .i64 ac, .int .u64 (ep : Int), .int .u64 (n : Int)] ht
  obtain ⟨C, hC⟩ : ∃ C, C = opwords.map Value.string := ⟨_, rfl⟩
  obtain ⟨P, hP⟩ : ∃ P : ByteArray, P = ⟨#[110, 111, 110, 101]⟩ := ⟨_, rfl⟩
  rw [← hP] at HE hp
  clear hE hAt hw hkey ha hep hn ht
  go_enter Tryd.func6, Tryd.ntmps6
  go_upto_region 1 with fail
  obtain ⟨W0, hW0⟩ : ∃ X, X = w.alloc (.cells #[.int .i64 k, .int .i64 who, .int .i64 kc, .int .i64 kf, .int .u64 (ks : Int), .int .i64 sd, .int .i64 ac, .int .u64 (ep : Int), .int .u64 (n : Int)] 26) := ⟨_, rfl⟩
  rw [← hW0] at hX ⊢
  have hz0 : W0.heap.size = w.heap.size + 1 := by rw [hW0]; simp
  clear hW0
  refine wp_region_lit ?_
  refine Great.wpList_buildSliceTo rfl 38 9 11 _ rfl (w.heap.size + 1) hz0 (some 6) rfl Tryd.underlying38 C (by rw [hC]; kernel_rfl) ?_
  have hX1 : BX w 26 #[.int .i64 k, .int .i64 who, .int .i64 kc, .int .i64 kf, .int .u64 (ks : Int), .int .i64 sd, .int .i64 ac, .int .u64 (ep : Int), .int .u64 (n : Int)] (W0.alloc (.cells C 9)) := hX.call ((Below.refl _ _).alloc (Nat.le_refl _) _)
  obtain ⟨W1, hW1⟩ : ∃ X, X = W0.alloc (.cells C 9) := ⟨_, rfl⟩
  rw [← hW1] at hX1 ⊢
  clear hW1 hX hC hz0
  obtain ⟨x0, x1, x2, x3, x4, x5, x6, x7, x8⟩ : _ ∧ _ ∧ _ ∧ _ ∧ _ ∧ _ ∧ _ ∧ _ ∧ _ := ⟨cell_of_row W1 _ 0 _ _ (0, 0) hX1.2, cell_of_row W1 _ 1 _ _ (0, 0) hX1.2, cell_of_row W1 _ 2 _ _ (0, 0) hX1.2, cell_of_row W1 _ 3 _ _ (0, 0) hX1.2, cell_of_row W1 _ 4 _ _ (0, 0) hX1.2, cell_of_row W1 _ 5 _ _ (0, 0) hX1.2, cell_of_row W1 _ 6 _ _ (0, 0) hX1.2, cell_of_row W1 _ 7 _ _ (0, 0) hX1.2, cell_of_row W1 _ 8 _ _ (0, 0) hX1.2⟩
  have HX1 := Lib.hid hX1
  clear hX1
  simp only [Act.put, List.setIfInBounds_toArray, List.set_cons_zero, List.set_cons_succ]
  have e7 : (k == 7) = false := by simp; omega
  have e8 : (k == 8) = false := by simp; omega
  have e10 : (k != 10) = true := by simp; omega
  go_upto_region 3 with fail
  rw [← hP]
  clear hP
  have q1 := add_eq P ⟨#[32, 98, 121, 32]⟩ (by show P.size + 4 ≤ _; omega)
  have s1 : (P ++ ⟨#[32, 98, 121, 32]⟩).size = P.size + 4 := ByteArray.size_append
  generalize P ++ ⟨#[32, 98, 121, 32]⟩ = X1 at q1 s1 HE
  have q2 := add_eq X1 I (by omega)
  have s2 : (X1 ++ I).size = X1.size + I.size := ByteArray.size_append
  generalize X1 ++ I = X2 at q2 s2 HE
  have q3 := add_eq X2 ⟨#[32]⟩ (by show X2.size + 1 ≤ _; omega)
  have s3 : (X2 ++ ⟨#[32]⟩).size = X2.size + 1 := ByteArray.size_append
  generalize X2 ++ ⟨#[32]⟩ = X3 at q3 s3 HE
  go_wp2_with fail
  refine (HW.out _).mono ?_
  rintro _ w2 ⟨rfl, b1⟩
  have HX2 := Lib.hid (HX1.out.call b1)
  clear b1 HX1 x0 x1 x2 x3 x4 x5 x6 x7 x8
  obtain ⟨x0, x1, x2, x3, x4, x5, x6, x7, x8⟩ : _ ∧ _ ∧ _ ∧ _ ∧ _ ∧ _ ∧ _ ∧ _ ∧ _ := ⟨cell_of_row w2 _ 0 _ _ (0, 0) HX2.out.2, cell_of_row w2 _ 1 _ _ (0, 0) HX2.out.2, cell_of_row w2 _ 2 _ _ (0, 0) HX2.out.2, cell_of_row w2 _ 3 _ _ (0, 0) HX2.out.2, cell_of_row w2 _ 4 _ _ (0, 0) HX2.out.2, cell_of_row w2 _ 5 _ _ (0, 0) HX2.out.2, cell_of_row w2 _ 6 _ _ (0, 0) HX2.out.2, cell_of_row w2 _ 7 _ _ (0, 0) HX2.out.2, cell_of_row w2 _ 8 _ _ (0, 0) HX2.out.2⟩
  have q4 := add_eq X3 D (by omega)
  have s4 : (X3 ++ D).size = X3.size + D.size := ByteArray.size_append
  generalize X3 ++ D = X4 at q4 s4 HE
  have q5 := add_eq X4 ⟨#[32]⟩ (by show X4.size + 1 ≤ _; omega)
  have s5 : (X4 ++ ⟨#[32]⟩).size = X4.size + 1 := ByteArray.size_append
  generalize X4 ++ ⟨#[32]⟩ = X5 at q5 s5 HE
  have q6 := add_eq X5 A (by omega)
  have s6 : (X5 ++ A).size = X5.size + A.size := ByteArray.size_append
  generalize X5 ++ A = X6 at q6 s6 HE
  go_upto_region 8 with fail
  have h8 := HX2.out.drew
  clear x0 x1 x2 x3 x4 x5 x6 x7 x8
  refine wp_region_held_drew (S := (fun W => BX w 26 #[.int .i64 k, .int .i64 who, .int .i64 kc, .int .i64 kf, .int .u64 (ks : Int), .int .i64 sd, .int .i64 ac, .int .u64 (ep : Int), .int .u64 (n : Int)] W)) (by kernel_rfl) h8 (fun hHeld => ?_)
  refine wpAnyH_take (i := 0) (oi := _) (v := ?_) rfl (by kernel_rfl) (by kernel_rfl) (by kernel_rfl) (fun _ _ _ h => h) (Or.inl ⟨by rfl, ?_⟩) (by assumption) ?_
  rotate_left
  · (intro W hSw; clear hSw; go_simp; try with_reducible rfl)
  try simp only [Act.put, List.getElem_toArray, List.getElem_cons_zero, List.setIfInBounds_toArray, List.set_cons_zero, List.set_cons_succ]
  refine wpAnyH_take (i := 1) (oi := _) (v := ?_) rfl (by kernel_rfl) (by kernel_rfl) (by kernel_rfl) (fun _ _ _ h => h) (Or.inl ⟨by rfl, ?_⟩) (by assumption) ?_
  rotate_left
  · (intro W hSw; clear hSw; go_simp; try with_reducible rfl)
  try simp only [Act.put, List.getElem_toArray, List.getElem_cons_succ, List.getElem_cons_zero, List.setIfInBounds_toArray, List.set_cons_zero, List.set_cons_succ]
  refine wpAnyH_take (i := 2) (oi := _) (v := ?_) rfl (by kernel_rfl) (by kernel_rfl) (by kernel_rfl) (fun _ _ _ h => h) (Or.inl ⟨by rfl, ?_⟩) (by assumption) ?_
  rotate_left
  · (intro W hSw; (obtain ⟨y0, y1, y2, y3, y4, y5, y6, y7, y8⟩ : _ ∧ _ ∧ _ ∧ _ ∧ _ ∧ _ ∧ _ ∧ _ ∧ _ := ⟨cell_of_row W _ 0 _ _ (0, 0) hSw.2, cell_of_row W _ 1 _ _ (0, 0) hSw.2, cell_of_row W _ 2 _ _ (0, 0) hSw.2, cell_of_row W _ 3 _ _ (0, 0) hSw.2, cell_of_row W _ 4 _ _ (0, 0) hSw.2, cell_of_row W _ 5 _ _ (0, 0) hSw.2, cell_of_row W _ 6 _ _ (0, 0) hSw.2, cell_of_row W _ 7 _ _ (0, 0) hSw.2, cell_of_row W _ 8 _ _ (0, 0) hSw.2⟩; clear hSw; go_simp; try with_reducible rfl))
  try simp only [Act.put, List.getElem_toArray, List.getElem_cons_succ, List.getElem_cons_zero, List.setIfInBounds_toArray, List.set_cons_zero, List.set_cons_succ]
  refine wpAnyH_take (i := 6) (oi := _) (v := ?_) rfl (by kernel_rfl) (by kernel_rfl) (by kernel_rfl) (fun _ _ _ h => h) (Or.inl ⟨by rfl, ?_⟩) (by assumption) ?_
  rotate_left
  · (intro W hSw; clear hSw; go_simp; try with_reducible rfl)
  try simp only [Act.put, List.getElem_toArray, List.getElem_cons_succ, List.getElem_cons_zero, List.setIfInBounds_toArray, List.set_cons_zero, List.set_cons_succ]
  refine wpAnyH_take (i := 7) (oi := _) (v := ?_) rfl (by kernel_rfl) (by kernel_rfl) (by kernel_rfl) (fun _ _ _ h => h) (Or.inl ⟨by rfl, ?_⟩) (by assumption) ?_
  rotate_left
  · (intro W hSw; (obtain ⟨y0, y1, y2, y3, y4, y5, y6, y7, y8⟩ : _ ∧ _ ∧ _ ∧ _ ∧ _ ∧ _ ∧ _ ∧ _ ∧ _ := ⟨cell_of_row W _ 0 _ _ (0, 0) hSw.2, cell_of_row W _ 1 _ _ (0, 0) hSw.2, cell_of_row W _ 2 _ _ (0, 0) hSw.2, cell_of_row W _ 3 _ _ (0, 0) hSw.2, cell_of_row W _ 4 _ _ (0, 0) hSw.2, cell_of_row W _ 5 _ _ (0, 0) hSw.2, cell_of_row W _ 6 _ _ (0, 0) hSw.2, cell_of_row W _ 7 _ _ (0, 0) hSw.2, cell_of_row W _ 8 _ _ (0, 0) hSw.2⟩; clear hSw; go_simp; try with_reducible rfl))
  try simp only [Act.put, List.getElem_toArray, List.getElem_cons_succ, List.getElem_cons_zero, List.setIfInBounds_toArray, List.set_cons_zero, List.set_cons_succ]
  refine wpAnyH_ready (rs := [3]) (by kernel_rfl) (by simp) ?_
  refine AllReadyH.cons rfl (fun K hK => ?_) AllReadyH.nil
  simp only [List.getElem_toArray, List.getElem_cons_succ, List.getElem_cons_zero]
  rw [if_pos (by rfl)]
  go_simp
  (go_at_call 19; refine (HD.out _).mono ?_; rintro _ v1 ⟨rfl, b1⟩; have g1 := hHeld.call b1)
  go_wp2_with fail
  refine hK.out _ _ g1 (fun hHeld => ?_)
  clear hK K
  try simp only [Act.put, List.getElem_toArray, List.getElem_cons_succ, List.getElem_cons_zero, List.setIfInBounds_toArray, List.set_cons_zero, List.set_cons_succ]
  refine wpAnyH_take (i := 4) (oi := _) (v := ?_) rfl (by kernel_rfl) (by kernel_rfl) (by kernel_rfl) (fun _ _ _ h => h) (Or.inl ⟨by rfl, ?_⟩) (by assumption) ?_
  rotate_left
  · (intro W hSw; clear hSw; go_simp; try with_reducible rfl)
  try simp only [Act.put, List.getElem_toArray, List.getElem_cons_succ, List.getElem_cons_zero, List.setIfInBounds_toArray, List.set_cons_zero, List.set_cons_succ]
  refine wpAnyH_take (i := 5) (oi := _) (v := ?_) rfl (by kernel_rfl) (by kernel_rfl) (by kernel_rfl) (fun _ _ _ h => h) (Or.inl ⟨by rfl, ?_⟩) (by assumption) ?_
  rotate_left
  · (intro W hSw; clear hSw; go_simp; try with_reducible rfl)
  try simp only [Act.put, List.getElem_toArray, List.getElem_cons_succ, List.getElem_cons_zero, List.setIfInBounds_toArray, List.set_cons_zero, List.set_cons_succ]
  refine wpAnyH_ready (rs := [8]) (by kernel_rfl) (by simp) ?_
  refine AllReadyH.cons rfl (fun K hK => ?_) AllReadyH.nil
  simp only [List.getElem_toArray, List.getElem_cons_succ, List.getElem_cons_zero]
  rw [if_pos (by rfl)]
  go_simp
  (go_at_call 17; refine (HA.out _).mono ?_; rintro _ v2 ⟨rfl, b2⟩; have g2 := g1.call b2)
  go_wp2_with fail
  refine hK.out _ _ g2 (fun hHeld => ?_)
  clear hK K
  try simp only [Act.put, List.getElem_toArray, List.getElem_cons_succ, List.getElem_cons_zero, List.setIfInBounds_toArray, List.set_cons_zero, List.set_cons_succ]
  refine wpAnyH_take (i := 9) (oi := _) (v := ?_) rfl (by kernel_rfl) (by kernel_rfl) (by kernel_rfl) (fun _ _ _ h => h) (Or.inl ⟨by rfl, ?_⟩) (by assumption) ?_
  rotate_left
  · (intro W hSw; clear hSw; go_simp; try with_reducible rfl)
  try simp only [Act.put, List.getElem_toArray, List.getElem_cons_succ, List.getElem_cons_zero, List.setIfInBounds_toArray, List.set_cons_zero, List.set_cons_succ]
  refine wpAnyH_take (i := 10) (oi := _) (v := ?_) rfl (by kernel_rfl) (by kernel_rfl) (by kernel_rfl) (fun _ _ _ h => h) (Or.inl ⟨by rfl, ?_⟩) (by assumption) ?_
  rotate_left
  · (intro W hSw; clear hSw; go_simp; try with_reducible rfl)
  try simp only [Act.put, List.getElem_toArray, List.getElem_cons_succ, List.getElem_cons_zero, List.setIfInBounds_toArray, List.set_cons_zero, List.set_cons_succ]
  refine wpAnyH_done (by kernel_rfl) ?_ _
  have HX3 := Lib.hid g2
  clear h8 g1 g2 b1 b2 HX2
  obtain ⟨x0, x1, x2, x3, x4, x5, x6, x7, x8⟩ : _ ∧ _ ∧ _ ∧ _ ∧ _ ∧ _ ∧ _ ∧ _ ∧ _ := ⟨cell_of_row v2 _ 0 _ _ (0, 0) HX3.out.2, cell_of_row v2 _ 1 _ _ (0, 0) HX3.out.2, cell_of_row v2 _ 2 _ _ (0, 0) HX3.out.2, cell_of_row v2 _ 3 _ _ (0, 0) HX3.out.2, cell_of_row v2 _ 4 _ _ (0, 0) HX3.out.2, cell_of_row v2 _ 5 _ _ (0, 0) HX3.out.2, cell_of_row v2 _ 6 _ _ (0, 0) HX3.out.2, cell_of_row v2 _ 7 _ _ (0, 0) HX3.out.2, cell_of_row v2 _ 8 _ _ (0, 0) HX3.out.2⟩
  have q7 := add_eq X6 ⟨#[32]⟩ (by show X6.size + 1 ≤ _; omega)
  have s7 : (X6 ++ ⟨#[32]⟩).size = X6.size + 1 := ByteArray.size_append
  generalize X6 ++ ⟨#[32]⟩ = X7 at q7 s7 HE
  have q8 := add_eq X7 Y (by omega)
  have s8 : (X7 ++ Y).size = X7.size + Y.size := ByteArray.size_append
  generalize X7 ++ Y = X8 at q8 s8 HE
  go_wp2_with fail
  refine (HY.out _).mono ?_
  rintro _ w4 ⟨rfl, b1⟩
  have HX4 := Lib.hid (HX3.out.call b1)
  clear b1 HX3 x0 x1 x2 x3 x4 x5 x6 x7 x8
  obtain ⟨x0, x1, x2, x3, x4, x5, x6, x7, x8⟩ : _ ∧ _ ∧ _ ∧ _ ∧ _ ∧ _ ∧ _ ∧ _ ∧ _ := ⟨cell_of_row w4 _ 0 _ _ (0, 0) HX4.out.2, cell_of_row w4 _ 1 _ _ (0, 0) HX4.out.2, cell_of_row w4 _ 2 _ _ (0, 0) HX4.out.2, cell_of_row w4 _ 3 _ _ (0, 0) HX4.out.2, cell_of_row w4 _ 4 _ _ (0, 0) HX4.out.2, cell_of_row w4 _ 5 _ _ (0, 0) HX4.out.2, cell_of_row w4 _ 6 _ _ (0, 0) HX4.out.2, cell_of_row w4 _ 7 _ _ (0, 0) HX4.out.2, cell_of_row w4 _ 8 _ _ (0, 0) HX4.out.2⟩
  go_wp2
  go_ret
  exact ⟨by rw [HE.out]; rfl, HX4.out.1.1⟩

theorem rop_any (o : O9) (ho : o.ok) (w : World) (ht : Tab w) :
    Calls Tryd.prog 6 #[.agg o.cells] w fun e w' => e = .returned (.string (opB o)) ∧ Below w.heap.size w w' := by
  obtain ⟨k, who, ⟨kc, kf, ks⟩, sd, ac, ep, n⟩ := o
  by_cases h1 : k ≤ 0
  · exact rop_low k who kc kf ks sd ac ep n ho h1 w ht
  · by_cases h2 : 10 < k
    · exact rop_high k who kc kf ks sd ac ep n ho h2 w ht
    · by_cases h3 : k ≤ 5
      · exact rop_few k who kc kf ks sd ac ep n ho ⟨by omega, h3⟩ w ht
      · by_cases h4 : k = 6
        · exact rop_6 k who kc kf ks sd ac ep n ho h4 w ht
        · by_cases h5 : k = 7
          · exact rop_7 k who kc kf ks sd ac ep n ho h5 w ht
          · by_cases h6 : k = 8
            · exact rop_8 k who kc kf ks sd ac ep n ho h6 w ht
            · by_cases h7 : k = 9
              · exact rop_9 k who kc kf ks sd ac ep n ho h7 w ht
              · exact rop_10 k who kc kf ks sd ac ep n ho (by omega) w ht
end Go.Proofs.YtpakefgbjncdiadDoor.Rep
