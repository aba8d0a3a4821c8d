/- The page's words of what an operation told. -/
import Derived.Test.YtpakefgbjncdiadDoorRepBox
import Derived.Great.Walk
import Derived.Deep.Cut
import Derived.Deep.RegionHeld3
namespace Go.Proofs.YtpakefgbjncdiadDoor.Rep
open Go Go.RowKit Num Dec packetKeys

set_option maxRecDepth 100000 in
set_option maxHeartbeats 2000000 in
theorem rret_err (k e : Int) (ep n many : Nat) (ho : (R4.mk e ep n many).ok) (hk : e ≠ 0) (w : World) (ht : Tab w) :
    Calls Tryd.prog 8 #[.int .i64 k, .agg #[.int .i64 e, .int .u64 (ep : Int), .int .u64 (n : Int), .int .u64 (many : Int)]] w fun r w' => r = .returned (.string (retB k ⟨e, ep, n, many⟩)) ∧ Below w.heap.size w w' := by
  obtain ⟨hep, hn, hm⟩ := ho
  dsimp only at hep hn hm
  obtain ⟨E, hE⟩ : ∃ E, E = retB k ⟨e, ep, n, many⟩ := ⟨_, rfl⟩
  rw [← hE]
  unfold retB at hE
  dsimp only at hE
  rw [if_pos hk] at hE
  have hp := wordC_size e
  have hy := decW_size n hn
  have hz := decW_size ep hep
  have hm5 := decW_size many hm
  have hb : (e != 0) = true := by simpa using hk
  have HP := Lib.hid (fun W => word_r e W)
  have HN := Lib.hid (fun W => rdigits_any n hn W)
  have HM := Lib.hid (fun W => rdigits_any many hm W)
  have HZ := Lib.hid (fun W => rdigits_any ep hep W)
  rw [show (⟨(Lib.decDigits n).toArray⟩ : ByteArray) = decW n from rfl] at HN
  rw [show (⟨(Lib.decDigits many).toArray⟩ : ByteArray) = decW many from rfl] at HM
  rw [show (⟨(Lib.decDigits ep).toArray⟩ : ByteArray) = decW ep from rfl] at HZ
  generalize wordC e = P at *
  generalize decW n = N at *
  generalize decW many = M at *
  generalize decW ep = Z at *
  have HE := Lib.hid hE
  have hX := BX.new w 29 #[.int .i64 e, .int .u64 (ep : Int), .int .u64 (n : Int), .int .u64 (many : Int)] ht
  have HT := Lib.hid ht
  clear hE hep hn hm ht
  go_enter Tryd.func8, Tryd.ntmps8
  go_upto_region 1 with fail
  obtain ⟨W0, hW0⟩ : ∃ X, X = w.alloc (.cells #[.int .i64 e, .int .u64 (ep : Int), .int .u64 (n : Int), .int .u64 (many : Int)] 29) := ⟨_, rfl⟩
  rw [← hW0] at hX ⊢
  clear hW0
  obtain ⟨x0, x1, x2, x3⟩ : _ ∧ _ ∧ _ ∧ _ := ⟨cell_of_row W0 _ 0 _ _ (0, 0) hX.2, cell_of_row W0 _ 1 _ _ (0, 0) hX.2, cell_of_row W0 _ 2 _ _ (0, 0) hX.2, cell_of_row W0 _ 3 _ _ (0, 0) hX.2⟩
  have HX := Lib.hid hX
  clear hX
  go_wp2_with fail
  refine (HP.out _).mono ?_
  rintro _ w1 ⟨rfl, b1⟩
  have HX1 := Lib.hid (HX.out.call b1)
  clear b1 HX x0 x1 x2 x3
  obtain ⟨x0, x1, x2, x3⟩ : _ ∧ _ ∧ _ ∧ _ := ⟨cell_of_row w1 _ 0 _ _ (0, 0) HX1.out.2, cell_of_row w1 _ 1 _ _ (0, 0) HX1.out.2, cell_of_row w1 _ 2 _ _ (0, 0) HX1.out.2, cell_of_row w1 _ 3 _ _ (0, 0) HX1.out.2⟩
  go_wp2
  go_ret
  exact ⟨by rw [HE.out]; rfl, HX1.out.1.1⟩

set_option maxRecDepth 100000 in
set_option maxHeartbeats 2000000 in
theorem rret_6 (k e : Int) (ep n many : Nat) (ho : (R4.mk e ep n many).ok) (he : e = 0) (hk : k = 6) (w : World) (ht : Tab w) :
    Calls Tryd.prog 8 #[.int .i64 k, .agg #[.int .i64 e, .int .u64 (ep : Int), .int .u64 (n : Int), .int .u64 (many : Int)]] w fun r w' => r = .returned (.string (retB k ⟨e, ep, n, many⟩)) ∧ Below w.heap.size w w' := by
  obtain ⟨hep, hn, hm⟩ := ho
  dsimp only at hep hn hm
  subst he
  subst hk
  obtain ⟨E, hE⟩ : ∃ E, E = retB 6 ⟨0, ep, n, many⟩ := ⟨_, rfl⟩
  rw [← hE]
  unfold retB at hE
  dsimp only at hE
  rw [if_neg (by simp), if_pos rfl] at hE
  have hp := wordC_size 0
  have hy := decW_size n hn
  have hz := decW_size ep hep
  have hm5 := decW_size many hm
  have HP := Lib.hid (fun W => word_r 0 W)
  have HN := Lib.hid (fun W => rdigits_any n hn W)
  have HM := Lib.hid (fun W => rdigits_any many hm W)
  have HZ := Lib.hid (fun W => rdigits_any ep hep W)
  rw [show (⟨(Lib.decDigits n).toArray⟩ : ByteArray) = decW n from rfl] at HN
  rw [show (⟨(Lib.decDigits many).toArray⟩ : ByteArray) = decW many from rfl] at HM
  rw [show (⟨(Lib.decDigits ep).toArray⟩ : ByteArray) = decW ep from rfl] at HZ
  generalize wordC 0 = P at *
  generalize decW n = N at *
  generalize decW many = M at *
  generalize decW ep = Z at *
  have HE := Lib.hid hE
  have hX := BX.new w 29 #[.int .i64 0, .int .u64 (ep : Int), .int .u64 (n : Int), .int .u64 (many : Int)] ht
  have HT := Lib.hid ht
  clear hE hep hn hm ht
  go_enter Tryd.func8, Tryd.ntmps8
  go_upto_region 1 with fail
  obtain ⟨W0, hW0⟩ : ∃ X, X = w.alloc (.cells #[.int .i64 0, .int .u64 (ep : Int), .int .u64 (n : Int), .int .u64 (many : Int)] 29) := ⟨_, rfl⟩
  rw [← hW0] at hX ⊢
  clear hW0
  obtain ⟨x0, x1, x2, x3⟩ : _ ∧ _ ∧ _ ∧ _ := ⟨cell_of_row W0 _ 0 _ _ (0, 0) hX.2, cell_of_row W0 _ 1 _ _ (0, 0) hX.2, cell_of_row W0 _ 2 _ _ (0, 0) hX.2, cell_of_row W0 _ 3 _ _ (0, 0) hX.2⟩
  have HX := Lib.hid hX
  clear hX
  go_wp2_with fail
  refine (HP.out _).mono ?_
  rintro _ w1 ⟨rfl, b1⟩
  have HX1 := Lib.hid (HX.out.call b1)
  clear b1 HX x0 x1 x2 x3
  obtain ⟨x0, x1, x2, x3⟩ : _ ∧ _ ∧ _ ∧ _ := ⟨cell_of_row w1 _ 0 _ _ (0, 0) HX1.out.2, cell_of_row w1 _ 1 _ _ (0, 0) HX1.out.2, cell_of_row w1 _ 2 _ _ (0, 0) HX1.out.2, cell_of_row w1 _ 3 _ _ (0, 0) HX1.out.2⟩
  have q1 := add_eq P ⟨#[32]⟩ (by have e : (⟨#[32]⟩ : ByteArray).size = 1 := rfl; omega)
  have s1 : (P ++ ⟨#[32]⟩).size = P.size + 1 := ByteArray.size_append
  generalize P ++ ⟨#[32]⟩ = X1 at q1 s1 HE
  have q2 := add_eq X1 N (by have e : (N : ByteArray).size = N.size := rfl; omega)
  have s2 : (X1 ++ N).size = X1.size + N.size := ByteArray.size_append
  generalize X1 ++ N = X2 at q2 s2 HE
  have q3 := add_eq X2 ⟨#[32]⟩ (by have e : (⟨#[32]⟩ : ByteArray).size = 1 := rfl; omega)
  have s3 : (X2 ++ ⟨#[32]⟩).size = X2.size + 1 := ByteArray.size_append
  generalize X2 ++ ⟨#[32]⟩ = X3 at q3 s3 HE
  have q4 := add_eq X3 M (by have e : (M : ByteArray).size = M.size := rfl; omega)
  have s4 : (X3 ++ M).size = X3.size + M.size := ByteArray.size_append
  generalize X3 ++ M = X4 at q4 s4 HE
  go_upto_region 5 with fail
  have h8 := HX1.out.drew
  clear x0 x1 x2 x3
  refine wp_region_held_drew (S := (fun W => BX w 29 #[.int .i64 0, .int .u64 (ep : Int), .int .u64 (n : Int), .int .u64 (many : Int)] W)) (by kernel_rfl) h8 (fun hHeld => ?_)
  refine wpAnyH_take (i := 0) (oi := _) (v := ?_) rfl (by kernel_rfl) (by kernel_rfl) (by kernel_rfl) (fun _ _ _ h => h) (Or.inl ⟨by rfl, ?_⟩) (by assumption) ?_
  rotate_left
  · (intro W hSw; clear hSw; go_simp; try with_reducible rfl)
  try simp only [Act.put, List.getElem_toArray, List.getElem_cons_zero, List.setIfInBounds_toArray, List.set_cons_zero, List.set_cons_succ]
  refine wpAnyH_take (i := 1) (oi := _) (v := ?_) rfl (by kernel_rfl) (by kernel_rfl) (by kernel_rfl) (fun _ _ _ h => h) (Or.inl ⟨by rfl, ?_⟩) (by assumption) ?_
  rotate_left
  · (intro W hSw; clear hSw; go_simp; try with_reducible rfl)
  try simp only [Act.put, List.getElem_toArray, List.getElem_cons_succ, List.getElem_cons_zero, List.setIfInBounds_toArray, List.set_cons_zero, List.set_cons_succ]
  refine wpAnyH_take (i := 2) (oi := _) (v := ?_) rfl (by kernel_rfl) (by kernel_rfl) (by kernel_rfl) (fun _ _ _ h => h) (Or.inl ⟨by rfl, ?_⟩) (by assumption) ?_
  rotate_left
  · (intro W hSw; clear hSw; go_simp; try with_reducible rfl)
  try simp only [Act.put, List.getElem_toArray, List.getElem_cons_succ, List.getElem_cons_zero, List.setIfInBounds_toArray, List.set_cons_zero, List.set_cons_succ]
  refine wpAnyH_take (i := 3) (oi := _) (v := ?_) rfl (by kernel_rfl) (by kernel_rfl) (by kernel_rfl) (fun _ _ _ h => h) (Or.inl ⟨by rfl, ?_⟩) (by assumption) ?_
  rotate_left
  · (intro W hSw; (obtain ⟨y0, y1, y2, y3⟩ : _ ∧ _ ∧ _ ∧ _ := ⟨cell_of_row W _ 0 _ _ (0, 0) hSw.2, cell_of_row W _ 1 _ _ (0, 0) hSw.2, cell_of_row W _ 2 _ _ (0, 0) hSw.2, cell_of_row W _ 3 _ _ (0, 0) hSw.2⟩; clear hSw; go_simp; try with_reducible rfl))
  try simp only [Act.put, List.getElem_toArray, List.getElem_cons_succ, List.getElem_cons_zero, List.setIfInBounds_toArray, List.set_cons_zero, List.set_cons_succ]
  refine wpAnyH_take (i := 7) (oi := _) (v := ?_) rfl (by kernel_rfl) (by kernel_rfl) (by kernel_rfl) (fun _ _ _ h => h) (Or.inl ⟨by rfl, ?_⟩) (by assumption) ?_
  rotate_left
  · (intro W hSw; clear hSw; go_simp; try with_reducible rfl)
  try simp only [Act.put, List.getElem_toArray, List.getElem_cons_succ, List.getElem_cons_zero, List.setIfInBounds_toArray, List.set_cons_zero, List.set_cons_succ]
  refine wpAnyH_take (i := 8) (oi := _) (v := ?_) rfl (by kernel_rfl) (by kernel_rfl) (by kernel_rfl) (fun _ _ _ h => h) (Or.inl ⟨by rfl, ?_⟩) (by assumption) ?_
  rotate_left
  · (intro W hSw; (obtain ⟨y0, y1, y2, y3⟩ : _ ∧ _ ∧ _ ∧ _ := ⟨cell_of_row W _ 0 _ _ (0, 0) hSw.2, cell_of_row W _ 1 _ _ (0, 0) hSw.2, cell_of_row W _ 2 _ _ (0, 0) hSw.2, cell_of_row W _ 3 _ _ (0, 0) hSw.2⟩; clear hSw; go_simp; try with_reducible rfl))
  try simp only [Act.put, List.getElem_toArray, List.getElem_cons_succ, List.getElem_cons_zero, List.setIfInBounds_toArray, List.set_cons_zero, List.set_cons_succ]
  refine wpAnyH_ready (rs := [4]) (by kernel_rfl) (by simp) ?_
  refine AllReadyH.cons rfl (fun K hK => ?_) AllReadyH.nil
  simp only [List.getElem_toArray, List.getElem_cons_succ, List.getElem_cons_zero]
  rw [if_pos (by rfl)]
  go_simp
  (go_at_call 20; refine (HN.out _).mono ?_; rintro _ v1 ⟨rfl, b1⟩; have g1 := hHeld.call b1)
  go_wp2_with fail
  refine hK.out _ _ g1 (fun hHeld => ?_)
  clear hK K
  try simp only [Act.put, List.getElem_toArray, List.getElem_cons_succ, List.getElem_cons_zero, List.setIfInBounds_toArray, List.set_cons_zero, List.set_cons_succ]
  refine wpAnyH_take (i := 5) (oi := _) (v := ?_) rfl (by kernel_rfl) (by kernel_rfl) (by kernel_rfl) (fun _ _ _ h => h) (Or.inl ⟨by rfl, ?_⟩) (by assumption) ?_
  rotate_left
  · (intro W hSw; clear hSw; go_simp; try with_reducible rfl)
  try simp only [Act.put, List.getElem_toArray, List.getElem_cons_succ, List.getElem_cons_zero, List.setIfInBounds_toArray, List.set_cons_zero, List.set_cons_succ]
  refine wpAnyH_take (i := 6) (oi := _) (v := ?_) rfl (by kernel_rfl) (by kernel_rfl) (by kernel_rfl) (fun _ _ _ h => h) (Or.inl ⟨by rfl, ?_⟩) (by assumption) ?_
  rotate_left
  · (intro W hSw; clear hSw; go_simp; try with_reducible rfl)
  try simp only [Act.put, List.getElem_toArray, List.getElem_cons_succ, List.getElem_cons_zero, List.setIfInBounds_toArray, List.set_cons_zero, List.set_cons_succ]
  refine wpAnyH_ready (rs := [9]) (by kernel_rfl) (by simp) ?_
  refine AllReadyH.cons rfl (fun K hK => ?_) AllReadyH.nil
  simp only [List.getElem_toArray, List.getElem_cons_succ, List.getElem_cons_zero]
  rw [if_pos (by rfl)]
  go_simp
  (go_at_call 20; refine (HM.out _).mono ?_; rintro _ v2 ⟨rfl, b2⟩; have g2 := g1.call b2)
  go_wp2_with fail
  refine hK.out _ _ g2 (fun hHeld => ?_)
  clear hK K
  try simp only [Act.put, List.getElem_toArray, List.getElem_cons_succ, List.getElem_cons_zero, List.setIfInBounds_toArray, List.set_cons_zero, List.set_cons_succ]
  refine wpAnyH_take (i := 10) (oi := _) (v := ?_) rfl (by kernel_rfl) (by kernel_rfl) (by kernel_rfl) (fun _ _ _ h => h) (Or.inl ⟨by rfl, ?_⟩) (by assumption) ?_
  rotate_left
  · (intro W hSw; clear hSw; go_simp; try with_reducible rfl)
  try simp only [Act.put, List.getElem_toArray, List.getElem_cons_succ, List.getElem_cons_zero, List.setIfInBounds_toArray, List.set_cons_zero, List.set_cons_succ]
  refine wpAnyH_take (i := 11) (oi := _) (v := ?_) rfl (by kernel_rfl) (by kernel_rfl) (by kernel_rfl) (fun _ _ _ h => h) (Or.inl ⟨by rfl, ?_⟩) (by assumption) ?_
  rotate_left
  · (intro W hSw; clear hSw; go_simp; try with_reducible rfl)
  try simp only [Act.put, List.getElem_toArray, List.getElem_cons_succ, List.getElem_cons_zero, List.setIfInBounds_toArray, List.set_cons_zero, List.set_cons_succ]
  refine wpAnyH_done (by kernel_rfl) ?_ _
  have HX2 := Lib.hid g2
  clear h8 g1 g2 b1 b2 HX1
  obtain ⟨x0, x1, x2, x3⟩ : _ ∧ _ ∧ _ ∧ _ := ⟨cell_of_row v2 _ 0 _ _ (0, 0) HX2.out.2, cell_of_row v2 _ 1 _ _ (0, 0) HX2.out.2, cell_of_row v2 _ 2 _ _ (0, 0) HX2.out.2, cell_of_row v2 _ 3 _ _ (0, 0) HX2.out.2⟩
  have q5 := add_eq X4 ⟨#[32, 105, 110, 32]⟩ (by have e : (⟨#[32, 105, 110, 32]⟩ : ByteArray).size = 4 := rfl; omega)
  have s5 : (X4 ++ ⟨#[32, 105, 110, 32]⟩).size = X4.size + 4 := ByteArray.size_append
  generalize X4 ++ ⟨#[32, 105, 110, 32]⟩ = X5 at q5 s5 HE
  have q6 := add_eq X5 Z (by omega)
  go_wp2_with fail
  refine (HZ.out _).mono ?_
  rintro _ w3 ⟨rfl, b1⟩
  have HX3 := Lib.hid (HX2.out.call b1)
  clear b1 HX2 x0 x1 x2 x3
  go_wp2
  go_ret
  exact ⟨by rw [HE.out]; rfl, HX3.out.1.1⟩

set_option maxRecDepth 100000 in
set_option maxHeartbeats 2000000 in
theorem rret_9 (k e : Int) (ep n many : Nat) (ho : (R4.mk e ep n many).ok) (he : e = 0) (hk : k = 9) (w : World) (ht : Tab w) :
    Calls Tryd.prog 8 #[.int .i64 k, .agg #[.int .i64 e, .int .u64 (ep : Int), .int .u64 (n : Int), .int .u64 (many : Int)]] w fun r w' => r = .returned (.string (retB k ⟨e, ep, n, many⟩)) ∧ Below w.heap.size w w' := by
  obtain ⟨hep, hn, hm⟩ := ho
  dsimp only at hep hn hm
  subst he
  subst hk
  obtain ⟨E, hE⟩ : ∃ E, E = retB 9 ⟨0, ep, n, many⟩ := ⟨_, rfl⟩
  rw [← hE]
  unfold retB at hE
  dsimp only at hE
  rw [if_neg (by simp), if_neg (by omega), if_pos rfl] at hE
  have hp := wordC_size 0
  have hy := decW_size n hn
  have hz := decW_size ep hep
  have hm5 := decW_size many hm
  have HP := Lib.hid (fun W => word_r 0 W)
  have HN := Lib.hid (fun W => rdigits_any n hn W)
  have HM := Lib.hid (fun W => rdigits_any many hm W)
  have HZ := Lib.hid (fun W => rdigits_any ep hep W)
  rw [show (⟨(Lib.decDigits n).toArray⟩ : ByteArray) = decW n from rfl] at HN
  rw [show (⟨(Lib.decDigits many).toArray⟩ : ByteArray) = decW many from rfl] at HM
  rw [show (⟨(Lib.decDigits ep).toArray⟩ : ByteArray) = decW ep from rfl] at HZ
  generalize wordC 0 = P at *
  generalize decW n = N at *
  generalize decW many = M at *
  generalize decW ep = Z at *
  have HE := Lib.hid hE
  have hX := BX.new w 29 #[.int .i64 0, .int .u64 (ep : Int), .int .u64 (n : Int), .int .u64 (many : Int)] ht
  have HT := Lib.hid ht
  clear hE hep hn hm ht
  go_enter Tryd.func8, Tryd.ntmps8
  go_upto_region 1 with fail
  obtain ⟨W0, hW0⟩ : ∃ X, X = w.alloc (.cells #[.int .i64 0, .int .u64 (ep : Int), .int .u64 (n : Int), .int .u64 (many : Int)] 29) := ⟨_, rfl⟩
  rw [← hW0] at hX ⊢
  clear hW0
  obtain ⟨x0, x1, x2, x3⟩ : _ ∧ _ ∧ _ ∧ _ := ⟨cell_of_row W0 _ 0 _ _ (0, 0) hX.2, cell_of_row W0 _ 1 _ _ (0, 0) hX.2, cell_of_row W0 _ 2 _ _ (0, 0) hX.2, cell_of_row W0 _ 3 _ _ (0, 0) hX.2⟩
  have HX := Lib.hid hX
  clear hX
  go_wp2_with fail
  refine (HP.out _).mono ?_
  rintro _ w1 ⟨rfl, b1⟩
  have HX1 := Lib.hid (HX.out.call b1)
  clear b1 HX x0 x1 x2 x3
  obtain ⟨x0, x1, x2, x3⟩ : _ ∧ _ ∧ _ ∧ _ := ⟨cell_of_row w1 _ 0 _ _ (0, 0) HX1.out.2, cell_of_row w1 _ 1 _ _ (0, 0) HX1.out.2, cell_of_row w1 _ 2 _ _ (0, 0) HX1.out.2, cell_of_row w1 _ 3 _ _ (0, 0) HX1.out.2⟩
  have q1 := add_eq P ⟨#[32, 105, 110, 32]⟩ (by have e : (⟨#[32, 105, 110, 32]⟩ : ByteArray).size = 4 := rfl; omega)
  have s1 : (P ++ ⟨#[32, 105, 110, 32]⟩).size = P.size + 4 := ByteArray.size_append
  generalize P ++ ⟨#[32, 105, 110, 32]⟩ = X1 at q1 s1 HE
  have q2 := add_eq X1 Z (by omega)
  go_wp2_with fail
  refine (HZ.out _).mono ?_
  rintro _ w2 ⟨rfl, b1⟩
  have HX2 := Lib.hid (HX1.out.call b1)
  clear b1 HX1 x0 x1 x2 x3
  go_wp2
  go_ret
  exact ⟨by rw [HE.out]; rfl, HX2.out.1.1⟩

set_option maxRecDepth 100000 in
set_option maxHeartbeats 2000000 in
theorem rret_10 (k e : Int) (ep n many : Nat) (ho : (R4.mk e ep n many).ok) (he : e = 0) (hk : k = 10) (w : World) (ht : Tab w) :
    Calls Tryd.prog 8 #[.int .i64 k, .agg #[.int .i64 e, .int .u64 (ep : Int), .int .u64 (n : Int), .int .u64 (many : Int)]] w fun r w' => r = .returned (.string (retB k ⟨e, ep, n, many⟩)) ∧ Below w.heap.size w w' := by
  obtain ⟨hep, hn, hm⟩ := ho
  dsimp only at hep hn hm
  subst he
  subst hk
  obtain ⟨E, hE⟩ : ∃ E, E = retB 10 ⟨0, ep, n, many⟩ := ⟨_, rfl⟩
  rw [← hE]
  unfold retB at hE
  dsimp only at hE
  rw [if_neg (by simp), if_neg (by omega), if_neg (by omega), if_pos rfl] at hE
  have hp := wordC_size 0
  have hy := decW_size n hn
  have hz := decW_size ep hep
  have hm5 := decW_size many hm
  have HP := Lib.hid (fun W => word_r 0 W)
  have HN := Lib.hid (fun W => rdigits_any n hn W)
  have HM := Lib.hid (fun W => rdigits_any many hm W)
  have HZ := Lib.hid (fun W => rdigits_any ep hep W)
  rw [show (⟨(Lib.decDigits n).toArray⟩ : ByteArray) = decW n from rfl] at HN
  rw [show (⟨(Lib.decDigits many).toArray⟩ : ByteArray) = decW many from rfl] at HM
  rw [show (⟨(Lib.decDigits ep).toArray⟩ : ByteArray) = decW ep from rfl] at HZ
  generalize wordC 0 = P at *
  generalize decW n = N at *
  generalize decW many = M at *
  generalize decW ep = Z at *
  have HE := Lib.hid hE
  have hX := BX.new w 29 #[.int .i64 0, .int .u64 (ep : Int), .int .u64 (n : Int), .int .u64 (many : Int)] ht
  have HT := Lib.hid ht
  clear hE hep hn hm ht
  go_enter Tryd.func8, Tryd.ntmps8
  go_upto_region 1 with fail
  obtain ⟨W0, hW0⟩ : ∃ X, X = w.alloc (.cells #[.int .i64 0, .int .u64 (ep : Int), .int .u64 (n : Int), .int .u64 (many : Int)] 29) := ⟨_, rfl⟩
  rw [← hW0] at hX ⊢
  clear hW0
  obtain ⟨x0, x1, x2, x3⟩ : _ ∧ _ ∧ _ ∧ _ := ⟨cell_of_row W0 _ 0 _ _ (0, 0) hX.2, cell_of_row W0 _ 1 _ _ (0, 0) hX.2, cell_of_row W0 _ 2 _ _ (0, 0) hX.2, cell_of_row W0 _ 3 _ _ (0, 0) hX.2⟩
  have HX := Lib.hid hX
  clear hX
  go_wp2_with fail
  refine (HP.out _).mono ?_
  rintro _ w1 ⟨rfl, b1⟩
  have HX1 := Lib.hid (HX.out.call b1)
  clear b1 HX x0 x1 x2 x3
  obtain ⟨x0, x1, x2, x3⟩ : _ ∧ _ ∧ _ ∧ _ := ⟨cell_of_row w1 _ 0 _ _ (0, 0) HX1.out.2, cell_of_row w1 _ 1 _ _ (0, 0) HX1.out.2, cell_of_row w1 _ 2 _ _ (0, 0) HX1.out.2, cell_of_row w1 _ 3 _ _ (0, 0) HX1.out.2⟩
  have q1 := add_eq P ⟨#[32]⟩ (by have e : (⟨#[32]⟩ : ByteArray).size = 1 := rfl; omega)
  have s1 : (P ++ ⟨#[32]⟩).size = P.size + 1 := ByteArray.size_append
  generalize P ++ ⟨#[32]⟩ = X1 at q1 s1 HE
  have q2 := add_eq X1 N (by omega)
  go_wp2_with fail
  refine (HN.out _).mono ?_
  rintro _ w2 ⟨rfl, b1⟩
  have HX2 := Lib.hid (HX1.out.call b1)
  clear b1 HX1 x0 x1 x2 x3
  go_wp2
  go_ret
  exact ⟨by rw [HE.out]; rfl, HX2.out.1.1⟩

set_option maxRecDepth 100000 in
set_option maxHeartbeats 2000000 in
theorem rret_else (k e : Int) (ep n many : Nat) (ho : (R4.mk e ep n many).ok) (he : e = 0) (hk : k ≠ 6 ∧ k ≠ 9 ∧ k ≠ 10) (w : World) (ht : Tab w) :
    Calls Tryd.prog 8 #[.int .i64 k, .agg #[.int .i64 e, .int .u64 (ep : Int), .int .u64 (n : Int), .int .u64 (many : Int)]] w fun r w' => r = .returned (.string (retB k ⟨e, ep, n, many⟩)) ∧ Below w.heap.size w w' := by
  obtain ⟨hep, hn, hm⟩ := ho
  dsimp only at hep hn hm
  subst he
  obtain ⟨E, hE⟩ : ∃ E, E = retB k ⟨0, ep, n, many⟩ := ⟨_, rfl⟩
  rw [← hE]
  unfold retB at hE
  dsimp only at hE
  rw [if_neg (by simp), if_neg (by omega), if_neg (by omega), if_neg (by omega)] at hE
  have hp := wordC_size 0
  have hy := decW_size n hn
  have hz := decW_size ep hep
  have hm5 := decW_size many hm
  have k6 : (k == 6) = false := by simp; omega
  have k9 : (k == 9) = false := by simp; omega
  have k10 : (k == 10) = false := by simp; omega
  have HP := Lib.hid (fun W => word_r 0 W)
  have HN := Lib.hid (fun W => rdigits_any n hn W)
  have HM := Lib.hid (fun W => rdigits_any many hm W)
  have HZ := Lib.hid (fun W => rdigits_any ep hep W)
  rw [show (⟨(Lib.decDigits n).toArray⟩ : ByteArray) = decW n from rfl] at HN
  rw [show (⟨(Lib.decDigits many).toArray⟩ : ByteArray) = decW many from rfl] at HM
  rw [show (⟨(Lib.decDigits ep).toArray⟩ : ByteArray) = decW ep from rfl] at HZ
  generalize wordC 0 = P at *
  generalize decW n = N at *
  generalize decW many = M at *
  generalize decW ep = Z at *
  have HE := Lib.hid hE
  have hX := BX.new w 29 #[.int .i64 0, .int .u64 (ep : Int), .int .u64 (n : Int), .int .u64 (many : Int)] ht
  have HT := Lib.hid ht
  clear hE hep hn hm ht
  go_enter Tryd.func8, Tryd.ntmps8
  go_upto_region 1 with fail
  obtain ⟨W0, hW0⟩ : ∃ X, X = w.alloc (.cells #[.int .i64 0, .int .u64 (ep : Int), .int .u64 (n : Int), .int .u64 (many : Int)] 29) := ⟨_, rfl⟩
  rw [← hW0] at hX ⊢
  clear hW0
  obtain ⟨x0, x1, x2, x3⟩ : _ ∧ _ ∧ _ ∧ _ := ⟨cell_of_row W0 _ 0 _ _ (0, 0) hX.2, cell_of_row W0 _ 1 _ _ (0, 0) hX.2, cell_of_row W0 _ 2 _ _ (0, 0) hX.2, cell_of_row W0 _ 3 _ _ (0, 0) hX.2⟩
  have HX := Lib.hid hX
  clear hX
  go_wp2_with fail
  refine (HP.out _).mono ?_
  rintro _ w1 ⟨rfl, b1⟩
  have HX1 := Lib.hid (HX.out.call b1)
  clear b1 HX x0 x1 x2 x3
  obtain ⟨x0, x1, x2, x3⟩ : _ ∧ _ ∧ _ ∧ _ := ⟨cell_of_row w1 _ 0 _ _ (0, 0) HX1.out.2, cell_of_row w1 _ 1 _ _ (0, 0) HX1.out.2, cell_of_row w1 _ 2 _ _ (0, 0) HX1.out.2, cell_of_row w1 _ 3 _ _ (0, 0) HX1.out.2⟩
  go_wp2
  go_ret
  exact ⟨by rw [HE.out]; rfl, HX1.out.1.1⟩

theorem rret_any (k : Int) (r : R4) (ho : r.ok) (w : World) (ht : Tab w) :
    Calls Tryd.prog 8 #[.int .i64 k, .agg r.cells] w fun e w' => e = .returned (.string (retB k r)) ∧ Below w.heap.size w w' := by
  obtain ⟨e, ep, n, many⟩ := r
  by_cases he : e = 0
  · by_cases h6 : k = 6
    · exact rret_6 k e ep n many ho he h6 w ht
    · by_cases h9 : k = 9
      · exact rret_9 k e ep n many ho he h9 w ht
      · by_cases h10 : k = 10
        · exact rret_10 k e ep n many ho he h10 w ht
        · exact rret_else k e ep n many ho he ⟨h6, h9, h10⟩ w ht
  · exact rret_err k e ep n many ho he w ht
end Go.Proofs.YtpakefgbjncdiadDoor.Rep
