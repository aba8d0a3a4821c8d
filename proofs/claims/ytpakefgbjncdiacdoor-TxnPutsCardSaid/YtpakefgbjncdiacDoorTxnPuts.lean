import Derived.Test.YtpakefgbjncdiacDoorTxnSum
import Derived.Test.YtpakefgbjncdiacDoorTxnRead
import Derived.Test.YtpakefgbjncdiacDoorTxnTail
import Derived.Test.YtpakefgbjncdiacDoorTxnTail
import Derived.Test.YtpakefgbjncdiacDoorTxnTail
import Derived.Deep.RegionHeld3
/- The law TxnPuts. -/
namespace Go.Proofs.YtpakefgbjncdiacDoor.Msg
open Go Go.RowKit Num Texts txnApart

set_option maxRecDepth 100000 in
set_option maxHeartbeats 1000000 in
theorem puts_mid (t : T4) (r : Bool) (s : ByteArray) (e0 : Int) (w : World) (hg : Sha.Tab w)
    (hfew : ∀ W, Below w.heap.size w W → Calls Tryd.prog 4 #[.agg #[.int .i64 t.side, .int .i64 t.acc, .int .u64 t.n, .slice t.A t.len t.cap]] W fun e w' => (∃ b, e = .returned (.bool b)) ∧ Below W.heap.size W w')
    (hput : ∀ W, Below w.heap.size w W → Calls Tryd.prog 6 #[.agg #[.int .i64 t.side, .int .i64 t.acc, .int .u64 t.n, .slice t.A t.len t.cap]] W fun e w' => e = .returned (.tuple #[.string s, .int .i64 e0]) ∧ Below W.heap.size W w')
    (hri : ∀ W, Below w.heap.size w W → Calls Tryd.prog 7 #[.agg t.cells] W fun e w' => e = .returned (.bool r) ∧ Below W.heap.size W w')
    (hrr : ∀ W, Below w.heap.size w W → Calls Tryd.prog 8 #[.agg t.cells] W fun e w' => e = .returned (.bool r) ∧ Below W.heap.size W w')
    (C : Array Value) (heq : ∀ W, (Op.equalIn 10000 32 (.agg C) (.agg C)).run Tryd.prog W = .ok true W)
    (hsu : ∀ W, Sha.Tab W → Below w.heap.size w W → Calls Tryd.prog 9 #[.agg t.cells] W fun e w' => e = .returned (.agg C) ∧ Below W.heap.size W w')
    (hsr : ∀ W, Below w.heap.size w W → Calls Tryd.prog 10 #[.agg t.cells] W fun e w' => e = .returned (.agg C) ∧ Below W.heap.size W w')
    (hend : r = false ∧ s = ⟨#[]⟩ ∧ e0 = 1 ∨ (r = true ∧ e0 = 0 ∧ s.size ≤ 1000000
      ∧ (∀ W, Calls Tryd.prog 11 #[.string s] W fun e w' => (∃ A1 c1, e = .returned (.tuple #[.agg #[.int .i64 t.side, .int .i64 t.acc, .int .u64 t.n, .slice A1 t.ms.length c1], .int .i64 0]) ∧ Rd w' A1 t.ms.length t.ms) ∧ Below W.heap.size W w')
      ∧ (∀ W, Below w.heap.size w W → Calls Tryd.prog 12 #[.agg #[.int .i64 t.side, .int .i64 t.acc, .int .u64 t.n, .slice t.A t.len t.cap]] W fun e w' => e = .returned (.string s) ∧ Below W.heap.size W w')
      ∧ (∀ A1 c1 W, Below w.heap.size w W → Rd W A1 t.ms.length t.ms → Calls Tryd.prog 13 #[.agg #[.int .i64 t.side, .int .i64 t.acc, .int .u64 t.n, .slice A1 t.ms.length c1], .agg #[.int .i64 t.side, .int .i64 t.acc, .int .u64 t.n, .slice t.A t.len t.cap]] W fun e w' => e = .returned (.bool true) ∧ Below W.heap.size W w'))) :
    Calls Tryd.prog 3 #[.agg t.cells] w fun e w' => e = .returned (.bool true) ∧ Below w.heap.size w w' := by
  have HFe := Lib.hid hfew
  have HPu := Lib.hid hput
  have HRi := Lib.hid hri
  have HRr := Lib.hid hrr
  have HEq := Lib.hid heq
  have HSu := Lib.hid hsu
  have HSr := Lib.hid hsr
  have HEnd := Lib.hid hend
  have HG := Lib.hid hg
  clear hfew hput hri hrr heq hsu hsr hend hg
  unfold T4.cells
  go_enter Tryd.func3, Tryd.ntmps3
  go_upto_region 1 with fail
  obtain ⟨W0, hW⟩ : ∃ X, X = w.alloc (.cells #[.int .i64 t.side, .int .i64 t.acc, .int .u64 t.n, .slice t.A t.len t.cap] 25) := ⟨_, rfl⟩
  rw [← hW]
  have hA : W0.heap[w.heap.size]? = some (.cells t.cells 25 (0, 0)) := by rw [hW]; exact heap_alloc_new _ _
  have hB : Below w.heap.size w W0 := by rw [hW]; exact (Below.refl _ _).alloc (Nat.le_refl _) _
  have G0 := Lib.hid (show (Below w.heap.size w W0 ∧ Sha.Tab W0) ∧ W0.heap[w.heap.size]? = some (.cells t.cells 25 (0, 0)) from ⟨⟨hB, Sha.tab_below HG.out hB⟩, hA⟩)
  clear hW hB
  obtain ⟨c0, c1, c2, c3⟩ : _ ∧ _ ∧ _ ∧ _ := ⟨cell_of_row W0 _ 0 _ _ (0, 0) hA, cell_of_row W0 _ 1 _ _ (0, 0) hA, cell_of_row W0 _ 2 _ _ (0, 0) hA, cell_of_row W0 _ 3 _ _ (0, 0) hA⟩
  clear hA
  unfold T4.cells at c0 c1 c2 c3
  go_wp2_with fail
  refine (HFe.out _ G0.out.1.1).mono ?_
  rintro _ u1 ⟨⟨b, rfl⟩, b1⟩
  have G1 := Lib.hid (Sha.keepS G0.out b1)
  clear b1 c0 c1 c2 c3 G0
  cases b with
  | false =>
    go_wp2_with fail
    refine (awake_any _).mono ?_
    rintro _ w3 ⟨rfl, b3⟩
    have G3 := Lib.hid (Sha.keepS G1.out b3)
    clear b3
    go_wp2
    go_ret
    exact ⟨rfl, G3.out.1.1⟩
  | true =>
  obtain ⟨c0, c1, c2, c3⟩ : _ ∧ _ ∧ _ ∧ _ := ⟨cell_of_row u1 _ 0 _ _ (0, 0) G1.out.2, cell_of_row u1 _ 1 _ _ (0, 0) G1.out.2, cell_of_row u1 _ 2 _ _ (0, 0) G1.out.2, cell_of_row u1 _ 3 _ _ (0, 0) G1.out.2⟩
  unfold T4.cells at c0 c1 c2 c3
  go_wp2_with fail
  refine (HPu.out _ G1.out.1.1).mono ?_
  rintro _ w1 ⟨rfl, b1⟩
  have h4 := Sha.keepS G1.out b1.drew
  clear b1 c0 c1 c2 c3
  go_upto_region 4 with fail
  refine wp_region_held_drew (S := (fun W => (Below w.heap.size w W ∧ Sha.Tab W) ∧ W.heap[w.heap.size]? = some (.cells t.cells 25 (0, 0)))) (by kernel_rfl) h4 (fun hHeld => ?_)
  refine wpAnyH_take (i := 0) (oi := _) (v := ?_) rfl (by kernel_rfl) (by kernel_rfl) (by kernel_rfl) (fun _ _ _ h => h) (Or.inl ⟨by rfl, ?_⟩) (by assumption) ?_
  rotate_left
  · (intro W hSw; (refine Sha.yields_row 25 (.tmp 1) ?_ w.heap.size ?_ 25 t.cells (0, 0) _ hSw.2 Tryd.underlying25 rfl ?_); rfl; rfl; kernel_rfl)
  try simp only [Act.put, List.getElem_toArray, List.getElem_cons_zero, List.setIfInBounds_toArray, List.set_cons_zero, List.set_cons_succ]
  refine wpAnyH_take (i := 2) (oi := _) (v := ?_) rfl (by kernel_rfl) (by kernel_rfl) (by kernel_rfl) (fun _ _ _ h => h) (Or.inl ⟨by rfl, ?_⟩) (by assumption) ?_
  rotate_left
  · (intro W hSw; (refine Sha.yields_row 25 (.tmp 1) ?_ w.heap.size ?_ 25 t.cells (0, 0) _ hSw.2 Tryd.underlying25 rfl ?_); rfl; rfl; kernel_rfl)
  try simp only [Act.put, List.getElem_toArray, List.getElem_cons_succ, List.getElem_cons_zero, List.setIfInBounds_toArray, List.set_cons_zero, List.set_cons_succ]
  refine wpAnyH_ready (rs := [1]) (by kernel_rfl) (by simp) ?_
  refine AllReadyH.cons rfl (fun K hK => ?_) AllReadyH.nil
  simp only [List.getElem_toArray, List.getElem_cons_succ, List.getElem_cons_zero]
  rw [if_pos (by rfl)]
  go_simp
  (go_at_call 7; refine (HRi.out _ hHeld.1.1).mono ?_; rintro _ v1 ⟨rfl, b1⟩; have g1 := Sha.keepS hHeld b1)
  go_wp2_with fail
  refine hK.out _ _ g1 (fun hHeld => ?_)
  clear hK K
  try simp only [Act.put, List.getElem_toArray, List.getElem_cons_succ, List.getElem_cons_zero, List.setIfInBounds_toArray, List.set_cons_zero, List.set_cons_succ]
  refine wpAnyH_ready (rs := [3]) (by kernel_rfl) (by simp) ?_
  refine AllReadyH.cons rfl (fun K hK => ?_) AllReadyH.nil
  simp only [List.getElem_toArray, List.getElem_cons_succ, List.getElem_cons_zero]
  rw [if_pos (by rfl)]
  go_simp
  (go_at_call 8; refine (HRr.out _ g1.1.1).mono ?_; rintro _ v2 ⟨rfl, b2⟩; have g2 := Sha.keepS g1 b2)
  go_wp2_with fail
  refine hK.out _ _ g2 (fun hHeld => ?_)
  clear hK K
  try simp only [Act.put, List.getElem_toArray, List.getElem_cons_succ, List.getElem_cons_zero, List.setIfInBounds_toArray, List.set_cons_zero, List.set_cons_succ]
  refine wpAnyH_take (i := 4) (oi := _) (v := ?_) rfl (by kernel_rfl) (by kernel_rfl) (by kernel_rfl) (fun _ _ _ h => h) (Or.inl ⟨by rfl, ?_⟩) (by assumption) ?_
  rotate_left
  · (intro W hSw; (try dsimp only at hSw); go_simp; try with_reducible rfl)
  try simp only [Act.put, List.getElem_toArray, List.getElem_cons_succ, List.getElem_cons_zero, List.setIfInBounds_toArray, List.set_cons_zero, List.set_cons_succ]
  refine wpAnyH_take (i := 5) (oi := _) (v := ?_) rfl (by kernel_rfl) (by kernel_rfl) (by kernel_rfl) (fun _ _ _ h => h) (Or.inl ⟨by rfl, ?_⟩) (by assumption) ?_
  rotate_left
  · (intro W hSw; (try dsimp only at hSw); go_simp; try with_reducible rfl)
  try simp only [Act.put, List.getElem_toArray, List.getElem_cons_succ, List.getElem_cons_zero, List.setIfInBounds_toArray, List.set_cons_zero, List.set_cons_succ]
  refine wpAnyH_take (i := 6) (oi := _) (v := ?_) rfl (by kernel_rfl) (by kernel_rfl) (by kernel_rfl) (fun _ _ _ h => h) (Or.inl ⟨by rfl, ?_⟩) (by assumption) ?_
  rotate_left
  · (intro W hSw; (refine Sha.yields_row 25 (.tmp 1) ?_ w.heap.size ?_ 25 t.cells (0, 0) _ hSw.2 Tryd.underlying25 rfl ?_); rfl; rfl; kernel_rfl)
  try simp only [Act.put, List.getElem_toArray, List.getElem_cons_succ, List.getElem_cons_zero, List.setIfInBounds_toArray, List.set_cons_zero, List.set_cons_succ]
  refine wpAnyH_take (i := 8) (oi := _) (v := ?_) rfl (by kernel_rfl) (by kernel_rfl) (by kernel_rfl) (fun _ _ _ h => h) (Or.inl ⟨by rfl, ?_⟩) (by assumption) ?_
  rotate_left
  · (intro W hSw; (refine Sha.yields_row 25 (.tmp 1) ?_ w.heap.size ?_ 25 t.cells (0, 0) _ hSw.2 Tryd.underlying25 rfl ?_); rfl; rfl; kernel_rfl)
  try simp only [Act.put, List.getElem_toArray, List.getElem_cons_succ, List.getElem_cons_zero, List.setIfInBounds_toArray, List.set_cons_zero, List.set_cons_succ]
  refine wpAnyH_ready (rs := [7]) (by kernel_rfl) (by simp) ?_
  refine AllReadyH.cons rfl (fun K hK => ?_) AllReadyH.nil
  simp only [List.getElem_toArray, List.getElem_cons_succ, List.getElem_cons_zero]
  rw [if_pos (by rfl)]
  go_simp
  (go_at_call 9; refine (HSu.out _ g2.1.2 g2.1.1).mono ?_; rintro _ v3 ⟨rfl, b3⟩; have g3 := Sha.keepS g2 b3)
  go_wp2_with fail
  refine hK.out _ _ g3 (fun hHeld => ?_)
  clear hK K
  try simp only [Act.put, List.getElem_toArray, List.getElem_cons_succ, List.getElem_cons_zero, List.setIfInBounds_toArray, List.set_cons_zero, List.set_cons_succ]
  refine wpAnyH_ready (rs := [9]) (by kernel_rfl) (by simp) ?_
  refine AllReadyH.cons rfl (fun K hK => ?_) AllReadyH.nil
  simp only [List.getElem_toArray, List.getElem_cons_succ, List.getElem_cons_zero]
  rw [if_pos (by rfl)]
  go_simp
  (go_at_call 10; refine (HSr.out _ g3.1.1).mono ?_; rintro _ v4 ⟨rfl, b4⟩; have g4 := Sha.keepS g3 b4)
  go_wp2_with fail
  refine hK.out _ _ g4 (fun hHeld => ?_)
  clear hK K
  try simp only [Act.put, List.getElem_toArray, List.getElem_cons_succ, List.getElem_cons_zero, List.setIfInBounds_toArray, List.set_cons_zero, List.set_cons_succ]
  refine wpAnyH_take (i := 10) (oi := _) (v := ?_) rfl (by kernel_rfl) (by kernel_rfl) (by kernel_rfl) (fun _ _ _ h => h) (Or.inl ⟨by rfl, ?_⟩) (by assumption) ?_
  rotate_left
  · (intro W hSw; go_simp; rw [HEq.out]; rfl)
  try simp only [Act.put, List.getElem_toArray, List.getElem_cons_succ, List.getElem_cons_zero, List.setIfInBounds_toArray, List.set_cons_zero, List.set_cons_succ]
  refine wpAnyH_take (i := 11) (oi := _) (v := ?_) rfl (by kernel_rfl) (by kernel_rfl) (by kernel_rfl) (fun _ _ _ h => h) (Or.inl ⟨by rfl, ?_⟩) (by assumption) ?_
  rotate_left
  · (intro W hSw; (try dsimp only at hSw); go_simp; try with_reducible rfl)
  try simp only [Act.put, List.getElem_toArray, List.getElem_cons_succ, List.getElem_cons_zero, List.setIfInBounds_toArray, List.set_cons_zero, List.set_cons_succ]
  refine wpAnyH_done (by kernel_rfl) ?_ _
  have G9 := Lib.hid g4
  clear g1 b1 g2 b2 g3 b3 g4 b4 h4
  obtain ⟨c0, c1, c2, c3⟩ : _ ∧ _ ∧ _ ∧ _ := ⟨cell_of_row v4 _ 0 _ _ (0, 0) G9.out.2, cell_of_row v4 _ 1 _ _ (0, 0) G9.out.2, cell_of_row v4 _ 2 _ _ (0, 0) G9.out.2, cell_of_row v4 _ 3 _ _ (0, 0) G9.out.2⟩
  unfold T4.cells at c0 c1 c2 c3
  go_wp2_with fail
  refine (HRr.out _ G9.out.1.1).mono ?_
  rintro _ w2 ⟨rfl, b2⟩
  have G2 := Lib.hid (Sha.keepS G9.out b2)
  clear b2 c0 c1 c2 c3
  rcases HEnd.out with ⟨rfl, rfl, rfl⟩ | ⟨rfl, rfl, hsz, hget, hrp, hsm⟩
  · go_wp2_with fail
    refine (awake_any _).mono ?_
    rintro _ w3 ⟨rfl, b3⟩
    have G3 := Lib.hid (Sha.keepS G2.out b3)
    clear b3
    go_wp2
    go_ret
    exact ⟨rfl, G3.out.1.1⟩
  · have HRp := Lib.hid hrp
    have HGe := Lib.hid hget
    have HSm := Lib.hid hsm
    clear hrp hget hsm hsz HEnd
    go_wp2_with fail
    refine (HGe.out _).mono ?_
    rintro _ w3 ⟨⟨A1, d1, rfl, hrd⟩, b3⟩
    have G3 := Lib.hid (Sha.keepS G2.out b3)
    have HRd := Lib.hid hrd
    clear b3 HGe hrd
    go_wp2_with fail
    obtain ⟨W4, hW4⟩ : ∃ X, X = w3.alloc (.cells #[.int .i64 t.side, .int .i64 t.acc, .int .u64 t.n, .slice A1 t.ms.length d1] 25) := ⟨_, rfl⟩
    rw [← hW4]
    have hb4 : Below w3.heap.size w3 W4 := by rw [hW4]; exact (Below.refl _ _).alloc (Nat.le_refl _) _
    have HQ4 := Lib.hid (show W4.heap[w3.heap.size]? = some (.cells #[.int .i64 t.side, .int .i64 t.acc, .int .u64 t.n, .slice A1 t.ms.length d1] 25 (0, 0)) by rw [hW4]; exact heap_alloc_new w3 _)
    have G4 := Lib.hid (Sha.keepS G3.out hb4)
    have HRd4 := Lib.hid (HRd.out.below hb4)
    obtain ⟨Q, hQ⟩ : ∃ Q, Q = w3.heap.size := ⟨_, rfl⟩
    rw [← hQ] at HQ4 ⊢
    clear hW4 hb4 hQ G3 HRd
    refine (awake_any _).mono ?_
    rintro _ w5 ⟨rfl, b5⟩
    have G5 := Lib.hid (Sha.keepS G4.out b5)
    have HQ5 := Lib.hid ((b5.block _ (Array.getElem?_eq_some_iff.1 HQ4.out).1).trans HQ4.out)
    have HRd5 := Lib.hid (HRd4.out.below b5)
    clear b5 HQ4 G4 HRd4
    obtain ⟨c0, c1, c2, c3⟩ : _ ∧ _ ∧ _ ∧ _ := ⟨cell_of_row w5 _ 0 _ _ (0, 0) G5.out.2, cell_of_row w5 _ 1 _ _ (0, 0) G5.out.2, cell_of_row w5 _ 2 _ _ (0, 0) G5.out.2, cell_of_row w5 _ 3 _ _ (0, 0) G5.out.2⟩
    unfold T4.cells at c0 c1 c2 c3
    go_wp2_with fail
    refine (HRp.out _ G5.out.1.1).mono ?_
    rintro _ w6 ⟨rfl, b6⟩
    have G6 := Lib.hid (Sha.keepS G5.out b6)
    have HQ6 := Lib.hid ((b6.block _ (Array.getElem?_eq_some_iff.1 HQ5.out).1).trans HQ5.out)
    have HRd6 := Lib.hid (HRd5.out.below b6)
    clear b6 HQ5 G5 c0 c1 c2 c3 HRd5
    obtain ⟨c0, c1, c2, c3⟩ : _ ∧ _ ∧ _ ∧ _ := ⟨cell_of_row w6 _ 0 _ _ (0, 0) G6.out.2, cell_of_row w6 _ 1 _ _ (0, 0) G6.out.2, cell_of_row w6 _ 2 _ _ (0, 0) G6.out.2, cell_of_row w6 _ 3 _ _ (0, 0) G6.out.2⟩
    obtain ⟨d0, d1', d2, d3⟩ : _ ∧ _ ∧ _ ∧ _ := ⟨cell_of_row w6 _ 0 _ _ (0, 0) HQ6.out, cell_of_row w6 _ 1 _ _ (0, 0) HQ6.out, cell_of_row w6 _ 2 _ _ (0, 0) HQ6.out, cell_of_row w6 _ 3 _ _ (0, 0) HQ6.out⟩
    unfold T4.cells at c0 c1 c2 c3
    go_wp2_with fail
    refine (HSm.out _ _ _ G6.out.1.1 HRd6.out).mono ?_
    rintro _ w7 ⟨rfl, b7⟩
    have G7 := Lib.hid (Sha.keepS G6.out b7)
    clear b7 HQ6 G6 c0 c1 c2 c3 d0 d1' d2 d3 HRd6
    go_wp2
    go_ret
    exact ⟨rfl, G7.out.1.1⟩

theorem puts_all (t : T4) (w : World) (ho : t.ok w) (hw : ∀ m ∈ t.ms, m.wf) (hg : Sha.Tab w) : Calls Tryd.prog 3 #[.agg t.cells] w fun e w' => e = .returned (.bool true) ∧ Below w.heap.size w w' := by
  have hl : t.len ≤ 9223372036854775807 := by have := ho.1; have := ho.2.1; unfold maxLen at this; omega
  have hr := ho.2.2.1
  have hn := ho.2.2.2
  have hfew : ∀ (W : World) (hW : Below w.heap.size w W), Calls Tryd.prog 4 #[.agg #[.int .i64 t.side, .int .i64 t.acc, .int .u64 t.n, .slice t.A t.len t.cap]] W fun e w' => (∃ b, e = .returned (.bool b)) ∧ Below W.heap.size W w' := fun W hW => by
    refine (few05_any t.side t.acc t.n t.A t.len t.cap t.ms W (hr.below hW) hl).mono ?_
    rintro e w' ⟨b, h1, -, h2⟩
    exact ⟨⟨b, h1⟩, h2⟩
  have hri := fun (W : World) (hW : Below w.heap.size w W) => txright_any t.side t.acc t.n t.A t.len t.cap t.ms W (hr.below hW) hl
  have hrr := fun (W : World) (hW : Below w.heap.size w W) => rtxright_any t.side t.acc t.n t.A t.len t.cap t.ms W (hr.below hW) hl
  cases h : txright t.side t.acc t.ms with
  | false =>
    rw [h] at hri hrr
    exact puts_mid t false ⟨#[]⟩ 1 w hg hfew (fun W hW => txput_no t W (hr.below hW) hl h) hri hrr Sha.zero32 Sha.eq_zero32 (fun W _ hW => Sha.txsum_no t W (hr.below hW) hl h) (fun W hW => Sha.rtxsum_no t W (hr.below hW) hl h) (.inl ⟨rfl, rfl, rfl⟩)
  | true =>
    rw [h] at hri hrr
    refine puts_mid t true (tB t.side t.acc t.n t.ms) 0 w hg hfew (fun W hW => txput_yes t W (hr.below hW) hn hw h) hri hrr (Sha.scells (Sha.ofSt (tB t.side t.acc t.n t.ms))) (Sha.eq_scells _) (fun W ht hW => Sha.txsum_yes t W (hr.below hW) hn hw h ht) (fun W hW => Sha.rtxsum_yes t W (hr.below hW) hn hw h) (.inr ⟨rfl, rfl, Sha.tB_size _ _ _ _ h, fun W => ?_, fun W hW => rtxput_yes t W (hr.below hW) hn hw h, fun A1 c1 W hW hR => ?_⟩)
    · have hq := Rd.tget_any (tB t.side t.acc t.n t.ms) (by have := Sha.tB_size _ _ t.n _ h; omega) W
      rw [Rd.getT_back t.side t.acc t.n t.ms h hn hw] at hq
      obtain ⟨q1, q2, q3, q4, q5⟩ := txright_parts h
      dsimp only at hq
      rw [show ((t.side.toNat : Nat) : Int) = t.side by omega, show ((t.acc.toNat : Nat) : Int) = t.acc by omega, show ((t.n.toNat : Nat) : Int) = t.n by omega] at hq
      refine hq.mono ?_
      rintro e w' ⟨⟨v, he, hv⟩, hb⟩
      obtain ⟨A1, c1, rfl⟩ := own_formN hv
      exact ⟨⟨A1, c1, he, row_at hv rfl⟩, hb⟩
    · have hq := rsame_any ⟨t.side, t.acc, t.n, A1, t.ms.length, c1, t.ms⟩ t W hR (hr.below hW) (by have := hr.1; dsimp only; omega) hl
      have e : tsame ⟨t.side, t.acc, t.n, A1, t.ms.length, c1, t.ms⟩ t = true := tsame_self t
      rw [e] at hq
      exact hq
set_option maxRecDepth 100000 in
theorem puts_walk {H : Type} {enc : TypeId × Value → H} {spare : Nat → Bool} {held : Bool} {w : World} {base : Nat} {v : Value} {d : DataW H} {p : List MemPlace}
    (ok : Value.okWide Tryd.prog w .any base 25 v) (h : DataW.Trod enc Tryd.prog w 0 spare held 25 v d p) (hg : Sha.Tab w) :
    Calls Tryd.prog 3 #[v] w fun e w' => e = .returned (.bool true) ∧ Below w.heap.size w w' := by
  obtain ⟨t, rfl, ho, hw⟩ := open_tx_wf ok h
  exact puts_all t w ho hw hg
end Go.Proofs.YtpakefgbjncdiacDoor.Msg
