/- The law PacketPuts. -/
import Derived.Test.YtoghchbkkcgkcaaDoorPacketSum
import Derived.Test.YtoghchbkkcgkcaaDoorPacketTake
import Derived.Test.YtoghchbkkcgkcaaDoorPacketOpen0
import Derived.Deep.RegionHeld3
namespace Go.Proofs.YtoghchbkkcgkcaaDoor.packetPuts
open Go Go.RowKit Num Texts Packet packetApart

/-- the bytes of a right packet are read as it -/
abbrev getP' (s : ByteArray) (p : P5) : Prop := Rd.getP s = (p, 0)
theorem walk_long (p : P5) (h : 300 < p.d.size) (w : World) : Calls Tryd.prog 3 #[arg p] w fun e w' => e = .returned (.bool true) ∧ Below w.heap.size w w' := by
  have h1 : (300 : Int) < (p.d.size : Int) := by omega
  have hb := (Below.refl w.heap.size w).alloc (Nat.le_refl _) (.cells #[.int .i64 p.c, .int .i64 p.f, .int .u64 p.s, .int .u64 p.t, .string p.d] 24)
  have HB := Lib.hid hb
  clear h hb
  unfold arg
  go_enter Tryd.func3, Tryd.ntmps3
  go_wp2_with fail
  refine (awake_any _).mono ?_
  rintro e w1 ⟨rfl, b1⟩
  have hb1 := HB.out.trans (b1.mono (by simp))
  go_wp2
  go_ret
  exact ⟨rfl, hb1⟩

set_option maxRecDepth 100000 in
set_option maxHeartbeats 1000000 in
theorem walk_mid (p : P5) (r : Bool) (s : ByteArray) (e0 : Int) (hlen : p.d.size ≤ 300) (w : World) (hg : Sha.Tab w)
    (hput : ∀ W, Calls Tryd.prog 6 #[.agg #[.int .i64 p.c, .int .i64 p.f, .int .u64 p.s, .int .u64 p.t, .string p.d]] W fun e w' => e = .returned (.tuple #[.string s, .int .i64 e0]) ∧ Below W.heap.size W w')
    (hri : ∀ W, Calls Tryd.prog 7 #[.agg p.cells] W fun e w' => e = .returned (.bool r) ∧ Below W.heap.size W w')
    (hrr : ∀ W, Calls Tryd.prog 8 #[.agg p.cells] W fun e w' => e = .returned (.bool r) ∧ Below W.heap.size W w')
    (C : Array Value) (heq : ∀ W, (Op.equalIn 10000 31 (.agg C) (.agg C)).run Tryd.prog W = .ok true W)
    (hsu : ∀ W, Sha.Tab W → Calls Tryd.prog 9 #[.agg p.cells] W fun e w' => e = .returned (.agg C) ∧ Below W.heap.size W w')
    (hsr : ∀ W, Calls Tryd.prog 10 #[.agg p.cells] W fun e w' => e = .returned (.agg C) ∧ Below W.heap.size W w')
    (hend : r = false ∧ s = ⟨#[]⟩ ∧ e0 = 1 ∨ (r = true ∧ e0 = 0 ∧ s.size ≤ 1000000 ∧ getP' s p ∧ ∀ W, Calls Tryd.prog 16 #[.agg #[.int .i64 p.c, .int .i64 p.f, .int .u64 p.s, .int .u64 p.t, .string p.d]] W fun e w' => e = .returned (.string s) ∧ Below W.heap.size W w')) :
    Calls Tryd.prog 3 #[arg p] w fun e w' => e = .returned (.bool true) ∧ Below w.heap.size w w' := by
  have n1 : ¬ (300 : Int) < (p.d.size : Int) := by omega
  have hac : ∀ W, Sha.Tab W → Calls Tryd.prog 11 #[.agg p.cells] W fun e w' => e = .returned (.string (Sha.ackS p.d)) ∧ Below W.heap.size W w' := fun W h => Sha.ack_any p (by omega) W h
  have har : ∀ W, Calls Tryd.prog 12 #[.agg p.cells] W fun e w' => e = .returned (.string (Sha.ackS p.d)) ∧ Below W.heap.size W w' := fun W => Sha.rack_any p (by omega) W
  generalize Sha.ackS p.d = A at hac har
  have HPu := Lib.hid hput
  have HRi := Lib.hid hri
  have HRr := Lib.hid hrr
  have HEq := Lib.hid heq
  have HSu := Lib.hid hsu
  have HSr := Lib.hid hsr
  have HAc := Lib.hid hac
  have HAr := Lib.hid har
  have HEnd := Lib.hid hend
  have HG := Lib.hid hg
  clear hput hri hrr heq hsu hsr hac har hend hg hlen
  unfold arg
  go_enter Tryd.func3, Tryd.ntmps3
  go_upto_region 1 with fail
  obtain ⟨W0, hW⟩ : ∃ X, X = w.alloc (.cells #[.int .i64 p.c, .int .i64 p.f, .int .u64 p.s, .int .u64 p.t, .string p.d] 24) := ⟨_, rfl⟩
  rw [← hW]
  have hA : W0.heap[w.heap.size]? = some (.cells p.cells 24 (0, 0)) := by rw [hW]; exact heap_alloc_new _ _
  have hB : Below w.heap.size w W0 := by rw [hW]; exact (Below.refl _ _).alloc (Nat.le_refl _) _
  have G0 := Lib.hid (show (Below w.heap.size w W0 ∧ Sha.Tab W0) ∧ W0.heap[w.heap.size]? = some (.cells p.cells 24 (0, 0)) from ⟨⟨hB, Sha.tab_below HG.out hB⟩, hA⟩)
  clear hW hB
  obtain ⟨c0, c1, c2, c3, c4⟩ : _ ∧ _ ∧ _ ∧ _ ∧ _ := ⟨cell_of_row W0 _ 0 _ _ (0, 0) hA, cell_of_row W0 _ 1 _ _ (0, 0) hA, cell_of_row W0 _ 2 _ _ (0, 0) hA, cell_of_row W0 _ 3 _ _ (0, 0) hA, cell_of_row W0 _ 4 _ _ (0, 0) hA⟩
  clear hA
  unfold P5.cells at c0 c1 c2 c3 c4
  go_wp2_with fail
  refine (HPu.out _).mono ?_
  rintro _ w1 ⟨rfl, b1⟩
  have h4 := Sha.keepS G0.out b1.drew
  clear b1 c0 c1 c2 c3 c4
  go_upto_region 4 with fail
  refine wp_region_held_drew (S := (fun W => (Below w.heap.size w W ∧ Sha.Tab W) ∧ W.heap[w.heap.size]? = some (.cells p.cells 24 (0, 0)))) (by kernel_rfl) h4 (fun hHeld => ?_)
  refine wpAnyH_take (i := 0) (oi := _) (v := ?_) rfl (by kernel_rfl) (by kernel_rfl) (by kernel_rfl) (fun _ _ _ h => h) (Or.inl ⟨by rfl, ?_⟩) (by assumption) ?_
  rotate_left
  · (intro W hSw; (refine Sha.yields_row 24 (.tmp 1) ?_ w.heap.size ?_ 24 p.cells (0, 0) _ hSw.2 Tryd.underlying24 rfl ?_); rfl; rfl; kernel_rfl)
  try simp only [Act.put, List.getElem_toArray, List.getElem_cons_zero, List.setIfInBounds_toArray, List.set_cons_zero, List.set_cons_succ]
  refine wpAnyH_take (i := 2) (oi := _) (v := ?_) rfl (by kernel_rfl) (by kernel_rfl) (by kernel_rfl) (fun _ _ _ h => h) (Or.inl ⟨by rfl, ?_⟩) (by assumption) ?_
  rotate_left
  · (intro W hSw; (refine Sha.yields_row 24 (.tmp 1) ?_ w.heap.size ?_ 24 p.cells (0, 0) _ hSw.2 Tryd.underlying24 rfl ?_); rfl; rfl; kernel_rfl)
  try simp only [Act.put, List.getElem_toArray, List.getElem_cons_succ, List.getElem_cons_zero, List.setIfInBounds_toArray, List.set_cons_zero, List.set_cons_succ]
  refine wpAnyH_ready (rs := [1]) (by kernel_rfl) (by simp) ?_
  refine AllReadyH.cons rfl (fun K hK => ?_) AllReadyH.nil
  simp only [List.getElem_toArray, List.getElem_cons_succ, List.getElem_cons_zero]
  rw [if_pos (by rfl)]
  go_simp
  (go_at_call 7; refine (HRi.out _ ).mono ?_; rintro _ v1 ⟨rfl, b1⟩; have g1 := Sha.keepS hHeld b1)
  go_wp2_with fail
  refine hK.out _ _ g1 (fun hHeld => ?_)
  clear hK K
  try simp only [Act.put, List.getElem_toArray, List.getElem_cons_succ, List.getElem_cons_zero, List.setIfInBounds_toArray, List.set_cons_zero, List.set_cons_succ]
  refine wpAnyH_ready (rs := [3]) (by kernel_rfl) (by simp) ?_
  refine AllReadyH.cons rfl (fun K hK => ?_) AllReadyH.nil
  simp only [List.getElem_toArray, List.getElem_cons_succ, List.getElem_cons_zero]
  rw [if_pos (by rfl)]
  go_simp
  (go_at_call 8; refine (HRr.out _ ).mono ?_; rintro _ v2 ⟨rfl, b2⟩; have g2 := Sha.keepS g1 b2)
  go_wp2_with fail
  refine hK.out _ _ g2 (fun hHeld => ?_)
  clear hK K
  try simp only [Act.put, List.getElem_toArray, List.getElem_cons_succ, List.getElem_cons_zero, List.setIfInBounds_toArray, List.set_cons_zero, List.set_cons_succ]
  refine wpAnyH_take (i := 4) (oi := _) (v := ?_) rfl (by kernel_rfl) (by kernel_rfl) (by kernel_rfl) (fun _ _ _ h => h) (Or.inl ⟨by rfl, ?_⟩) (by assumption) ?_
  rotate_left
  · (intro W hSw; (try dsimp only at hSw); go_simp; try with_reducible rfl)
  try simp only [Act.put, List.getElem_toArray, List.getElem_cons_succ, List.getElem_cons_zero, List.setIfInBounds_toArray, List.set_cons_zero, List.set_cons_succ]
  refine wpAnyH_take (i := 5) (oi := _) (v := ?_) rfl (by kernel_rfl) (by kernel_rfl) (by kernel_rfl) (fun _ _ _ h => h) (Or.inl ⟨by rfl, ?_⟩) (by assumption) ?_
  rotate_left
  · (intro W hSw; (try dsimp only at hSw); go_simp; try with_reducible rfl)
  try simp only [Act.put, List.getElem_toArray, List.getElem_cons_succ, List.getElem_cons_zero, List.setIfInBounds_toArray, List.set_cons_zero, List.set_cons_succ]
  refine wpAnyH_take (i := 6) (oi := _) (v := ?_) rfl (by kernel_rfl) (by kernel_rfl) (by kernel_rfl) (fun _ _ _ h => h) (Or.inl ⟨by rfl, ?_⟩) (by assumption) ?_
  rotate_left
  · (intro W hSw; (refine Sha.yields_row 24 (.tmp 1) ?_ w.heap.size ?_ 24 p.cells (0, 0) _ hSw.2 Tryd.underlying24 rfl ?_); rfl; rfl; kernel_rfl)
  try simp only [Act.put, List.getElem_toArray, List.getElem_cons_succ, List.getElem_cons_zero, List.setIfInBounds_toArray, List.set_cons_zero, List.set_cons_succ]
  refine wpAnyH_take (i := 8) (oi := _) (v := ?_) rfl (by kernel_rfl) (by kernel_rfl) (by kernel_rfl) (fun _ _ _ h => h) (Or.inl ⟨by rfl, ?_⟩) (by assumption) ?_
  rotate_left
  · (intro W hSw; (refine Sha.yields_row 24 (.tmp 1) ?_ w.heap.size ?_ 24 p.cells (0, 0) _ hSw.2 Tryd.underlying24 rfl ?_); rfl; rfl; kernel_rfl)
  try simp only [Act.put, List.getElem_toArray, List.getElem_cons_succ, List.getElem_cons_zero, List.setIfInBounds_toArray, List.set_cons_zero, List.set_cons_succ]
  refine wpAnyH_ready (rs := [7]) (by kernel_rfl) (by simp) ?_
  refine AllReadyH.cons rfl (fun K hK => ?_) AllReadyH.nil
  simp only [List.getElem_toArray, List.getElem_cons_succ, List.getElem_cons_zero]
  rw [if_pos (by rfl)]
  go_simp
  (go_at_call 9; refine (HSu.out _ (g2.1.2)).mono ?_; rintro _ v3 ⟨rfl, b3⟩; have g3 := Sha.keepS g2 b3)
  go_wp2_with fail
  refine hK.out _ _ g3 (fun hHeld => ?_)
  clear hK K
  try simp only [Act.put, List.getElem_toArray, List.getElem_cons_succ, List.getElem_cons_zero, List.setIfInBounds_toArray, List.set_cons_zero, List.set_cons_succ]
  refine wpAnyH_ready (rs := [9]) (by kernel_rfl) (by simp) ?_
  refine AllReadyH.cons rfl (fun K hK => ?_) AllReadyH.nil
  simp only [List.getElem_toArray, List.getElem_cons_succ, List.getElem_cons_zero]
  rw [if_pos (by rfl)]
  go_simp
  (go_at_call 10; refine (HSr.out _ ).mono ?_; rintro _ v4 ⟨rfl, b4⟩; have g4 := Sha.keepS g3 b4)
  go_wp2_with fail
  refine hK.out _ _ g4 (fun hHeld => ?_)
  clear hK K
  try simp only [Act.put, List.getElem_toArray, List.getElem_cons_succ, List.getElem_cons_zero, List.setIfInBounds_toArray, List.set_cons_zero, List.set_cons_succ]
  refine wpAnyH_take (i := 10) (oi := _) (v := ?_) rfl (by kernel_rfl) (by kernel_rfl) (by kernel_rfl) (fun _ _ _ h => h) (Or.inl ⟨by rfl, ?_⟩) (by assumption) ?_
  rotate_left
  · (intro W hSw; go_simp; rw [HEq.out]; rfl)
  try simp only [Act.put, List.getElem_toArray, List.getElem_cons_succ, List.getElem_cons_zero, List.setIfInBounds_toArray, List.set_cons_zero, List.set_cons_succ]
  refine wpAnyH_take (i := 11) (oi := _) (v := ?_) rfl (by kernel_rfl) (by kernel_rfl) (by kernel_rfl) (fun _ _ _ h => h) (Or.inl ⟨by rfl, ?_⟩) (by assumption) ?_
  rotate_left
  · (intro W hSw; (try dsimp only at hSw); go_simp; try with_reducible rfl)
  try simp only [Act.put, List.getElem_toArray, List.getElem_cons_succ, List.getElem_cons_zero, List.setIfInBounds_toArray, List.set_cons_zero, List.set_cons_succ]
  refine wpAnyH_take (i := 12) (oi := _) (v := ?_) rfl (by kernel_rfl) (by kernel_rfl) (by kernel_rfl) (fun _ _ _ h => h) (Or.inl ⟨by rfl, ?_⟩) (by assumption) ?_
  rotate_left
  · (intro W hSw; (try dsimp only at hSw); go_simp; try with_reducible rfl)
  try simp only [Act.put, List.getElem_toArray, List.getElem_cons_succ, List.getElem_cons_zero, List.setIfInBounds_toArray, List.set_cons_zero, List.set_cons_succ]
  refine wpAnyH_take (i := 13) (oi := _) (v := ?_) rfl (by kernel_rfl) (by kernel_rfl) (by kernel_rfl) (fun _ _ _ h => h) (Or.inl ⟨by rfl, ?_⟩) (by assumption) ?_
  rotate_left
  · (intro W hSw; (refine Sha.yields_row 24 (.tmp 1) ?_ w.heap.size ?_ 24 p.cells (0, 0) _ hSw.2 Tryd.underlying24 rfl ?_); rfl; rfl; kernel_rfl)
  try simp only [Act.put, List.getElem_toArray, List.getElem_cons_succ, List.getElem_cons_zero, List.setIfInBounds_toArray, List.set_cons_zero, List.set_cons_succ]
  refine wpAnyH_take (i := 15) (oi := _) (v := ?_) rfl (by kernel_rfl) (by kernel_rfl) (by kernel_rfl) (fun _ _ _ h => h) (Or.inl ⟨by rfl, ?_⟩) (by assumption) ?_
  rotate_left
  · (intro W hSw; (refine Sha.yields_row 24 (.tmp 1) ?_ w.heap.size ?_ 24 p.cells (0, 0) _ hSw.2 Tryd.underlying24 rfl ?_); rfl; rfl; kernel_rfl)
  try simp only [Act.put, List.getElem_toArray, List.getElem_cons_succ, List.getElem_cons_zero, List.setIfInBounds_toArray, List.set_cons_zero, List.set_cons_succ]
  refine wpAnyH_ready (rs := [14]) (by kernel_rfl) (by simp) ?_
  refine AllReadyH.cons rfl (fun K hK => ?_) AllReadyH.nil
  simp only [List.getElem_toArray, List.getElem_cons_succ, List.getElem_cons_zero]
  rw [if_pos (by rfl)]
  go_simp
  (go_at_call 11; refine (HAc.out _ (g4.1.2)).mono ?_; rintro _ v5 ⟨rfl, b5⟩; have g5 := Sha.keepS g4 b5)
  go_wp2_with fail
  refine hK.out _ _ g5 (fun hHeld => ?_)
  clear hK K
  try simp only [Act.put, List.getElem_toArray, List.getElem_cons_succ, List.getElem_cons_zero, List.setIfInBounds_toArray, List.set_cons_zero, List.set_cons_succ]
  refine wpAnyH_ready (rs := [16]) (by kernel_rfl) (by simp) ?_
  refine AllReadyH.cons rfl (fun K hK => ?_) AllReadyH.nil
  simp only [List.getElem_toArray, List.getElem_cons_succ, List.getElem_cons_zero]
  rw [if_pos (by rfl)]
  go_simp
  (go_at_call 12; refine (HAr.out _ ).mono ?_; rintro _ v6 ⟨rfl, b6⟩; have g6 := Sha.keepS g5 b6)
  go_wp2_with fail
  refine hK.out _ _ g6 (fun hHeld => ?_)
  clear hK K
  try simp only [Act.put, List.getElem_toArray, List.getElem_cons_succ, List.getElem_cons_zero, List.setIfInBounds_toArray, List.set_cons_zero, List.set_cons_succ]
  refine wpAnyH_take (i := 17) (oi := _) (v := ?_) rfl (by kernel_rfl) (by kernel_rfl) (by kernel_rfl) (fun _ _ _ h => h) (Or.inl ⟨by rfl, ?_⟩) (by assumption) ?_
  rotate_left
  · (intro W hSw; (try dsimp only at hSw); go_simp; try with_reducible rfl)
  try simp only [Act.put, List.getElem_toArray, List.getElem_cons_succ, List.getElem_cons_zero, List.setIfInBounds_toArray, List.set_cons_zero, List.set_cons_succ]
  refine wpAnyH_take (i := 18) (oi := _) (v := ?_) rfl (by kernel_rfl) (by kernel_rfl) (by kernel_rfl) (fun _ _ _ h => h) (Or.inl ⟨by rfl, ?_⟩) (by assumption) ?_
  rotate_left
  · (intro W hSw; (try dsimp only at hSw); go_simp; try with_reducible rfl)
  try simp only [Act.put, List.getElem_toArray, List.getElem_cons_succ, List.getElem_cons_zero, List.setIfInBounds_toArray, List.set_cons_zero, List.set_cons_succ]
  refine wpAnyH_take (i := 19) (oi := _) (v := ?_) rfl (by kernel_rfl) (by kernel_rfl) (by kernel_rfl) (fun _ _ _ h => h) (Or.inl ⟨by rfl, ?_⟩) (by assumption) ?_
  rotate_left
  · (intro W hSw; (try dsimp only at hSw); go_simp; try with_reducible rfl)
  try simp only [Act.put, List.getElem_toArray, List.getElem_cons_succ, List.getElem_cons_zero, List.setIfInBounds_toArray, List.set_cons_zero, List.set_cons_succ]
  refine wpAnyH_take (i := 20) (oi := _) (v := ?_) rfl (by kernel_rfl) (by kernel_rfl) (by kernel_rfl) (fun _ _ _ h => h) (Or.inl ⟨by rfl, ?_⟩) (by assumption) ?_
  rotate_left
  · (intro W hSw; (refine Sha.yields_row 24 (.tmp 1) ?_ w.heap.size ?_ 24 p.cells (0, 0) _ hSw.2 Tryd.underlying24 rfl ?_); rfl; rfl; kernel_rfl)
  try simp only [Act.put, List.getElem_toArray, List.getElem_cons_succ, List.getElem_cons_zero, List.setIfInBounds_toArray, List.set_cons_zero, List.set_cons_succ]
  refine wpAnyH_take (i := 22) (oi := _) (v := ?_) rfl (by kernel_rfl) (by kernel_rfl) (by kernel_rfl) (fun _ _ _ h => h) (Or.inl ⟨by rfl, ?_⟩) (by assumption) ?_
  rotate_left
  · (intro W hSw; (refine Sha.yields_row 24 (.tmp 1) ?_ w.heap.size ?_ 24 p.cells (0, 0) _ hSw.2 Tryd.underlying24 rfl ?_); rfl; rfl; kernel_rfl)
  try simp only [Act.put, List.getElem_toArray, List.getElem_cons_succ, List.getElem_cons_zero, List.setIfInBounds_toArray, List.set_cons_zero, List.set_cons_succ]
  refine wpAnyH_ready (rs := [21]) (by kernel_rfl) (by simp) ?_
  refine AllReadyH.cons rfl (fun K hK => ?_) AllReadyH.nil
  simp only [List.getElem_toArray, List.getElem_cons_succ, List.getElem_cons_zero]
  rw [if_pos (by rfl)]
  go_simp
  (go_at_call 13; refine (Sha.key_any p _).mono ?_; rintro _ v7 ⟨rfl, b7⟩; have g7 := Sha.keepS g6 b7)
  go_wp2_with fail
  refine hK.out _ _ g7 (fun hHeld => ?_)
  clear hK K
  try simp only [Act.put, List.getElem_toArray, List.getElem_cons_succ, List.getElem_cons_zero, List.setIfInBounds_toArray, List.set_cons_zero, List.set_cons_succ]
  refine wpAnyH_ready (rs := [23]) (by kernel_rfl) (by simp) ?_
  refine AllReadyH.cons rfl (fun K hK => ?_) AllReadyH.nil
  simp only [List.getElem_toArray, List.getElem_cons_succ, List.getElem_cons_zero]
  rw [if_pos (by rfl)]
  go_simp
  (go_at_call 14; refine (Sha.rkey_any p _).mono ?_; rintro _ v8 ⟨rfl, b8⟩; have g8 := Sha.keepS g7 b8)
  go_wp2_with fail
  refine hK.out _ _ g8 (fun hHeld => ?_)
  clear hK K
  try simp only [Act.put, List.getElem_toArray, List.getElem_cons_succ, List.getElem_cons_zero, List.setIfInBounds_toArray, List.set_cons_zero, List.set_cons_succ]
  refine wpAnyH_take (i := 24) (oi := _) (v := ?_) rfl (by kernel_rfl) (by kernel_rfl) (by kernel_rfl) (fun _ _ _ h => h) (Or.inl ⟨by rfl, ?_⟩) (by assumption) ?_
  rotate_left
  · (intro W hSw; (try dsimp only at hSw); go_simp; try with_reducible rfl)
  try simp only [Act.put, List.getElem_toArray, List.getElem_cons_succ, List.getElem_cons_zero, List.setIfInBounds_toArray, List.set_cons_zero, List.set_cons_succ]
  refine wpAnyH_take (i := 25) (oi := _) (v := ?_) rfl (by kernel_rfl) (by kernel_rfl) (by kernel_rfl) (fun _ _ _ h => h) (Or.inl ⟨by rfl, ?_⟩) (by assumption) ?_
  rotate_left
  · (intro W hSw; (try dsimp only at hSw); go_simp; try with_reducible rfl)
  try simp only [Act.put, List.getElem_toArray, List.getElem_cons_succ, List.getElem_cons_zero, List.setIfInBounds_toArray, List.set_cons_zero, List.set_cons_succ]
  refine wpAnyH_done (by kernel_rfl) ?_ _
  have G9 := Lib.hid g8
  clear g1 b1 g2 b2 g3 b3 g4 b4 g5 b5 g6 b6 g7 b7 g8 b8 h4
  obtain ⟨c0, c1, c2, c3, c4⟩ : _ ∧ _ ∧ _ ∧ _ ∧ _ := ⟨cell_of_row v8 _ 0 _ _ (0, 0) G9.out.2, cell_of_row v8 _ 1 _ _ (0, 0) G9.out.2, cell_of_row v8 _ 2 _ _ (0, 0) G9.out.2, cell_of_row v8 _ 3 _ _ (0, 0) G9.out.2, cell_of_row v8 _ 4 _ _ (0, 0) G9.out.2⟩
  unfold P5.cells at c0 c1 c2 c3 c4
  go_wp2_with fail
  refine (HRr.out _).mono ?_
  rintro _ w2 ⟨rfl, b2⟩
  have G2 := Lib.hid (Sha.keepS G9.out b2)
  clear b2 c0 c1 c2 c3 c4
  rcases HEnd.out with ⟨rfl, rfl, rfl⟩ | ⟨rfl, rfl, hsz, hget, hrp⟩
  · go_wp2_with fail
    refine (awake_any _).mono ?_
    rintro _ w3 ⟨rfl, b3⟩
    have G3 := Lib.hid (Sha.keepS G2.out b3)
    clear b3
    go_wp2
    go_ret
    exact ⟨rfl, G3.out.1.1⟩
  · have HRp := Lib.hid hrp
    have hge : ∀ W, Calls Tryd.prog 15 #[.string s] W fun e w' => e = .returned (.tuple #[.agg p.cells, .int .i64 0]) ∧ Below W.heap.size W w' := fun W => by
      have := Rd.get_any s (by omega) W
      rw [show Rd.getP s = (p, 0) from hget] at this
      exact this
    have HGe := Lib.hid hge
    clear hrp hge hget hsz
    go_wp2_with fail
    refine (HGe.out _).mono ?_
    rintro _ w3 ⟨rfl, b3⟩
    have G3 := Lib.hid (Sha.keepS G2.out b3)
    clear b3 HGe
    have hst := Rd.hst5 w3 p.cells rfl (Rd.cells5_one p)
    go_wp2_with fail
    obtain ⟨W4, hW4⟩ : ∃ X, X = (w3.alloc (.cells #[.int .i64 0, .int .i64 0, .int .u64 0, .int .u64 0, .string ⟨#[]⟩] 24)).setRow w3.heap.size p.cells := ⟨_, rfl⟩
    rw [← hW4]
    have hb4 : Below w3.heap.size w3 W4 := by
      rw [hW4]
      have h1 := (Below.refl w3.heap.size w3).alloc (Nat.le_refl _) (.cells #[.int .i64 0, .int .i64 0, .int .u64 0, .int .u64 0, .string ⟨#[]⟩] 24)
      exact ⟨h1.os, h1.tape, h1.output, by simp, fun i hi => (setRow_other _ _ _ _ (by omega)).trans (h1.block i hi)⟩
    have HQ4 := Lib.hid (show W4.heap[w3.heap.size]? = some (.cells p.cells 24 (0, 0)) by rw [hW4]; exact setRow_heap _ _ _ _ _ _ (heap_alloc_new w3 _))
    have G4 := Lib.hid (Sha.keepS G3.out hb4)
    obtain ⟨Q, hQ⟩ : ∃ Q, Q = w3.heap.size := ⟨_, rfl⟩
    rw [← hQ] at HQ4 ⊢
    clear hW4 hb4 hst hQ G3
    refine (awake_any _).mono ?_
    rintro _ w5 ⟨rfl, b5⟩
    have G5 := Lib.hid (Sha.keepS G4.out b5)
    have HQ5 := Lib.hid ((b5.block _ (Array.getElem?_eq_some_iff.1 HQ4.out).1).trans HQ4.out)
    clear b5 HQ4 G4
    obtain ⟨c0, c1, c2, c3, c4⟩ : _ ∧ _ ∧ _ ∧ _ ∧ _ := ⟨cell_of_row w5 _ 0 _ _ (0, 0) G5.out.2, cell_of_row w5 _ 1 _ _ (0, 0) G5.out.2, cell_of_row w5 _ 2 _ _ (0, 0) G5.out.2, cell_of_row w5 _ 3 _ _ (0, 0) G5.out.2, cell_of_row w5 _ 4 _ _ (0, 0) G5.out.2⟩
    unfold P5.cells at c0 c1 c2 c3 c4
    go_wp2_with fail
    refine (HRp.out _).mono ?_
    rintro _ w6 ⟨rfl, b6⟩
    have G6 := Lib.hid (Sha.keepS G5.out b6)
    have HQ6 := Lib.hid ((b6.block _ (Array.getElem?_eq_some_iff.1 HQ5.out).1).trans HQ5.out)
    clear b6 HQ5 G5 c0 c1 c2 c3 c4
    obtain ⟨c0, c1, c2, c3, c4⟩ : _ ∧ _ ∧ _ ∧ _ ∧ _ := ⟨cell_of_row w6 _ 0 _ _ (0, 0) G6.out.2, cell_of_row w6 _ 1 _ _ (0, 0) G6.out.2, cell_of_row w6 _ 2 _ _ (0, 0) G6.out.2, cell_of_row w6 _ 3 _ _ (0, 0) G6.out.2, cell_of_row w6 _ 4 _ _ (0, 0) G6.out.2⟩
    obtain ⟨d0, d1, d2, d3, d4⟩ : _ ∧ _ ∧ _ ∧ _ ∧ _ := ⟨cell_of_row w6 _ 0 _ _ (0, 0) HQ6.out, cell_of_row w6 _ 1 _ _ (0, 0) HQ6.out, cell_of_row w6 _ 2 _ _ (0, 0) HQ6.out, cell_of_row w6 _ 3 _ _ (0, 0) HQ6.out, cell_of_row w6 _ 4 _ _ (0, 0) HQ6.out⟩
    unfold P5.cells at c0 c1 c2 c3 c4 d0 d1 d2 d3 d4
    have hE := eq_packet p p
    rw [same5_self] at hE
    go_wp2
    go_ret
    exact ⟨rfl, G6.out.1.1⟩

theorem eq_zero32 (W : World) : (Op.equalIn 10000 31 (.agg Sha.zero32) (.agg Sha.zero32)).run Tryd.prog W = .ok true W := by
  have e : Sha.zero32 = (((List.replicate 32 (0 : Int)).map (Value.int .u8)).toArray) := rfl
  rw [e]
  exact Sha.eq_row W 9998 31 5 32 Tryd.underlying31 Tryd.underlying5 (fun w => by
    obtain ⟨i0, hi, _⟩ := info_parts Sha.infoB
    have h := run_sizeOf w hi
    rw [show Tryd.prog.cellsOf 5 = 1 by kernel_rfl] at h
    exact h) (List.replicate 32 0) rfl

theorem walk_all (p : P5) (ho : p.ok) (w : World) (hg : Sha.Tab w) : Calls Tryd.prog 3 #[arg p] w fun e w' => e = .returned (.bool true) ∧ Below w.heap.size w w' := by
  rcases Nat.lt_or_ge 300 p.d.size with h | h
  · exact walk_long p h w
  · by_cases hr : p.right
    · exact walk_mid p true p.bytes 0 h w hg (fun W => put_yes p hr ho W) (fun W => right_yes p hr W) (fun W => rright_yes p hr W) (Sha.scells (Sha.ofSt p.bytes)) (Sha.eq_scells _) (fun W ht => Sha.psum_yes p hr ho W ht) (fun W => Sha.rpsum_yes p hr ho W)
        (.inr ⟨rfl, rfl, Sha.pbytes_size p hr, Rd.getP_back p hr ho, fun W => rput_yes p hr ho W⟩)
    · exact walk_mid p false ⟨#[]⟩ 1 h w hg (fun W => put_no p hr W) (fun W => right_no p hr W) (fun W => rright_no p hr W) Sha.zero32 eq_zero32 (fun W _ => Sha.psum_no p hr W) (fun W => Sha.rpsum_no p hr W) (.inl ⟨rfl, rfl, rfl⟩)
theorem walk {H : Type} {enc : TypeId × Value → H} {spare : Nat → Bool} {held : Bool} {w : World} {base : Nat} {v : Value} {d : DataW H} {p : List MemPlace}
    (ok : Value.okWide Tryd.prog w .any base 24 v) (h : DataW.Trod enc Tryd.prog w 0 spare held 24 v d p) (hg : Sha.Tab w) :
    Calls Tryd.prog 3 #[v] w fun e w' => e = .returned (.bool true) ∧ Below w.heap.size w w' := by
  obtain ⟨a, ho, rfl⟩ := open_packet_val ok h
  exact walk_all a ho w hg
end Go.Proofs.YtoghchbkkcgkcaaDoor.packetPuts
