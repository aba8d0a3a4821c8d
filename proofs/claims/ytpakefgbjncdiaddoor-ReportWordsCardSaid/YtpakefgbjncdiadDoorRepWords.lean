/- The law ReportWords. -/
import Derived.Test.YtpakefgbjncdiadDoorRepOp
import Derived.Test.YtpakefgbjncdiadDoorRepROp
import Derived.Test.YtpakefgbjncdiadDoorRepRet
import Derived.Test.YtpakefgbjncdiadDoorRepRRet
import Derived.Test.YtpakefgbjncdiadDoorRepOpen
import Derived.Deep.RegionHeld3
namespace Go.Proofs.YtpakefgbjncdiadDoor.Rep
open Go Go.RowKit Num Dec packetKeys

theorem yields_row {P : Program} {o : Oper} {a : Act} {w : World} (ty : TypeId) (x : Operand) (ho : o.op = .load ty x) (g : Nat) (hx : a.eval x = .pointer (some ⟨g, 0, none⟩)) (t : TypeId) (cs : Array Value) (fr : Nat × Nat) (d : TypeDesc) (hg : w.heap[g]? = some (.cells cs t fr))
    (hu : P.underlying ty = some d) (hd : (match d with | .struct _ | .array _ _ => true | _ => false) = true) (hi : (P.info? ty).map (·.size) = some cs.size) :
    (execOp a.eval o).run P w = .ok (.value (.agg cs)) w := by
  unfold execOp
  simp only [ho, hx, Instr.loadAt, Instr.sureAddr, Sem.run_bind, Sem.run_pure, Result.andThen_ok, run_loadVar_row w g t ty cs fr d hg hu hd hi]

/-- The three boxes. -/
abbrev BX3 (w : World) (o : O9) (r : R4) (es : Array Value) (W : World) : Prop := (Below w.heap.size w W ∧ Tab W) ∧ W.heap[w.heap.size]? = some (.cells o.cells 26 (0, 0)) ∧ W.heap[w.heap.size + 1]? = some (.cells r.cells 29 (0, 0)) ∧ W.heap[w.heap.size + 2]? = some (.cells es 31 (0, 0))
theorem BX3.call {w W W1 : World} {o : O9} {r : R4} {es : Array Value} (h : BX3 w o r es W) (hb : Below W.heap.size W W1) : BX3 w o r es W1 :=
  ⟨⟨h.1.1.trans (hb.mono h.1.1.size), tab_below h.1.2 hb⟩, (hb.block _ (Array.getElem?_eq_some_iff.1 h.2.1).1).trans h.2.1, (hb.block _ (Array.getElem?_eq_some_iff.1 h.2.2.1).1).trans h.2.2.1, (hb.block _ (Array.getElem?_eq_some_iff.1 h.2.2.2).1).trans h.2.2.2⟩
theorem BX3.new (w : World) (o : O9) (r : R4) (es : Array Value) (ht : Tab w) : BX3 w o r es (((w.alloc (.cells o.cells 26)).alloc (.cells r.cells 29)).alloc (.cells es 31)) := by
  have hb : Below w.heap.size w (((w.alloc (.cells o.cells 26)).alloc (.cells r.cells 29)).alloc (.cells es 31)) := (((Below.refl _ _).alloc (Nat.le_refl _) _).alloc (by simp) _).alloc (by simp; omega) _
  refine ⟨⟨hb, tab_below ht hb⟩, ?_, ?_, ?_⟩
  · exact (Below.heap_alloc _ _ _ (by simp; omega)).trans ((Below.heap_alloc _ _ _ (by simp)).trans (heap_alloc_new w _))
  · refine (Below.heap_alloc _ _ _ (by simp)).trans ?_
    have := heap_alloc_new (w.alloc (.cells o.cells 26)) (.cells r.cells 29)
    rwa [World.size_alloc] at this
  · have := heap_alloc_new ((w.alloc (.cells o.cells 26)).alloc (.cells r.cells 29)) (.cells es 31)
    rwa [World.size_alloc, World.size_alloc] at this

theorem ex_words : opB ⟨2, 3, ⟨0, 0, 5⟩, 0, 0, 0, 0⟩ = ⟨#[99, 108, 97, 105, 109, 32, 98, 121, 32, 51, 32, 48, 97, 53]⟩ := by
  have h3 : intW 3 = ⟨#[51]⟩ := by
    unfold intW
    rw [show (3 : Int) = ((3 : Nat) : Int) from rfl, itoa_pos, dec_small (by decide)]; rfl
  have h0 : (⟨(Lib.itoa 0).toArray⟩ : ByteArray) = ⟨#[48]⟩ := by
    rw [show (0 : Int) = ((0 : Nat) : Int) from rfl, itoa_pos, dec_small (by decide)]; rfl
  have h5 : (⟨(Lib.decDigits 5).toArray⟩ : ByteArray) = ⟨#[53]⟩ := by
    rw [dec_small (by decide)]; rfl
  unfold opB headB nameB
  dsimp only
  rw [if_pos (by omega), h3, h0, h5, if_pos rfl]
  rfl
set_option maxRecDepth 20000 in
theorem awake_any (w : World) (ht : Tab w) : Calls Tryd.prog 4 #[] w fun e w' => e = .returned (.bool true) ∧ Below w.heap.size w w' := by
  have h := op_any ⟨2, 3, ⟨0, 0, 5⟩, 0, 0, 0, 0⟩ ⟨by decide, ⟨by decide, by decide, by decide⟩, by decide, by decide, by decide⟩ w ht
  rw [ex_words] at h
  have HO := Lib.hid h
  clear h ht
  go_enter Tryd.func4, Tryd.ntmps4
  go_wp2_with fail
  refine HO.out.mono ?_
  rintro _ w1 ⟨rfl, b1⟩
  go_wp2
  go_ret
  exact ⟨rfl, b1⟩

set_option maxRecDepth 100000 in
set_option maxHeartbeats 2000000 in
theorem law_any (o : O9) (ho : o.ok) (r : R4) (hr : r.ok) (kk : K3) (hkk : kk.ok) (st own : Int) (hw : -9223372036854775808 ≤ own ∧ own ≤ 9223372036854775807) (w : World) (ht : Tab w) :
    Calls Tryd.prog 3 #[.agg o.cells, .agg r.cells, .agg #[.int .i64 kk.c, .int .i64 kk.f, .int .u64 (kk.s : Int), .int .i64 st, .int .i64 own]] w fun e w' => e = .returned (.bool true) ∧ Below w.heap.size w w' := by
  have HA := Lib.hid awake_any
  have HOp := Lib.hid (fun W h => op_any o ho W h)
  have HOr := Lib.hid (fun W h => rop_any o ho W h)
  have HRp := Lib.hid (fun W h => ret_any o.k r hr W h)
  have HRr := Lib.hid (fun W h => rret_any o.k r hr W h)
  have HEp := Lib.hid (fun W h => entry_any kk hkk st own hw W h)
  have HEr := Lib.hid (fun W h => rentry_any kk hkk st own hw W h)
  have hX := BX3.new w o r #[.int .i64 kk.c, .int .i64 kk.f, .int .u64 (kk.s : Int), .int .i64 st, .int .i64 own] ht
  generalize opB o = A at *
  generalize retB o.k r = B at *
  generalize entryW kk st own = C at *
  clear ho hr hkk hw ht
  go_enter Tryd.func3, Tryd.ntmps3
  go_upto_region 1 with fail
  obtain ⟨W0, hW0⟩ : ∃ X, X = ((w.alloc (.cells o.cells 26)).alloc (.cells r.cells 29)).alloc (.cells #[.int .i64 kk.c, .int .i64 kk.f, .int .u64 (kk.s : Int), .int .i64 st, .int .i64 own] 31) := ⟨_, rfl⟩
  rw [← hW0] at hX ⊢
  have h0 := hX.call (Below.refl _ _).drew
  clear hW0 hX
  refine wp_region_held_drew (S := (fun W => BX3 w o r (#[.int .i64 kk.c, .int .i64 kk.f, .int .u64 (kk.s : Int), .int .i64 st, .int .i64 own]) W)) (by kernel_rfl) h0 (fun hHeld => ?_)
  refine wpAnyH_ready (rs := [0]) (by kernel_rfl) (by simp) ?_
  refine AllReadyH.cons rfl (fun K hK => ?_) AllReadyH.nil
  simp only [List.getElem_toArray, List.getElem_cons_zero]
  rw [if_pos (by rfl)]
  go_simp
  (go_at_call 4; refine (HA.out _ hHeld.1.2).mono ?_; rintro _ v1 ⟨rfl, b1⟩; have g1 := hHeld.call b1)
  go_wp2_with fail
  refine hK.out _ _ g1 (fun hHeld => ?_)
  clear hK K
  try simp only [Act.put, List.getElem_toArray, List.getElem_cons_succ, List.getElem_cons_zero, List.setIfInBounds_toArray, List.set_cons_zero, List.set_cons_succ]
  refine wpAnyH_take (i := 1) (oi := _) (v := ?_) rfl (by kernel_rfl) (by kernel_rfl) (by kernel_rfl) (fun _ _ _ h => h) (Or.inl ⟨by rfl, ?_⟩) (by assumption) ?_
  rotate_left
  · (intro W hSw; clear hSw; go_simp; try with_reducible rfl)
  try simp only [Act.put, List.getElem_toArray, List.getElem_cons_succ, List.getElem_cons_zero, List.setIfInBounds_toArray, List.set_cons_zero, List.set_cons_succ]
  refine wpAnyH_take (i := 2) (oi := _) (v := ?_) rfl (by kernel_rfl) (by kernel_rfl) (by kernel_rfl) (fun _ _ _ h => h) (Or.inl ⟨by rfl, ?_⟩) (by assumption) ?_
  rotate_left
  · (intro W hSw; (refine yields_row 26 (.tmp 3) ?_ (w.heap.size) ?_ 26 o.cells (0, 0) _ hSw.2.1 Tryd.underlying26 rfl ?_); rfl; rfl; kernel_rfl)
  try simp only [Act.put, List.getElem_toArray, List.getElem_cons_succ, List.getElem_cons_zero, List.setIfInBounds_toArray, List.set_cons_zero, List.set_cons_succ]
  refine wpAnyH_take (i := 4) (oi := _) (v := ?_) rfl (by kernel_rfl) (by kernel_rfl) (by kernel_rfl) (fun _ _ _ h => h) (Or.inl ⟨by rfl, ?_⟩) (by assumption) ?_
  rotate_left
  · (intro W hSw; (refine yields_row 26 (.tmp 3) ?_ (w.heap.size) ?_ 26 o.cells (0, 0) _ hSw.2.1 Tryd.underlying26 rfl ?_); rfl; rfl; kernel_rfl)
  try simp only [Act.put, List.getElem_toArray, List.getElem_cons_succ, List.getElem_cons_zero, List.setIfInBounds_toArray, List.set_cons_zero, List.set_cons_succ]
  refine wpAnyH_ready (rs := [3]) (by kernel_rfl) (by simp) ?_
  refine AllReadyH.cons rfl (fun K hK => ?_) AllReadyH.nil
  simp only [List.getElem_toArray, List.getElem_cons_succ, List.getElem_cons_zero]
  rw [if_pos (by rfl)]
  go_simp
  (go_at_call 5; refine (HOp.out _ g1.1.2).mono ?_; rintro _ v2 ⟨rfl, b2⟩; have g2 := g1.call b2)
  go_wp2_with fail
  refine hK.out _ _ g2 (fun hHeld => ?_)
  clear hK K
  try simp only [Act.put, List.getElem_toArray, List.getElem_cons_succ, List.getElem_cons_zero, List.setIfInBounds_toArray, List.set_cons_zero, List.set_cons_succ]
  refine wpAnyH_ready (rs := [5]) (by kernel_rfl) (by simp) ?_
  refine AllReadyH.cons rfl (fun K hK => ?_) AllReadyH.nil
  simp only [List.getElem_toArray, List.getElem_cons_succ, List.getElem_cons_zero]
  rw [if_pos (by rfl)]
  go_simp
  (go_at_call 6; refine (HOr.out _ g2.1.2).mono ?_; rintro _ v3 ⟨rfl, b3⟩; have g3 := g2.call b3)
  go_wp2_with fail
  refine hK.out _ _ g3 (fun hHeld => ?_)
  clear hK K
  try simp only [Act.put, List.getElem_toArray, List.getElem_cons_succ, List.getElem_cons_zero, List.setIfInBounds_toArray, List.set_cons_zero, List.set_cons_succ]
  refine wpAnyH_take (i := 6) (oi := _) (v := ?_) rfl (by kernel_rfl) (by kernel_rfl) (by kernel_rfl) (fun _ _ _ h => h) (Or.inl ⟨by rfl, ?_⟩) (by assumption) ?_
  rotate_left
  · (intro W hSw; clear hSw; go_simp; try with_reducible rfl)
  try simp only [Act.put, List.getElem_toArray, List.getElem_cons_succ, List.getElem_cons_zero, List.setIfInBounds_toArray, List.set_cons_zero, List.set_cons_succ]
  refine wpAnyH_take (i := 7) (oi := _) (v := ?_) rfl (by kernel_rfl) (by kernel_rfl) (by kernel_rfl) (fun _ _ _ h => h) (Or.inl ⟨by rfl, ?_⟩) (by assumption) ?_
  rotate_left
  · (intro W hSw; clear hSw; go_simp; try with_reducible rfl)
  try simp only [Act.put, List.getElem_toArray, List.getElem_cons_succ, List.getElem_cons_zero, List.setIfInBounds_toArray, List.set_cons_zero, List.set_cons_succ]
  refine wpAnyH_take (i := 8) (oi := _) (v := ?_) rfl (by kernel_rfl) (by kernel_rfl) (by kernel_rfl) (fun _ _ _ h => h) (Or.inl ⟨by rfl, ?_⟩) (by assumption) ?_
  rotate_left
  · (intro W hSw; clear hSw; go_simp; try with_reducible rfl)
  try simp only [Act.put, List.getElem_toArray, List.getElem_cons_succ, List.getElem_cons_zero, List.setIfInBounds_toArray, List.set_cons_zero, List.set_cons_succ]
  refine wpAnyH_take (i := 9) (oi := _) (v := ?_) rfl (by kernel_rfl) (by kernel_rfl) (by kernel_rfl) (fun _ _ _ h => h) (Or.inl ⟨by rfl, ?_⟩) (by assumption) ?_
  rotate_left
  · (intro W hSw; clear hSw; go_simp; try with_reducible rfl)
  try simp only [Act.put, List.getElem_toArray, List.getElem_cons_succ, List.getElem_cons_zero, List.setIfInBounds_toArray, List.set_cons_zero, List.set_cons_succ]
  refine wpAnyH_take (i := 10) (oi := _) (v := ?_) rfl (by kernel_rfl) (by kernel_rfl) (by kernel_rfl) (fun _ _ _ h => h) (Or.inl ⟨by rfl, ?_⟩) (by assumption) ?_
  rotate_left
  · (intro W hSw; (have y0 := cell_of_row W _ 0 _ _ (0, 0) hSw.2.1; unfold O9.cells at y0; clear hSw; go_simp; try with_reducible rfl))
  try simp only [Act.put, List.getElem_toArray, List.getElem_cons_succ, List.getElem_cons_zero, List.setIfInBounds_toArray, List.set_cons_zero, List.set_cons_succ]
  refine wpAnyH_take (i := 11) (oi := _) (v := ?_) rfl (by kernel_rfl) (by kernel_rfl) (by kernel_rfl) (fun _ _ _ h => h) (Or.inl ⟨by rfl, ?_⟩) (by assumption) ?_
  rotate_left
  · (intro W hSw; (refine yields_row 29 (.tmp 4) ?_ (w.heap.size + 1) ?_ 29 r.cells (0, 0) _ hSw.2.2.1 Tryd.underlying29 rfl ?_); rfl; rfl; kernel_rfl)
  try simp only [Act.put, List.getElem_toArray, List.getElem_cons_succ, List.getElem_cons_zero, List.setIfInBounds_toArray, List.set_cons_zero, List.set_cons_succ]
  refine wpAnyH_take (i := 13) (oi := _) (v := ?_) rfl (by kernel_rfl) (by kernel_rfl) (by kernel_rfl) (fun _ _ _ h => h) (Or.inl ⟨by rfl, ?_⟩) (by assumption) ?_
  rotate_left
  · (intro W hSw; clear hSw; go_simp; try with_reducible rfl)
  try simp only [Act.put, List.getElem_toArray, List.getElem_cons_succ, List.getElem_cons_zero, List.setIfInBounds_toArray, List.set_cons_zero, List.set_cons_succ]
  refine wpAnyH_take (i := 14) (oi := _) (v := ?_) rfl (by kernel_rfl) (by kernel_rfl) (by kernel_rfl) (fun _ _ _ h => h) (Or.inl ⟨by rfl, ?_⟩) (by assumption) ?_
  rotate_left
  · (intro W hSw; (have y0 := cell_of_row W _ 0 _ _ (0, 0) hSw.2.1; unfold O9.cells at y0; clear hSw; go_simp; try with_reducible rfl))
  try simp only [Act.put, List.getElem_toArray, List.getElem_cons_succ, List.getElem_cons_zero, List.setIfInBounds_toArray, List.set_cons_zero, List.set_cons_succ]
  refine wpAnyH_take (i := 15) (oi := _) (v := ?_) rfl (by kernel_rfl) (by kernel_rfl) (by kernel_rfl) (fun _ _ _ h => h) (Or.inl ⟨by rfl, ?_⟩) (by assumption) ?_
  rotate_left
  · (intro W hSw; (refine yields_row 29 (.tmp 4) ?_ (w.heap.size + 1) ?_ 29 r.cells (0, 0) _ hSw.2.2.1 Tryd.underlying29 rfl ?_); rfl; rfl; kernel_rfl)
  try simp only [Act.put, List.getElem_toArray, List.getElem_cons_succ, List.getElem_cons_zero, List.setIfInBounds_toArray, List.set_cons_zero, List.set_cons_succ]
  refine wpAnyH_ready (rs := [12]) (by kernel_rfl) (by simp) ?_
  refine AllReadyH.cons rfl (fun K hK => ?_) AllReadyH.nil
  simp only [List.getElem_toArray, List.getElem_cons_succ, List.getElem_cons_zero]
  rw [if_pos (by rfl)]
  go_simp
  (go_at_call 7; refine (HRp.out _ g3.1.2).mono ?_; rintro _ v4 ⟨rfl, b4⟩; have g4 := g3.call b4)
  go_wp2_with fail
  refine hK.out _ _ g4 (fun hHeld => ?_)
  clear hK K
  try simp only [Act.put, List.getElem_toArray, List.getElem_cons_succ, List.getElem_cons_zero, List.setIfInBounds_toArray, List.set_cons_zero, List.set_cons_succ]
  refine wpAnyH_ready (rs := [16]) (by kernel_rfl) (by simp) ?_
  refine AllReadyH.cons rfl (fun K hK => ?_) AllReadyH.nil
  simp only [List.getElem_toArray, List.getElem_cons_succ, List.getElem_cons_zero]
  rw [if_pos (by rfl)]
  go_simp
  (go_at_call 8; refine (HRr.out _ g4.1.2).mono ?_; rintro _ v5 ⟨rfl, b5⟩; have g5 := g4.call b5)
  go_wp2_with fail
  refine hK.out _ _ g5 (fun hHeld => ?_)
  clear hK K
  try simp only [Act.put, List.getElem_toArray, List.getElem_cons_succ, List.getElem_cons_zero, List.setIfInBounds_toArray, List.set_cons_zero, List.set_cons_succ]
  refine wpAnyH_take (i := 17) (oi := _) (v := ?_) rfl (by kernel_rfl) (by kernel_rfl) (by kernel_rfl) (fun _ _ _ h => h) (Or.inl ⟨by rfl, ?_⟩) (by assumption) ?_
  rotate_left
  · (intro W hSw; clear hSw; go_simp; try with_reducible rfl)
  try simp only [Act.put, List.getElem_toArray, List.getElem_cons_succ, List.getElem_cons_zero, List.setIfInBounds_toArray, List.set_cons_zero, List.set_cons_succ]
  refine wpAnyH_take (i := 18) (oi := _) (v := ?_) rfl (by kernel_rfl) (by kernel_rfl) (by kernel_rfl) (fun _ _ _ h => h) (Or.inl ⟨by rfl, ?_⟩) (by assumption) ?_
  rotate_left
  · (intro W hSw; clear hSw; go_simp; try with_reducible rfl)
  try simp only [Act.put, List.getElem_toArray, List.getElem_cons_succ, List.getElem_cons_zero, List.setIfInBounds_toArray, List.set_cons_zero, List.set_cons_succ]
  refine wpAnyH_take (i := 19) (oi := _) (v := ?_) rfl (by kernel_rfl) (by kernel_rfl) (by kernel_rfl) (fun _ _ _ h => h) (Or.inl ⟨by rfl, ?_⟩) (by assumption) ?_
  rotate_left
  · (intro W hSw; clear hSw; go_simp; try with_reducible rfl)
  try simp only [Act.put, List.getElem_toArray, List.getElem_cons_succ, List.getElem_cons_zero, List.setIfInBounds_toArray, List.set_cons_zero, List.set_cons_succ]
  refine wpAnyH_take (i := 20) (oi := _) (v := ?_) rfl (by kernel_rfl) (by kernel_rfl) (by kernel_rfl) (fun _ _ _ h => h) (Or.inl ⟨by rfl, ?_⟩) (by assumption) ?_
  rotate_left
  · (intro W hSw; (refine yields_row 31 (.tmp 5) ?_ (w.heap.size + 2) ?_ 31 #[.int .i64 kk.c, .int .i64 kk.f, .int .u64 (kk.s : Int), .int .i64 st, .int .i64 own] (0, 0) _ hSw.2.2.2 Tryd.underlying31 rfl ?_); rfl; rfl; kernel_rfl)
  try simp only [Act.put, List.getElem_toArray, List.getElem_cons_succ, List.getElem_cons_zero, List.setIfInBounds_toArray, List.set_cons_zero, List.set_cons_succ]
  refine wpAnyH_take (i := 22) (oi := _) (v := ?_) rfl (by kernel_rfl) (by kernel_rfl) (by kernel_rfl) (fun _ _ _ h => h) (Or.inl ⟨by rfl, ?_⟩) (by assumption) ?_
  rotate_left
  · (intro W hSw; (refine yields_row 31 (.tmp 5) ?_ (w.heap.size + 2) ?_ 31 #[.int .i64 kk.c, .int .i64 kk.f, .int .u64 (kk.s : Int), .int .i64 st, .int .i64 own] (0, 0) _ hSw.2.2.2 Tryd.underlying31 rfl ?_); rfl; rfl; kernel_rfl)
  try simp only [Act.put, List.getElem_toArray, List.getElem_cons_succ, List.getElem_cons_zero, List.setIfInBounds_toArray, List.set_cons_zero, List.set_cons_succ]
  refine wpAnyH_ready (rs := [21]) (by kernel_rfl) (by simp) ?_
  refine AllReadyH.cons rfl (fun K hK => ?_) AllReadyH.nil
  simp only [List.getElem_toArray, List.getElem_cons_succ, List.getElem_cons_zero]
  rw [if_pos (by rfl)]
  go_simp
  (go_at_call 9; refine (HEp.out _ g5.1.2).mono ?_; rintro _ v6 ⟨rfl, b6⟩; have g6 := g5.call b6)
  go_wp2_with fail
  refine hK.out _ _ g6 (fun hHeld => ?_)
  clear hK K
  try simp only [Act.put, List.getElem_toArray, List.getElem_cons_succ, List.getElem_cons_zero, List.setIfInBounds_toArray, List.set_cons_zero, List.set_cons_succ]
  refine wpAnyH_ready (rs := [23]) (by kernel_rfl) (by simp) ?_
  refine AllReadyH.cons rfl (fun K hK => ?_) AllReadyH.nil
  simp only [List.getElem_toArray, List.getElem_cons_succ, List.getElem_cons_zero]
  rw [if_pos (by rfl)]
  go_simp
  (go_at_call 10; refine (HEr.out _ g6.1.2).mono ?_; rintro _ v7 ⟨rfl, b7⟩; have g7 := g6.call b7)
  go_wp2_with fail
  refine hK.out _ _ g7 (fun hHeld => ?_)
  clear hK K
  try simp only [Act.put, List.getElem_toArray, List.getElem_cons_succ, List.getElem_cons_zero, List.setIfInBounds_toArray, List.set_cons_zero, List.set_cons_succ]
  refine wpAnyH_take (i := 24) (oi := _) (v := ?_) rfl (by kernel_rfl) (by kernel_rfl) (by kernel_rfl) (fun _ _ _ h => h) (Or.inl ⟨by rfl, ?_⟩) (by assumption) ?_
  rotate_left
  · (intro W hSw; clear hSw; go_simp; try with_reducible rfl)
  try simp only [Act.put, List.getElem_toArray, List.getElem_cons_succ, List.getElem_cons_zero, List.setIfInBounds_toArray, List.set_cons_zero, List.set_cons_succ]
  refine wpAnyH_take (i := 25) (oi := _) (v := ?_) rfl (by kernel_rfl) (by kernel_rfl) (by kernel_rfl) (fun _ _ _ h => h) (Or.inl ⟨by rfl, ?_⟩) (by assumption) ?_
  rotate_left
  · (intro W hSw; clear hSw; go_simp; try with_reducible rfl)
  try simp only [Act.put, List.getElem_toArray, List.getElem_cons_succ, List.getElem_cons_zero, List.setIfInBounds_toArray, List.set_cons_zero, List.set_cons_succ]
  refine wpAnyH_take (i := 26) (oi := _) (v := ?_) rfl (by kernel_rfl) (by kernel_rfl) (by kernel_rfl) (fun _ _ _ h => h) (Or.inl ⟨by rfl, ?_⟩) (by assumption) ?_
  rotate_left
  · (intro W hSw; clear hSw; go_simp; try with_reducible rfl)
  try simp only [Act.put, List.getElem_toArray, List.getElem_cons_succ, List.getElem_cons_zero, List.setIfInBounds_toArray, List.set_cons_zero, List.set_cons_succ]
  refine wpAnyH_done (by kernel_rfl) ?_ _
  have HX := Lib.hid g7
  clear h0 g1 b1 g2 b2 g3 b3 g4 b4 g5 b5 g6 b6 g7 b7
  go_wp2
  go_ret
  exact ⟨rfl, HX.out.1.1⟩

theorem walk {H : Type} {enc : TypeId × Value → H} {w : World} {base' base'' base3 : Nat} {spare' spare'' spare3 : Nat → Bool} {held' held'' held3 : Bool} {r' r'' r3 : Reach} {b0 b1 b2 : Nat} {v v' v'' : Value} {d d' d'' : DataW H} {p p' p'' : List MemPlace}
    (ok : Value.okWide Tryd.prog w r' b0 26 v) (h : DataW.Trod enc Tryd.prog w base' spare' held' 26 v d p)
    (ok' : Value.okWide Tryd.prog w r'' b1 29 v') (h' : DataW.Trod enc Tryd.prog w base'' spare'' held'' 29 v' d' p')
    (ok'' : Value.okWide Tryd.prog w r3 b2 31 v'') (h'' : DataW.Trod enc Tryd.prog w base3 spare3 held3 31 v'' d'' p'') (hg : Tab w) :
    Calls Tryd.prog 3 #[v, v', v''] w fun e w' => e = .returned (.bool true) ∧ Below w.heap.size w w' := by
  obtain ⟨o, ho, rfl⟩ := open_op_val ok h
  obtain ⟨r, hr, rfl⟩ := open_ret_val ok' h'
  obtain ⟨q, ⟨hk, hw⟩, rfl⟩ := open_entry_val ok'' h''
  exact law_any o ho r hr q.1 hk q.2.1 q.2.2 hw w hg
end Go.Proofs.YtpakefgbjncdiadDoor.Rep
