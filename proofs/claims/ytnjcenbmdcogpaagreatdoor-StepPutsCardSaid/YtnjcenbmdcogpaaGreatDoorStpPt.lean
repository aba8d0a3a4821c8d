import Derived.Test.YtnjcenbmdcogpaaGreatDoorPgRight
import Derived.Test.YtnjcenbmdcogpaaGreatDoorStpDo
import Derived.Test.YtnjcenbmdcogpaaGreatDoorStpParse
import Derived.Test.YtnjcenbmdcogpaaGreatDoorStepAwake
import Derived.Deep.RegionHeld3
import Derived.Test.YtnjcenbmdcogpaaGreatDoorStpMath
import Derived.OpenShut
import Derived.ProofKit
import Derived.Deep.Slices
import Derived.ChangeArms
/- The law StepPuts, of any step. -/
namespace Go.Proofs.YtnjcenbmdcogpaaGreatDoor.Sp
open Go Go.Lib Go.RowKit
set_option linter.unusedSimpArgs false
set_option linter.unusedVariables false

theorem yields_row {P : Program} {o : Oper} {a : Act} {w : World} (ty : TypeId) (x : Operand) (ho : o.op = .load ty x) (g : Nat) (hx : a.eval x = .pointer (some ⟨g, 0, none⟩)) (t : TypeId) (cs : Array Value) (fr : Nat × Nat) (d : TypeDesc) (hg : w.heap[g]? = some (.cells cs t fr))
    (hu : P.underlying ty = some d) (hd : (match d with | .struct _ | .array _ _ => true | _ => false) = true) (hi : (P.info? ty).map (·.size) = some cs.size) :
    (execOp a.eval o).run P w = .ok (.value (.agg cs)) w := by
  unfold execOp
  simp only [ho, hx, Instr.loadAt, Instr.sureAddr, Sem.run_bind, Sem.run_pure, Result.andThen_ok, run_loadVar_row w g t ty cs fr d hg hu hd hi]
theorem lineB_sz (x : St) (h : rightP x) (t0 : 0 ≤ x.t) (t1 : x.t < 18446744073709551616) : (lineB x).size ≤ 1000 := by
  obtain ⟨k, sd, n, c, f, s, t, d⟩ := x
  rcases h with ⟨h1, h2, h3, h4, p1, p2, p3, p4, p5⟩ | ⟨h1, h2, h3, p1, p2, p3, p4, p5⟩ | ⟨h1, h2, h3, p1, p2, p3, p4, p5⟩ | ⟨h1, h2, h3, p1, p2, p3, p4, p5⟩ | ⟨h1, h2, h3, h4, p1, p2, p3, p4, p5⟩ | ⟨h1, h2, h3, h4, p1, p2, p3, p4, p5⟩ | ⟨h1, h2, h3, p1, p2, p3, p4, p5⟩ | ⟨h1, h2, h3, p1, p2, p3, p4, p5⟩
  all_goals simp only at *
  · subst h1; show (jn [wd 1, decDigits n.toNat]).toArray.size ≤ 1000; have := wd_len 1; have := dec_len n.toNat (by omega); simp [jn]; omega
  · subst h1; show (jn [wd 2, decDigits sd.toNat]).toArray.size ≤ 1000; have := wd_len 2; have := dec_len sd.toNat (by omega); simp [jn]; omega
  · subst h1; show (jn [wd 3, decDigits c.toNat, decDigits f.toNat, decDigits t.toNat, hexS d.data.toList]).toArray.size ≤ 1000
    have := wd_len 3; have := dec_len c.toNat (by omega); have := dec_len f.toNat (by omega); have := dec_len t.toNat (by omega); have := hexS_len d.data.toList (by simpa using p4); simp [jn]; omega
  · subst h1; show (jn [wd 4, decDigits sd.toNat]).toArray.size ≤ 1000; have := wd_len 4; have := dec_len sd.toNat (by omega); simp [jn]; omega
  · subst h1; show (jn [wd 5, decDigits n.toNat]).toArray.size ≤ 1000; have := wd_len 5; have := dec_len n.toNat (by omega); simp [jn]; omega
  · subst h1; show (jn [wd 6, decDigits sd.toNat, decDigits n.toNat]).toArray.size ≤ 1000; have := wd_len 6; have := dec_len sd.toNat (by omega); have := dec_len n.toNat (by omega); simp [jn]; omega
  · subst h1; show (jn [wd 7]).toArray.size ≤ 1000; have := wd_len 7; simp [jn]; omega
  · subst h1; show (jn [wd 8]).toArray.size ≤ 1000; have := wd_len 8; simp [jn]; omega
theorem parse_line (x : St) (h : rightP x) (t0 : 0 ≤ x.t) (t1 : x.t < 18446744073709551616) (w : World) (ht : Dec.Tab w) (hE : ErrsLie w) : Calls Tryz.prog 13 #[.string (lineB x)] w fun e w' => e = .returned (.tuple #[.agg x.cells, .int .i64 0]) ∧ Below w.heap.size w w' := by
  have e : pE (lineB x) = .returned (.tuple #[.agg x.cells, .int .i64 0]) := by
    unfold pE
    rw [parse_strict, show (lineB x).data.toList = jn (wordsOf x) from by simp [lineB, lineL], sp_jn (words_ne x) (words_nosp x), strict_words h t0 t1]
  have := parse_any (lineB x) (lineB_sz x h t0 t1) w ht hE
  rw [e] at this
  exact this
set_option maxRecDepth 100000 in
theorem few_one (x : St) (K : Nat) (w : World) (hK : w.heap[K]? = some (.cells x.cells 26 (0, 0))) : Calls Tryz.prog 6 #[.slice (some ⟨K, 0, none⟩) 1 1] w fun e w' => e = .returned (.bool (decide (x.d.size ≤ 200))) ∧ Below w.heap.size w w' := by
  have c7 : w.cell? ⟨K, 7, none⟩ = some (.string x.d) := cell_of_row _ _ 7 _ _ (0, 0) hK
  go_enter Tryz.func6, Tryz.ntmps6
  go_wp2
  go_loopw [3] (fun i wr => wr = w ∧ (i = .int .i64 0 ∨ (i = .int .i64 1 ∧ x.d.size ≤ 200))) (fun i _ => 1 - (RowKit.intOf i).toNat)
  case atStart => exact ⟨rfl, Or.inl rfl⟩
  case round =>
    obtain ⟨rfl, rfl | ⟨rfl, h⟩⟩ := hrel
    · by_cases h : x.d.size ≤ 200
      · have hi : ¬ (200 : Int) < x.d.size := by omega
        go_wp2
        refine ⟨?_, by simp [RowKit.intOf]⟩
        first | exact ⟨rfl, Or.inr ⟨rfl, h⟩⟩ | exact ⟨trivial, Or.inr ⟨rfl, h⟩⟩ | exact ⟨rfl, Or.inr ⟨by go_num, h⟩⟩ | exact ⟨trivial, Or.inr ⟨by go_num, h⟩⟩ | simp [h]
      · have hi : (200 : Int) < x.d.size := by omega
        go_wp2
        go_ret
        exact ⟨by rw [decide_eq_false h]; rfl, Below.refl _ _⟩
    · go_wp2
      go_ret
      exact ⟨by rw [decide_eq_true h]; rfl, Below.refl _ _⟩
/-- the step's box and the two that were made of it -/
structure L3 (w : World) (x : St) (Y Z : Nat) (W : World) : Prop where
  l : LB w x W
  y : W.heap[Y]? = some (.cells x.cells 26 (0, 0))
  z : W.heap[Z]? = some (.cells x.cells 26 (0, 0))
theorem L3.below {w W W' : World} {x : St} {Y Z : Nat} (h : L3 w x Y Z W) (hb : Below W.heap.size W W') : L3 w x Y Z W' :=
  ⟨h.l.below hb, (hb.block _ (Array.getElem?_eq_some_iff.1 h.y).1).trans h.y, (hb.block _ (Array.getElem?_eq_some_iff.1 h.z).1).trans h.z⟩
theorem L3.cells {w W : World} {x : St} {Y Z : Nat} (h : L3 w x Y Z W) (i : Nat) : W.cell? ⟨w.heap.size, i, none⟩ = x.cells[i]? ∧ W.cell? ⟨Y, i, none⟩ = x.cells[i]? ∧ W.cell? ⟨Z, i, none⟩ = x.cells[i]? :=
  ⟨cell_of_row _ _ _ _ _ (0, 0) h.l.box, cell_of_row _ _ _ _ _ (0, 0) h.y, cell_of_row _ _ _ _ _ (0, 0) h.z⟩

set_option maxRecDepth 100000 in
set_option maxHeartbeats 1000000 in
theorem law_long (x : St) (h200 : ¬ x.d.size ≤ 200) (w : World) (ht : Dec.Tab w) (hE : ErrsLie w) : Calls Tryz.prog 3 #[.agg x.cells] w fun e w' => e = .returned (.bool true) ∧ Below w.heap.size w w' := by
  have HT := Lib.hid ht
  have HD := Lib.hid h200
  clear ht hE h200
  go_enter Tryz.func3, Tryz.ntmps3
  unfold St.cells
  go_wp2_with fail
  have HFw := few_one x (w.heap.size + 1) ((w.alloc (.cells x.cells 26)).alloc (.cells x.cells 26)) (by have := heap_alloc_new (w.alloc (.cells x.cells 26)) (.cells x.cells 26); rw [World.size_alloc] at this; exact this)
  rw [decide_eq_false HD.out] at HFw
  refine HFw.mono ?_
  rintro _ w1 ⟨rfl, hb⟩
  have HX1 : Hid (LB w x w1) := Lib.hid (LB.start (((Below.refl _ (w.alloc (.cells x.cells 26))).alloc (Nat.le_refl _) (.cells x.cells 26)).trans (hb.mono (by simp))))
  clear hb HFw
  go_wp2_with fail
  refine (awake_any w1 (tabB HT.out HX1.out.b)).mono ?_
  rintro _ wa ⟨rfl, hba⟩
  have HA := Lib.hid (HX1.out.below hba)
  clear hba
  go_wp2
  go_ret
  exact ⟨rfl, HA.out.b⟩

set_option maxRecDepth 100000 in
set_option maxHeartbeats 1000000 in
theorem law_bad (x : St) (h200 : x.d.size ≤ 200) (hr : ¬ rightP x) (w : World) (ht : Dec.Tab w) (hE : ErrsLie w) : Calls Tryz.prog 3 #[.agg x.cells] w fun e w' => e = .returned (.bool true) ∧ Below w.heap.size w w' := by
  have HT := Lib.hid ht
  have HRi := Lib.hid (fun W => right_any x W)
  have HRr := Lib.hid (fun W => rright_any x W)
  rw [decide_eq_false hr] at HRi HRr
  have HP := Lib.hid (fun W => put_bad x hr W)
  have HL := Lib.hid (fun W => line_bad x hr W)
  have HD := Lib.hid h200
  clear ht hE h200 hr
  go_enter Tryz.func3, Tryz.ntmps3
  unfold St.cells
  go_wp2_with fail
  have HFw := few_one x (w.heap.size + 1) ((w.alloc (.cells x.cells 26)).alloc (.cells x.cells 26)) (by have := heap_alloc_new (w.alloc (.cells x.cells 26)) (.cells x.cells 26); rw [World.size_alloc] at this; exact this)
  rw [decide_eq_true HD.out] at HFw
  refine HFw.mono ?_
  rintro _ w1 ⟨rfl, hb⟩
  have HX1 : Hid (LB w x w1) := Lib.hid (LB.start (((Below.refl _ (w.alloc (.cells x.cells 26))).alloc (Nat.le_refl _) (.cells x.cells 26)).trans (hb.mono (by simp))))
  clear hb HFw
  obtain ⟨c0, c1, c2, c3, c4, c5, c6, c7⟩ := HX1.out.cells
  have lt := HX1.out.lt
  go_wp2_with fail
  refine (HP.out _).mono ?_
  rintro _ w2 ⟨rfl, hb2⟩
  have HX2 := Lib.hid (HX1.out.below hb2)
  clear hb2
  clear c0 c1 c2 c3 c4 c5 c6 c7 lt
  obtain ⟨c0, c1, c2, c3, c4, c5, c6, c7⟩ := HX2.out.cells
  have lt := HX2.out.lt
  go_wp2_with fail
  refine (HL.out _).mono ?_
  rintro _ w3 ⟨rfl, hb3⟩
  have HX3 := Lib.hid (HX2.out.below hb3)
  clear hb3
  clear c0 c1 c2 c3 c4 c5 c6 c7 lt
  obtain ⟨c0, c1, c2, c3, c4, c5, c6, c7⟩ := HX3.out.cells
  have lt := HX3.out.lt
  go_upto_region 5 with fail
  clear c0 c1 c2 c3 c4 c5 c6 c7 lt
  refine wp_region_held_drew (S := fun W => LB w x W) (by kernel_rfl) (LB.drew HX3.out) (fun hHeld => ?_)
  refine wpAnyH_take (i := 0) (oi := _) (v := ?_) rfl (by kernel_rfl) (by kernel_rfl) (by kernel_rfl) (fun _ _ _ h => h) (Or.inl ⟨by rfl, ?_⟩) (by assumption) ?_
  rotate_left
  · (intro W hSw; (refine yields_row 26 (.tmp 1) ?_ w.heap.size ?_ 26 x.cells (0, 0) _ hSw.box Tryz.underlying26 rfl ?_); rfl; rfl; kernel_rfl)
  try simp only [Act.put, List.getElem_toArray, List.getElem_cons_zero, List.setIfInBounds_toArray, List.set_cons_zero, List.set_cons_succ]
  refine wpAnyH_take (i := 2) (oi := _) (v := ?_) rfl (by kernel_rfl) (by kernel_rfl) (by kernel_rfl) (fun _ _ _ h => h) (Or.inl ⟨by rfl, ?_⟩) (by assumption) ?_
  rotate_left
  · (intro W hSw; (refine yields_row 26 (.tmp 1) ?_ w.heap.size ?_ 26 x.cells (0, 0) _ hSw.box Tryz.underlying26 rfl ?_); rfl; rfl; kernel_rfl)
  try simp only [Act.put, List.getElem_toArray, List.getElem_cons_succ, List.getElem_cons_zero, List.setIfInBounds_toArray, List.set_cons_zero, List.set_cons_succ]
  refine wpAnyH_ready (rs := [1]) (by kernel_rfl) (by simp) ?_
  refine AllReadyH.cons rfl (fun K hK => ?_) AllReadyH.nil
  simp only [List.getElem_toArray, List.getElem_cons_succ, List.getElem_cons_zero]
  rw [if_pos (by rfl)]
  go_simp
  refine (HRi.out _).mono ?_
  rintro _ v1 ⟨rfl, b1⟩
  have g1 := LB.below hHeld b1
  go_wp2_with fail
  refine hK.out _ _ g1 (fun hHeld => ?_)
  clear hK K
  try simp only [Act.put, List.getElem_toArray, List.getElem_cons_succ, List.getElem_cons_zero, List.setIfInBounds_toArray, List.set_cons_zero, List.set_cons_succ]
  refine wpAnyH_ready (rs := [3]) (by kernel_rfl) (by simp) ?_
  refine AllReadyH.cons rfl (fun K hK => ?_) AllReadyH.nil
  simp only [List.getElem_toArray, List.getElem_cons_succ, List.getElem_cons_zero]
  rw [if_pos (by rfl)]
  go_simp
  refine (HRr.out _).mono ?_
  rintro _ v2 ⟨rfl, b2⟩
  have g2 := LB.below g1 b2
  go_wp2_with fail
  refine hK.out _ _ g2 (fun hHeld => ?_)
  clear hK K
  try simp only [Act.put, List.getElem_toArray, List.getElem_cons_succ, List.getElem_cons_zero, List.setIfInBounds_toArray, List.set_cons_zero, List.set_cons_succ]
  refine wpAnyH_take (i := 4) (oi := _) (v := ?_) rfl (by kernel_rfl) (by kernel_rfl) (by kernel_rfl) (fun _ _ _ h => h) (Or.inl ⟨by rfl, ?_⟩) (by assumption) ?_
  rotate_left
  · (intro W hSw; (try dsimp only at hSw); go_simp; try with_reducible rfl)
  try simp only [Act.put, List.getElem_toArray, List.getElem_cons_succ, List.getElem_cons_zero, List.setIfInBounds_toArray, List.set_cons_zero, List.set_cons_succ]
  refine wpAnyH_done (by kernel_rfl) ?_ _
  have HX5 := Lib.hid g2
  clear hHeld
  obtain ⟨c0, c1, c2, c3, c4, c5, c6, c7⟩ := HX5.out.cells
  have lt := HX5.out.lt
  go_wp2_with fail
  refine (HRr.out _).mono ?_
  rintro _ w6 ⟨rfl, hb6⟩
  have HX6 := Lib.hid (HX5.out.below hb6)
  clear hb6
  clear c0 c1 c2 c3 c4 c5 c6 c7 lt
  go_wp2_with fail
  refine (awake_any _ (tabB HT.out HX6.out.b)).mono ?_
  rintro _ wa ⟨rfl, hba⟩
  have HA := Lib.hid (HX6.out.below hba)
  clear hba
  go_wp2
  go_ret
  exact ⟨rfl, HA.out.b⟩

set_option maxRecDepth 100000 in
set_option maxHeartbeats 1000000 in
theorem law_good (x : St) (h200 : x.d.size ≤ 200) (hr : rightP x) (t0 : 0 ≤ x.t) (t1 : x.t < 18446744073709551616) (w : World) (ht : Dec.Tab w) (hE : ErrsLie w) : Calls Tryz.prog 3 #[.agg x.cells] w fun e w' => e = .returned (.bool true) ∧ Below w.heap.size w w' := by
  have HT := Lib.hid ht
  have HRi := Lib.hid (fun W => right_any x W)
  have HRr := Lib.hid (fun W => rright_any x W)
  rw [decide_eq_true hr] at HRi HRr
  have HP := Lib.hid (fun W => put_ok x hr t0 t1 W)
  have HL := Lib.hid (fun (W : World) (h : Dec.Tab W) => line_ok x hr t0 t1 W h)
  have HG := Lib.hid (fun W => get_ok x hr t0 t1 W)
  have HPa := Lib.hid (fun (W : World) (h : Dec.Tab W) (h2 : ErrsLie W) => parse_line x hr t0 t1 W h h2)
  have HPr := Lib.hid (fun W => rput_ok x hr t0 t1 W)
  have HLr := Lib.hid (fun W => rline_ok x hr t0 t1 W)
  have HEq := Lib.hid (fun W => eq_self x W)
  have HEe := Lib.hid hE
  have HD := Lib.hid h200
  clear ht hE h200 hr t0 t1
  go_enter Tryz.func3, Tryz.ntmps3
  unfold St.cells
  go_wp2_with fail
  have HFw := few_one x (w.heap.size + 1) ((w.alloc (.cells x.cells 26)).alloc (.cells x.cells 26)) (by have := heap_alloc_new (w.alloc (.cells x.cells 26)) (.cells x.cells 26); rw [World.size_alloc] at this; exact this)
  rw [decide_eq_true HD.out] at HFw
  refine HFw.mono ?_
  rintro _ w1 ⟨rfl, hb⟩
  have HX1 : Hid (LB w x w1) := Lib.hid (LB.start (((Below.refl _ (w.alloc (.cells x.cells 26))).alloc (Nat.le_refl _) (.cells x.cells 26)).trans (hb.mono (by simp))))
  clear hb HFw
  obtain ⟨c0, c1, c2, c3, c4, c5, c6, c7⟩ := HX1.out.cells
  have lt := HX1.out.lt
  go_wp2_with fail
  refine (HP.out _).mono ?_
  rintro _ w2 ⟨rfl, hb2⟩
  have HX2 := Lib.hid (HX1.out.below hb2)
  clear hb2
  clear c0 c1 c2 c3 c4 c5 c6 c7 lt
  obtain ⟨c0, c1, c2, c3, c4, c5, c6, c7⟩ := HX2.out.cells
  have lt := HX2.out.lt
  go_wp2_with fail
  refine (HL.out _ (tabB HT.out HX2.out.b)).mono ?_
  rintro _ w3 ⟨rfl, hb3⟩
  have HX3 := Lib.hid (HX2.out.below hb3)
  clear hb3
  clear c0 c1 c2 c3 c4 c5 c6 c7 lt
  obtain ⟨c0, c1, c2, c3, c4, c5, c6, c7⟩ := HX3.out.cells
  have lt := HX3.out.lt
  go_upto_region 5 with fail
  clear c0 c1 c2 c3 c4 c5 c6 c7 lt
  refine wp_region_held_drew (S := fun W => LB w x W) (by kernel_rfl) (LB.drew HX3.out) (fun hHeld => ?_)
  refine wpAnyH_take (i := 0) (oi := _) (v := ?_) rfl (by kernel_rfl) (by kernel_rfl) (by kernel_rfl) (fun _ _ _ h => h) (Or.inl ⟨by rfl, ?_⟩) (by assumption) ?_
  rotate_left
  · (intro W hSw; (refine yields_row 26 (.tmp 1) ?_ w.heap.size ?_ 26 x.cells (0, 0) _ hSw.box Tryz.underlying26 rfl ?_); rfl; rfl; kernel_rfl)
  try simp only [Act.put, List.getElem_toArray, List.getElem_cons_zero, List.setIfInBounds_toArray, List.set_cons_zero, List.set_cons_succ]
  refine wpAnyH_take (i := 2) (oi := _) (v := ?_) rfl (by kernel_rfl) (by kernel_rfl) (by kernel_rfl) (fun _ _ _ h => h) (Or.inl ⟨by rfl, ?_⟩) (by assumption) ?_
  rotate_left
  · (intro W hSw; (refine yields_row 26 (.tmp 1) ?_ w.heap.size ?_ 26 x.cells (0, 0) _ hSw.box Tryz.underlying26 rfl ?_); rfl; rfl; kernel_rfl)
  try simp only [Act.put, List.getElem_toArray, List.getElem_cons_succ, List.getElem_cons_zero, List.setIfInBounds_toArray, List.set_cons_zero, List.set_cons_succ]
  refine wpAnyH_ready (rs := [1]) (by kernel_rfl) (by simp) ?_
  refine AllReadyH.cons rfl (fun K hK => ?_) AllReadyH.nil
  simp only [List.getElem_toArray, List.getElem_cons_succ, List.getElem_cons_zero]
  rw [if_pos (by rfl)]
  go_simp
  refine (HRi.out _).mono ?_
  rintro _ v1 ⟨rfl, b1⟩
  have g1 := LB.below hHeld b1
  go_wp2_with fail
  refine hK.out _ _ g1 (fun hHeld => ?_)
  clear hK K
  try simp only [Act.put, List.getElem_toArray, List.getElem_cons_succ, List.getElem_cons_zero, List.setIfInBounds_toArray, List.set_cons_zero, List.set_cons_succ]
  refine wpAnyH_ready (rs := [3]) (by kernel_rfl) (by simp) ?_
  refine AllReadyH.cons rfl (fun K hK => ?_) AllReadyH.nil
  simp only [List.getElem_toArray, List.getElem_cons_succ, List.getElem_cons_zero]
  rw [if_pos (by rfl)]
  go_simp
  refine (HRr.out _).mono ?_
  rintro _ v2 ⟨rfl, b2⟩
  have g2 := LB.below g1 b2
  go_wp2_with fail
  refine hK.out _ _ g2 (fun hHeld => ?_)
  clear hK K
  try simp only [Act.put, List.getElem_toArray, List.getElem_cons_succ, List.getElem_cons_zero, List.setIfInBounds_toArray, List.set_cons_zero, List.set_cons_succ]
  refine wpAnyH_take (i := 4) (oi := _) (v := ?_) rfl (by kernel_rfl) (by kernel_rfl) (by kernel_rfl) (fun _ _ _ h => h) (Or.inl ⟨by rfl, ?_⟩) (by assumption) ?_
  rotate_left
  · (intro W hSw; (try dsimp only at hSw); go_simp; try with_reducible rfl)
  try simp only [Act.put, List.getElem_toArray, List.getElem_cons_succ, List.getElem_cons_zero, List.setIfInBounds_toArray, List.set_cons_zero, List.set_cons_succ]
  refine wpAnyH_done (by kernel_rfl) ?_ _
  have HX5 := Lib.hid g2
  clear hHeld
  obtain ⟨c0, c1, c2, c3, c4, c5, c6, c7⟩ := HX5.out.cells
  have lt := HX5.out.lt
  go_wp2_with fail
  refine (HRr.out _).mono ?_
  rintro _ w6 ⟨rfl, hb6⟩
  have HX6 := Lib.hid (HX5.out.below hb6)
  clear hb6
  clear c0 c1 c2 c3 c4 c5 c6 c7 lt
  go_wp2_with fail
  refine (HG.out _).mono ?_
  rintro _ w7 ⟨rfl, hb7⟩
  have HX7 := Lib.hid (HX6.out.below hb7)
  clear hb7
  unfold St.cells
  go_wp2_with fail
  have HX7a : LB w x (w7.alloc (.cells x.cells 26)) := HX7.out.below ((Below.refl _ w7).alloc (Nat.le_refl _) (.cells x.cells 26))
  refine (HPa.out (w7.alloc (.cells x.cells 26)) (tabB HT.out HX7a.b) (HEe.out.below HX7a.b)).mono ?_
  rintro _ w8 ⟨rfl, hb8⟩
  have hY : w8.heap[w7.heap.size]? = some (.cells x.cells 26 (0, 0)) := (hb8.block _ (by simp)).trans (heap_alloc_new _ _)
  have HX8 := Lib.hid (HX7a.below hb8)
  obtain ⟨Y, hYs⟩ : ∃ Y, w7.heap.size = Y := ⟨_, rfl⟩
  rw [hYs] at hY ⊢
  have HY := Lib.hid hY
  clear hb8 HX7a hY hYs
  unfold St.cells
  go_wp2_with fail
  have HX8a : L3 w x Y w8.heap.size (w8.alloc (.cells x.cells 26)) := ⟨HX8.out.below ((Below.refl _ w8).alloc (Nat.le_refl _) (.cells x.cells 26)), (Below.heap_alloc _ _ _ (Array.getElem?_eq_some_iff.1 HY.out).1).trans HY.out, heap_alloc_new _ _⟩
  refine (awake_any (w8.alloc (.cells x.cells 26)) (tabB HT.out HX8a.l.b)).mono ?_
  rintro _ w9 ⟨rfl, hb9⟩
  have HX9 := Lib.hid (HX8a.below hb9)
  obtain ⟨Z, hZs⟩ : ∃ Z, w8.heap.size = Z := ⟨_, rfl⟩
  rw [hZs] at HX9 ⊢
  clear hb9 HX8a hZs
  have hcc := HX9.out.cells
  have c0 := (hcc 0).1; have c1 := (hcc 1).1; have c2 := (hcc 2).1; have c3 := (hcc 3).1; have c4 := (hcc 4).1; have c5 := (hcc 5).1; have c6 := (hcc 6).1; have c7 := (hcc 7).1
  have d0 := (hcc 0).2.1; have d1 := (hcc 1).2.1; have d2 := (hcc 2).2.1; have d3 := (hcc 3).2.1; have d4 := (hcc 4).2.1; have d5 := (hcc 5).2.1; have d6 := (hcc 6).2.1; have d7 := (hcc 7).2.1
  have e0 := (hcc 0).2.2; have e1 := (hcc 1).2.2; have e2 := (hcc 2).2.2; have e3 := (hcc 3).2.2; have e4 := (hcc 4).2.2; have e5 := (hcc 5).2.2; have e6 := (hcc 6).2.2; have e7 := (hcc 7).2.2
  simp only [St.cells, List.getElem?_toArray, List.getElem?_cons_zero, List.getElem?_cons_succ] at c0 c1 c2 c3 c4 c5 c6 c7 d0 d1 d2 d3 d4 d5 d6 d7 e0 e1 e2 e3 e4 e5 e6 e7
  clear hcc
  go_wp2_with fail
  refine (HPr.out _).mono ?_
  rintro _ w10 ⟨rfl, hb10⟩
  have HX10 := Lib.hid (HX9.out.below hb10)
  clear hb10
  clear c0 c1 c2 c3 c4 c5 c6 c7 d0 d1 d2 d3 d4 d5 d6 d7 e0 e1 e2 e3 e4 e5 e6 e7
  have hcc := HX10.out.cells
  have c0 := (hcc 0).1; have c1 := (hcc 1).1; have c2 := (hcc 2).1; have c3 := (hcc 3).1; have c4 := (hcc 4).1; have c5 := (hcc 5).1; have c6 := (hcc 6).1; have c7 := (hcc 7).1
  have d0 := (hcc 0).2.1; have d1 := (hcc 1).2.1; have d2 := (hcc 2).2.1; have d3 := (hcc 3).2.1; have d4 := (hcc 4).2.1; have d5 := (hcc 5).2.1; have d6 := (hcc 6).2.1; have d7 := (hcc 7).2.1
  have e0 := (hcc 0).2.2; have e1 := (hcc 1).2.2; have e2 := (hcc 2).2.2; have e3 := (hcc 3).2.2; have e4 := (hcc 4).2.2; have e5 := (hcc 5).2.2; have e6 := (hcc 6).2.2; have e7 := (hcc 7).2.2
  simp only [St.cells, List.getElem?_toArray, List.getElem?_cons_zero, List.getElem?_cons_succ] at c0 c1 c2 c3 c4 c5 c6 c7 d0 d1 d2 d3 d4 d5 d6 d7 e0 e1 e2 e3 e4 e5 e6 e7
  clear hcc
  go_wp2_with fail
  refine (HLr.out _).mono ?_
  rintro _ w11 ⟨rfl, hb11⟩
  have HX11 := Lib.hid (HX10.out.below hb11)
  clear hb11
  clear c0 c1 c2 c3 c4 c5 c6 c7 d0 d1 d2 d3 d4 d5 d6 d7 e0 e1 e2 e3 e4 e5 e6 e7
  have hcc := HX11.out.cells
  have c0 := (hcc 0).1; have c1 := (hcc 1).1; have c2 := (hcc 2).1; have c3 := (hcc 3).1; have c4 := (hcc 4).1; have c5 := (hcc 5).1; have c6 := (hcc 6).1; have c7 := (hcc 7).1
  have d0 := (hcc 0).2.1; have d1 := (hcc 1).2.1; have d2 := (hcc 2).2.1; have d3 := (hcc 3).2.1; have d4 := (hcc 4).2.1; have d5 := (hcc 5).2.1; have d6 := (hcc 6).2.1; have d7 := (hcc 7).2.1
  have e0 := (hcc 0).2.2; have e1 := (hcc 1).2.2; have e2 := (hcc 2).2.2; have e3 := (hcc 3).2.2; have e4 := (hcc 4).2.2; have e5 := (hcc 5).2.2; have e6 := (hcc 6).2.2; have e7 := (hcc 7).2.2
  simp only [St.cells, List.getElem?_toArray, List.getElem?_cons_zero, List.getElem?_cons_succ] at c0 c1 c2 c3 c4 c5 c6 c7 d0 d1 d2 d3 d4 d5 d6 d7 e0 e1 e2 e3 e4 e5 e6 e7
  clear hcc
  have heq := HEq.out
  unfold St.cells at heq
  go_wp2
  go_ret
  exact ⟨rfl, HX11.out.l.b⟩

theorem walk (x : St) (hx : 0 ≤ x.t ∧ x.t < 18446744073709551616 ∧ x.d.size ≤ maxLen) (w : World) (hg : Dec.Tab w ∧ ErrsLie w) : Calls Tryz.prog 3 #[.agg x.cells] w fun e w' => e = .returned (.bool true) ∧ Below w.heap.size w w' := by
  by_cases h : x.d.size ≤ 200
  · by_cases hr : rightP x
    · exact law_good x h hr hx.1 hx.2.1 w hg.1 hg.2
    · exact law_bad x h hr w hg.1 hg.2
  · exact law_long x h w hg.1 hg.2

end Go.Proofs.YtnjcenbmdcogpaaGreatDoor.Sp
/- A step that came in: opened to its fields. -/
namespace Go.Proofs.YtnjcenbmdcogpaaGreatDoor.Sp
open Go Go.RowKit Go.Deep Go.WideShapes

theorem cells_int : Tryz.prog.cellsOf 3 = 1 := by kernel_rfl
theorem cells_u64 : Tryz.prog.cellsOf 22 = 1 := by kernel_rfl
theorem cells_string : Tryz.prog.cellsOf 9 = 1 := by kernel_rfl
theorem cells_packet : Tryz.prog.cellsOf 24 = 5 := by kernel_rfl
theorem cells_step : Tryz.prog.cellsOf 26 = 8 := by kernel_rfl

section
variable {H : Type} {enc : TypeId × Value → H} {w : World} {base : Nat} {spare : Nat → Bool} {held : Bool}
theorem field_at {t : TypeId} {fs : Array Field} {n : Nat} {cs : List Value} {xs : List (DataW H × List MemPlace)} (hlen : xs.length = fs.size)
    (h : ∀ (i : Nat) (f : Field), fs[i]? = some f → DataW.trod enc Tryz.prog w base spare held n f.type ((cs.drop f.offset).take (Tryz.prog.cellsOf f.type)) = xs[i]?)
    (i : Nat) (f : Field) (hf : fs[i]? = some f) (_ht : f.type = t) : ∃ y, DataW.trod enc Tryz.prog w base spare held n f.type ((cs.drop f.offset).take (Tryz.prog.cellsOf f.type)) = some y := by
  have hi : i < fs.size := (Array.getElem?_eq_some_iff.1 hf).1
  exact ⟨xs[i]'(by omega), (h i f hf).trans (List.getElem?_eq_getElem (by omega))⟩

set_option maxRecDepth 100000 in
theorem open_pkt {fuel : Nat} {cs : List Value} {x : DataW H × List MemPlace} (h : DataW.trod enc Tryz.prog w base spare held fuel 24 cs = some x) :
    ∃ (a0 a1 a2 a3 : Int) (a4 : ByteArray), cs = [.int .i64 a0, .int .i64 a1, .int .u64 a2, .int .u64 a3, .string a4] ∧ 0 ≤ a3 ∧ a3 < 18446744073709551616 ∧ a4.size ≤ maxLen := by
  obtain ⟨xs, n, _, _, hcl, hlen, hf⟩ := DataW.trod_struct Tryz.underlying24 h
  rw [cells_packet] at hcl
  obtain ⟨y0, h0⟩ := field_at hlen hf 0 _ rfl rfl
  obtain ⟨y1, h1⟩ := field_at hlen hf 1 _ rfl rfl
  obtain ⟨y2, h2⟩ := field_at hlen hf 2 _ rfl rfl
  obtain ⟨y3, h3⟩ := field_at hlen hf 3 _ rfl rfl
  obtain ⟨y4, h4⟩ := field_at hlen hf 4 _ rfl rfl
  obtain ⟨a0, e0, _, _⟩ := DataW.trod_int Tryz.underlying3 h0
  obtain ⟨a1, e1, _, _⟩ := DataW.trod_int Tryz.underlying3 h1
  obtain ⟨a2, e2, _, _⟩ := DataW.trod_int Tryz.underlying22 h2
  obtain ⟨a3, e3, _, w3⟩ := DataW.trod_int Tryz.underlying22 h3
  obtain ⟨a4, e4, _, w4⟩ := DataW.trod_string Tryz.underlying9 h4
  have b3 := bounds_u64 w3
  refine ⟨a0, a1, a2, a3, a4, ?_, b3.1, by have := b3.2; omega, w4⟩
  have e0' : (cs.drop 0).take 1 = [.int .i64 a0] := e0
  have e1' : (cs.drop 1).take 1 = [.int .i64 a1] := e1
  have e2' : (cs.drop 2).take 1 = [.int .u64 a2] := e2
  have e3' : (cs.drop 3).take 1 = [.int .u64 a3] := e3
  have e4' : (cs.drop 4).take 1 = [.string a4] := e4
  match cs, hcl with
  | [b0, b1, b2, b3, b4], _ => simp at e0' e1' e2' e3' e4'; subst e0' e1' e2' e3' e4'; rfl

set_option maxRecDepth 100000 in
theorem open_step {fuel : Nat} {cs : List Value} {x : DataW H × List MemPlace} (h : DataW.trod enc Tryz.prog w base spare held fuel 26 cs = some x) :
    ∃ q : St, (0 ≤ q.t ∧ q.t < 18446744073709551616 ∧ q.d.size ≤ maxLen) ∧ cs = q.cells.toList := by
  obtain ⟨xs, n, _, _, hcl, hlen, hf⟩ := DataW.trod_struct Tryz.underlying26 h
  rw [cells_step] at hcl
  obtain ⟨y0, h0⟩ := field_at hlen hf 0 _ rfl rfl
  obtain ⟨y1, h1⟩ := field_at hlen hf 1 _ rfl rfl
  obtain ⟨y2, h2⟩ := field_at hlen hf 2 _ rfl rfl
  obtain ⟨y3, h3⟩ := field_at hlen hf 3 _ rfl rfl
  obtain ⟨a0, e0, _, _⟩ := DataW.trod_int Tryz.underlying3 h0
  obtain ⟨a1, e1, _, _⟩ := DataW.trod_int Tryz.underlying3 h1
  obtain ⟨a2, e2, _, _⟩ := DataW.trod_int Tryz.underlying3 h2
  obtain ⟨c0, c1, c2, c3, c4, e3, t0, t1, hd⟩ := open_pkt h3
  refine ⟨⟨a0, a1, a2, c0, c1, c2, c3, c4⟩, ⟨t0, t1, hd⟩, ?_⟩
  have e0' : (cs.drop 0).take 1 = [.int .i64 a0] := e0
  have e1' : (cs.drop 1).take 1 = [.int .i64 a1] := e1
  have e2' : (cs.drop 2).take 1 = [.int .i64 a2] := e2
  have e3' : (cs.drop 3).take 5 = [.int .i64 c0, .int .i64 c1, .int .u64 c2, .int .u64 c3, .string c4] := e3
  match cs, hcl with
  | [b0, b1, b2, b3, b4, b5, b6, b7], _ => simp at e0' e1' e2' e3'; obtain ⟨f0, f1, f2, f3, f4⟩ := e3'; subst e0' e1' e2' f0 f1 f2 f3 f4; rfl

set_option maxRecDepth 100000 in
theorem open_step_val {r : Reach} {b0 : Nat} {v : Value} {d : DataW H} {p : List MemPlace} (ok : Value.okWide Tryz.prog w r b0 26 v) (h : DataW.Trod enc Tryz.prog w base spare held 26 v d p) : ∃ q : St, (0 ≤ q.t ∧ q.t < 18446744073709551616 ∧ q.d.size ≤ maxLen) ∧ v = .agg q.cells := by
  obtain ⟨cs, rfl, _⟩ := okWide_struct Tryz.underlying26 ok
  obtain ⟨fuel, hf⟩ := h
  obtain ⟨q, ho, hm⟩ := open_step (cs := cs.toList) hf
  exact ⟨q, ho, congrArg Value.agg (Array.toList_inj.1 hm)⟩
end
end Go.Proofs.YtnjcenbmdcogpaaGreatDoor.Sp
/- The law StepPuts on a step that came in. -/
namespace Go.Proofs.YtnjcenbmdcogpaaGreatDoor.Sp
open Go Go.RowKit
set_option maxRecDepth 100000 in
theorem putsWalk {H : Type} {enc : TypeId × Value → H} {spare : Nat → Bool} {held : Bool} {w : World} {base : Nat} {v : Value} {d : DataW H} {p : List MemPlace}
    (ok : Value.okWide Tryz.prog w .any base 26 v) (h : DataW.Trod enc Tryz.prog w 0 spare held 26 v d p) (hg : Dec.Tab w ∧ ErrsLie w) :
    Calls Tryz.prog 3 #[v] w fun e w' => e = .returned (.bool true) ∧ Below w.heap.size w w' := by
  obtain ⟨q, ho, rfl⟩ := open_step_val ok h
  exact walk q ho w hg
end Go.Proofs.YtnjcenbmdcogpaaGreatDoor.Sp
