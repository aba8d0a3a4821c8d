/- The law EventPuts. -/
import Derived.Test.YtpakefgbjncdiabEvGet
import Derived.Test.YtpakefgbjncdiabEvWord
import Derived.Test.YtpakefgbjncdiabEvOpen
import Derived.Test.YtpakefgbjncdiabEventAwake
import Derived.Deep.RegionHeld3
namespace Go.Proofs.Ytpakefgbjncdiab.Ev
open Go Go.RowKit Num Texts
open eventFinds (awake_any)

theorem yields_row {P : Program} {o : Oper} {a : Act} {w : World} (ty : TypeId) (x : Operand) (ho : o.op = .load ty x) (g : Nat) (hx : a.eval x = .pointer (some ⟨g, 0, none⟩)) (t : TypeId) (cs : Array Value) (fr : Nat × Nat) (d : TypeDesc) (hg : w.heap[g]? = some (.cells cs t fr))
    (hu : P.underlying ty = some d) (hd : (match d with | .struct _ | .array _ _ => true | _ => false) = true) (hi : (P.info? ty).map (·.size) = some cs.size) :
    (execOp a.eval o).run P w = .ok (.value (.agg cs)) w := by
  unfold execOp
  simp only [ho, hx, Instr.loadAt, Instr.sureAddr, Sem.run_bind, Sem.run_pure, Result.andThen_ok, run_loadVar_row w g t ty cs fr d hg hu hd hi]

def efew (m : E8) : Bool := decide (m.d.size ≤ 200) && decide (m.a.size ≤ 200)
theorem few_any (m : E8) (w : World) : Calls Try.prog 4 #[.agg #[.int .i64 m.k, .int .u64 m.h, .int .i64 m.c, .int .i64 m.f, .int .u64 m.s, .int .u64 m.t, .string m.d, .string m.a]] w fun e w' => e = .returned (.bool (efew m)) ∧ Below w.heap.size w w' := by
  have hB : ∀ o, Below w.heap.size w (w.alloc o) := fun o => (Below.refl _ _).alloc (Nat.le_refl _) _
  by_cases h1 : m.d.size ≤ 200
  · have i1 : (m.d.size : Int) ≤ 200 := by omega
    by_cases h2 : m.a.size ≤ 200
    · have i2 : (m.a.size : Int) ≤ 200 := by omega
      have HF := Lib.hid (show efew m = true by unfold efew; rw [decide_eq_true h1, decide_eq_true h2]; rfl)
      clear h1 h2
      go_enter Try.func4, Try.ntmps4
      go_wp2
      go_ret
      exact ⟨by rw [HF.out]; rfl, hB _⟩
    · have i2 : decide ((m.a.size : Int) ≤ 200) = false := decide_eq_false (by omega)
      have HF := Lib.hid (show efew m = false by unfold efew; rw [decide_eq_false h2]; simp)
      clear h1 h2
      go_enter Try.func4, Try.ntmps4
      go_wp2
      go_ret
      exact ⟨by rw [HF.out, ← i2]; rfl, hB _⟩
  · have i1 : ¬ (m.d.size : Int) ≤ 200 := by omega
    have HF := Lib.hid (show efew m = false by unfold efew; rw [decide_eq_false h1]; simp)
    clear h1
    go_enter Try.func4, Try.ntmps4
    go_wp2
    go_ret
    exact ⟨by rw [HF.out]; rfl, hB _⟩

theorem eq_self (m : E8) (w : World) : (binOp .eql 26 (.agg #[.int .i64 m.k, .int .u64 m.h, .int .i64 m.c, .int .i64 m.f, .int .u64 m.s, .int .u64 m.t, .string m.d, .string m.a]) (.agg #[.int .i64 m.k, .int .u64 m.h, .int .i64 m.c, .int .i64 m.f, .int .u64 m.s, .int .u64 m.t, .string m.d, .string m.a])).run Try.prog w = .ok (.bool true) w := by
  go_simp

set_option maxRecDepth 100000 in
set_option maxHeartbeats 1000000 in
theorem puts_few (m : E8) (h : efew m = false) (w : World) : Calls Try.prog 3 #[.agg m.cells] w fun e w' => e = .returned (.bool true) ∧ Below w.heap.size w w' := by
  have HF := Lib.hid (few_any m)
  rw [h] at HF
  have HN := Lib.hid (newE w m)
  clear h
  unfold E8.cells
  go_enter Try.func3, Try.ntmps3
  go_wp2_with fail
  refine (HF.out _).mono ?_
  rintro _ w1 ⟨rfl, b1⟩
  have N1 := Lib.hid (keepE HN.out b1)
  clear b1
  go_wp2_with fail
  refine (awake_any _).mono ?_
  rintro _ w2 ⟨rfl, b2⟩
  have N2 := keepE N1.out b2
  go_wp2
  go_ret
  exact ⟨rfl, N2.1⟩

set_option maxRecDepth 100000 in
set_option maxHeartbeats 1000000 in
theorem puts_mid (m : E8) (r : Bool) (s : ByteArray) (e0 : Int) (w : World) (hfw : efew m = true) (hmr : eright m = r)
    (hput : ∀ W, Calls Try.prog 6 #[.agg #[.int .i64 m.k, .int .u64 m.h, .int .i64 m.c, .int .i64 m.f, .int .u64 m.s, .int .u64 m.t, .string m.d, .string m.a]] W fun e w' => e = .returned (.tuple #[.string s, .int .i64 e0]) ∧ Below W.heap.size W w')
    (hend : r = false ∧ s = ⟨#[]⟩ ∧ e0 = 1 ∨ (r = true ∧ e0 = 0 ∧ (∀ W, Calls Try.prog 11 #[.string s] W fun e w' => e = .returned (.tuple #[.agg m.cells, .int .i64 0]) ∧ Below W.heap.size W w') ∧ ∀ W, Calls Try.prog 12 #[.agg #[.int .i64 m.k, .int .u64 m.h, .int .i64 m.c, .int .i64 m.f, .int .u64 m.s, .int .u64 m.t, .string m.d, .string m.a]] W fun e w' => e = .returned (.string s) ∧ Below W.heap.size W w')) :
    Calls Try.prog 3 #[.agg m.cells] w fun e w' => e = .returned (.bool true) ∧ Below w.heap.size w w' := by
  have hri := eright_any m
  have hrr := reright_any m
  have hfew := few_any m
  rw [hmr] at hri hrr
  rw [hfw] at hfew
  have HF := Lib.hid hfew
  have HPu := Lib.hid hput
  have HRi := Lib.hid hri
  have HRr := Lib.hid hrr
  have HEnd := Lib.hid hend
  have HN := Lib.hid (newE w m)
  clear hput hri hrr hend hmr hfw hfew
  unfold E8.cells
  go_enter Try.func3, Try.ntmps3
  go_upto_region 1 with fail
  change Code.wp _ _ _ _ (w.alloc (.cells m.cells 26))
  obtain ⟨W0, hW⟩ : ∃ X, X = w.alloc (.cells m.cells 26) := ⟨_, rfl⟩
  rw [← hW] at HN ⊢
  obtain ⟨x0, x1, x2, x3, x4, x5, x6, x7⟩ := BoxE.cells HN.out.2
  clear hW
  go_wp2_with fail
  refine (HF.out _).mono ?_
  rintro _ w0 ⟨rfl, b0⟩
  have N0 := Lib.hid (keepE HN.out b0)
  clear b0 x0 x1 x2 x3 x4 x5 x6 x7
  obtain ⟨x0, x1, x2, x3, x4, x5, x6, x7⟩ := BoxE.cells N0.out.2
  go_wp2_with fail
  refine (HPu.out _).mono ?_
  rintro _ w1 ⟨rfl, b1⟩
  have h4 := keepE N0.out b1.drew
  clear b1 x0 x1 x2 x3 x4 x5 x6 x7
  go_upto_region 4 with fail
  refine wp_region_held_drew (S := (fun W => Below w.heap.size w W ∧ BoxE W w.heap.size m)) (by kernel_rfl) h4 (fun hHeld => ?_)
  refine wpAnyH_take (i := 0) (oi := _) (v := ?_) rfl (by kernel_rfl) (by kernel_rfl) (by kernel_rfl) (fun _ _ _ h => h) (Or.inl ⟨by rfl, ?_⟩) (by assumption) ?_
  rotate_left
  · (intro W hSw; (refine yields_row 26 (.tmp 1) ?_ w.heap.size ?_ 26 m.cells (0, 0) _ hSw.2 Try.underlying26 rfl ?_); rfl; rfl; kernel_rfl)
  try simp only [Act.put, List.getElem_toArray, List.getElem_cons_zero, List.setIfInBounds_toArray, List.set_cons_zero, List.set_cons_succ]
  refine wpAnyH_take (i := 2) (oi := _) (v := ?_) rfl (by kernel_rfl) (by kernel_rfl) (by kernel_rfl) (fun _ _ _ h => h) (Or.inl ⟨by rfl, ?_⟩) (by assumption) ?_
  rotate_left
  · (intro W hSw; (refine yields_row 26 (.tmp 1) ?_ w.heap.size ?_ 26 m.cells (0, 0) _ hSw.2 Try.underlying26 rfl ?_); rfl; rfl; kernel_rfl)
  try simp only [Act.put, List.getElem_toArray, List.getElem_cons_succ, List.getElem_cons_zero, List.setIfInBounds_toArray, List.set_cons_zero, List.set_cons_succ]
  refine wpAnyH_ready (rs := [1]) (by kernel_rfl) (by simp) ?_
  refine AllReadyH.cons rfl (fun K hK => ?_) AllReadyH.nil
  simp only [List.getElem_toArray, List.getElem_cons_succ, List.getElem_cons_zero]
  rw [if_pos (by rfl)]
  go_simp
  (go_at_call 7; refine (HRi.out _).mono ?_; rintro _ v1 ⟨rfl, b1⟩; have g1 := keepE hHeld b1)
  go_wp2_with fail
  refine hK.out _ _ g1 (fun hHeld => ?_)
  clear hK K
  try simp only [Act.put, List.getElem_toArray, List.getElem_cons_succ, List.getElem_cons_zero, List.setIfInBounds_toArray, List.set_cons_zero, List.set_cons_succ]
  refine wpAnyH_ready (rs := [3]) (by kernel_rfl) (by simp) ?_
  refine AllReadyH.cons rfl (fun K hK => ?_) AllReadyH.nil
  simp only [List.getElem_toArray, List.getElem_cons_succ, List.getElem_cons_zero]
  rw [if_pos (by rfl)]
  go_simp
  (go_at_call 8; refine (HRr.out _).mono ?_; rintro _ v2 ⟨rfl, b2⟩; have g2 := keepE g1 b2)
  go_wp2_with fail
  refine hK.out _ _ g2 (fun hHeld => ?_)
  clear hK K
  try simp only [Act.put, List.getElem_toArray, List.getElem_cons_succ, List.getElem_cons_zero, List.setIfInBounds_toArray, List.set_cons_zero, List.set_cons_succ]
  refine wpAnyH_take (i := 4) (oi := _) (v := ?_) rfl (by kernel_rfl) (by kernel_rfl) (by kernel_rfl) (fun _ _ _ h => h) (Or.inl ⟨by rfl, ?_⟩) (by assumption) ?_
  rotate_left
  · (intro W hSw; (try dsimp only at hSw); go_simp; try with_reducible rfl)
  try simp only [Act.put, List.getElem_toArray, List.getElem_cons_succ, List.getElem_cons_zero, List.setIfInBounds_toArray, List.set_cons_zero, List.set_cons_succ]
  refine wpAnyH_take (i := 5) (oi := _) (v := ?_) rfl (by kernel_rfl) (by kernel_rfl) (by kernel_rfl) (fun _ _ _ h => h) (Or.inl ⟨by rfl, ?_⟩) (by assumption) ?_
  rotate_left
  · (intro W hSw; (try dsimp only at hSw); go_simp; try with_reducible rfl)
  try simp only [Act.put, List.getElem_toArray, List.getElem_cons_succ, List.getElem_cons_zero, List.setIfInBounds_toArray, List.set_cons_zero, List.set_cons_succ]
  refine wpAnyH_take (i := 6) (oi := _) (v := ?_) rfl (by kernel_rfl) (by kernel_rfl) (by kernel_rfl) (fun _ _ _ h => h) (Or.inl ⟨by rfl, ?_⟩) (by assumption) ?_
  rotate_left
  · (intro W hSw; (try dsimp only at hSw); go_simp; try with_reducible rfl)
  try simp only [Act.put, List.getElem_toArray, List.getElem_cons_succ, List.getElem_cons_zero, List.setIfInBounds_toArray, List.set_cons_zero, List.set_cons_succ]
  refine wpAnyH_take (i := 7) (oi := _) (v := ?_) rfl (by kernel_rfl) (by kernel_rfl) (by kernel_rfl) (fun _ _ _ h => h) (Or.inl ⟨by rfl, ?_⟩) (by assumption) ?_
  rotate_left
  · (intro W hSw; (obtain ⟨x0, x1, x2, x3, x4, x5, x6, x7⟩ := BoxE.cells hSw.2; clear hSw; go_simp; try with_reducible rfl))
  try simp only [Act.put, List.getElem_toArray, List.getElem_cons_succ, List.getElem_cons_zero, List.setIfInBounds_toArray, List.set_cons_zero, List.set_cons_succ]
  refine wpAnyH_take (i := 9) (oi := _) (v := ?_) rfl (by kernel_rfl) (by kernel_rfl) (by kernel_rfl) (fun _ _ _ h => h) (Or.inl ⟨by rfl, ?_⟩) (by assumption) ?_
  rotate_left
  · (intro W hSw; (try dsimp only at hSw); go_simp; try with_reducible rfl)
  try simp only [Act.put, List.getElem_toArray, List.getElem_cons_succ, List.getElem_cons_zero, List.setIfInBounds_toArray, List.set_cons_zero, List.set_cons_succ]
  refine wpAnyH_take (i := 10) (oi := _) (v := ?_) rfl (by kernel_rfl) (by kernel_rfl) (by kernel_rfl) (fun _ _ _ h => h) (Or.inl ⟨by rfl, ?_⟩) (by assumption) ?_
  rotate_left
  · (intro W hSw; (obtain ⟨x0, x1, x2, x3, x4, x5, x6, x7⟩ := BoxE.cells hSw.2; clear hSw; go_simp; try with_reducible rfl))
  try simp only [Act.put, List.getElem_toArray, List.getElem_cons_succ, List.getElem_cons_zero, List.setIfInBounds_toArray, List.set_cons_zero, List.set_cons_succ]
  refine wpAnyH_ready (rs := [8]) (by kernel_rfl) (by simp) ?_
  refine AllReadyH.cons rfl (fun K hK => ?_) AllReadyH.nil
  simp only [List.getElem_toArray, List.getElem_cons_succ, List.getElem_cons_zero]
  rw [if_pos (by rfl)]
  go_simp
  (go_at_call 9; refine (word_any m.k _).mono ?_; rintro _ v3 ⟨rfl, hv3⟩; obtain rfl := hv3.symm)
  go_wp2_with fail
  refine hK.out _ _ g2 (fun hHeld => ?_)
  clear hK K
  try simp only [Act.put, List.getElem_toArray, List.getElem_cons_succ, List.getElem_cons_zero, List.setIfInBounds_toArray, List.set_cons_zero, List.set_cons_succ]
  refine wpAnyH_ready (rs := [11]) (by kernel_rfl) (by simp) ?_
  refine AllReadyH.cons rfl (fun K hK => ?_) AllReadyH.nil
  simp only [List.getElem_toArray, List.getElem_cons_succ, List.getElem_cons_zero]
  rw [if_pos (by rfl)]
  go_simp
  (go_at_call 10; refine (rword_any m.k _).mono ?_; rintro _ v4 ⟨rfl, b4⟩; have g4 := keepE g2 b4)
  go_wp2_with fail
  refine hK.out _ _ g4 (fun hHeld => ?_)
  clear hK K
  try simp only [Act.put, List.getElem_toArray, List.getElem_cons_succ, List.getElem_cons_zero, List.setIfInBounds_toArray, List.set_cons_zero, List.set_cons_succ]
  refine wpAnyH_take (i := 12) (oi := _) (v := ?_) rfl (by kernel_rfl) (by kernel_rfl) (by kernel_rfl) (fun _ _ _ h => h) (Or.inl ⟨by rfl, ?_⟩) (by assumption) ?_
  rotate_left
  · (intro W hSw; (try dsimp only at hSw); go_simp; try with_reducible rfl)
  try simp only [Act.put, List.getElem_toArray, List.getElem_cons_succ, List.getElem_cons_zero, List.setIfInBounds_toArray, List.set_cons_zero, List.set_cons_succ]
  refine wpAnyH_take (i := 13) (oi := _) (v := ?_) rfl (by kernel_rfl) (by kernel_rfl) (by kernel_rfl) (fun _ _ _ h => h) (Or.inl ⟨by rfl, ?_⟩) (by assumption) ?_
  rotate_left
  · (intro W hSw; (try dsimp only at hSw); go_simp; try with_reducible rfl)
  try simp only [Act.put, List.getElem_toArray, List.getElem_cons_succ, List.getElem_cons_zero, List.setIfInBounds_toArray, List.set_cons_zero, List.set_cons_succ]
  refine wpAnyH_done (by kernel_rfl) ?_ _
  have G9 := Lib.hid g4
  clear g1 g2 g4 b1 b2 b4 h4
  obtain ⟨x0, x1, x2, x3, x4, x5, x6, x7⟩ := BoxE.cells G9.out.2
  go_wp2_with fail
  refine (HRr.out _).mono ?_
  rintro _ w2 ⟨rfl, b2⟩
  have G2 := Lib.hid (keepE G9.out b2)
  clear b2 x0 x1 x2 x3 x4 x5 x6 x7
  rcases HEnd.out with ⟨rfl, rfl, rfl⟩ | ⟨rfl, rfl, hget, hrp⟩
  · go_wp2_with fail
    refine (awake_any _).mono ?_
    rintro _ w3 ⟨rfl, b3⟩
    have G3 := Lib.hid (keepE G2.out b3)
    clear b3
    go_wp2
    go_ret
    exact ⟨rfl, G3.out.1⟩
  · have HRp := Lib.hid hrp
    have HGe := Lib.hid hget
    clear hrp hget
    go_wp2_with fail
    refine (HGe.out _).mono ?_
    rintro _ w3 ⟨rfl, b3⟩
    have G3 := Lib.hid (keepE G2.out b3)
    clear b3 HGe
    have hst := Rd.hst8 w3 m.cells rfl (Rd.cells8_one m)
    go_wp2_with fail
    obtain ⟨W4, hW4⟩ : ∃ X, X = (w3.alloc (.cells #[.int .i64 0, .int .u64 0, .int .i64 0, .int .i64 0, .int .u64 0, .int .u64 0, .string ⟨#[]⟩, .string ⟨#[]⟩] 26)).setRow w3.heap.size m.cells := ⟨_, rfl⟩
    rw [← hW4]
    have hb4 : Below w3.heap.size w3 W4 := by
      rw [hW4]
      have h1 := (Below.refl w3.heap.size w3).alloc (Nat.le_refl _) (.cells #[.int .i64 0, .int .u64 0, .int .i64 0, .int .i64 0, .int .u64 0, .int .u64 0, .string ⟨#[]⟩, .string ⟨#[]⟩] 26)
      exact ⟨h1.os, h1.tape, h1.output, by simp, fun i hi => (setRow_other _ _ _ _ (by omega)).trans (h1.block i hi)⟩
    have HQ4 := Lib.hid (show BoxE W4 w3.heap.size m by rw [hW4]; exact setRow_heap _ _ _ _ _ _ (heap_alloc_new w3 _))
    have G4 := Lib.hid (keepE G3.out hb4)
    obtain ⟨Q, hQ⟩ : ∃ Q, Q = w3.heap.size := ⟨_, rfl⟩
    rw [← hQ] at HQ4 ⊢
    clear hW4 hb4 hst hQ G3
    refine (awake_any _).mono ?_
    rintro _ w5 ⟨rfl, b5⟩
    have G5 := Lib.hid (keepE G4.out b5)
    have HQ5 := Lib.hid (show BoxE w5 Q m from (b5.block _ (lt_blk HQ4.out)).trans HQ4.out)
    clear b5 HQ4 G4
    obtain ⟨x0, x1, x2, x3, x4, x5, x6, x7⟩ := BoxE.cells G5.out.2
    go_wp2_with fail
    refine (HRp.out _).mono ?_
    rintro _ w6 ⟨rfl, b6⟩
    have G6 := Lib.hid (keepE G5.out b6)
    have HQ6 := Lib.hid (show BoxE w6 Q m from (b6.block _ (lt_blk HQ5.out)).trans HQ5.out)
    clear b6 HQ5 G5 x0 x1 x2 x3 x4 x5 x6 x7
    obtain ⟨x0, x1, x2, x3, x4, x5, x6, x7⟩ := BoxE.cells G6.out.2
    obtain ⟨y0, y1, y2, y3, y4, y5, y6, y7⟩ := BoxE.cells HQ6.out
    have hE := eq_self m
    go_wp2
    go_ret
    exact ⟨rfl, G6.out.1⟩

theorem puts_all (m : E8) (hw : m.wf) (w : World) : Calls Try.prog 3 #[.agg m.cells] w fun e w' => e = .returned (.bool true) ∧ Below w.heap.size w w' := by
  cases hf : efew m with
  | false => exact puts_few m hf w
  | true =>
    cases hr : eright m with
    | true =>
      refine puts_mid m true m.bytes 0 w hf hr (fun W => eput_yes m hr hw W) (.inr ⟨rfl, rfl, fun W => ?_, fun W => reput_yes m hr hw W⟩)
      have := Rd.eget_any m.bytes (by have := ebytes_size hr; omega) W
      rw [Rd.getE_back m hr hw] at this
      exact this
    | false => exact puts_mid m false ⟨#[]⟩ 1 w hf hr (fun W => eput_no m hr W) (.inl ⟨rfl, rfl, rfl⟩)
theorem puts_walk {H : Type} {enc : TypeId × Value → H} {spare : Nat → Bool} {held : Bool} {w : World} {base : Nat} {v : Value} {d : DataW H} {p : List MemPlace}
    (ok : Value.okWide Try.prog w .any base 26 v) (h : DataW.Trod enc Try.prog w 0 spare held 26 v d p) :
    Calls Try.prog 3 #[v] w fun e w' => e = .returned (.bool true) ∧ Below w.heap.size w w' := by
  obtain ⟨m, rfl, hw⟩ := open_event_val ok h
  exact puts_all m hw w
end Go.Proofs.Ytpakefgbjncdiab.Ev
