import Derived.Test.YtdljphbfbiganaaGreatDoorTk
import Derived.Test.YtdljphbfbiganaaGreatDoorPlOurs
import Derived.Test.YtdljphbfbiganaaGreatDoorGNumRef
/- The page's line: what is wrong with a packet whose commitment is to go. -/
namespace Go.Proofs.YtdljphbfbiganaaGreatDoor.Pl
open Go Go.RowKit Packet Mg Lg Ln
set_option linter.unusedVariables false

theorem yields_mid {P : Program} {o : Oper} {a : Act} {w : World} (ty : TypeId) (x : Operand) (ho : o.op = .load ty x) (b off : Nat) (hx : a.eval x = .pointer (some ⟨b, off, none⟩)) (cs : Array Value) (d : TypeDesc) (hc : w.rangeAt b off cs.toList)
    (hu : P.underlying ty = some d) (hd : d.isRow = true) (hi : (P.info? ty).map (·.size) = some cs.size) : (execOp a.eval o).run P w = .ok (.value (.agg cs)) w := by
  have h := run_loadVar_mid w b off ty cs.toList d hc hu hd (by rw [hi, Array.length_toList])
  rw [Array.toArray_toList] at h
  unfold execOp
  simp only [ho, hx, Instr.loadAt, Instr.sureAddr, Sem.run_bind, Sem.run_pure, Result.andThen_ok, h]
theorem a32 (C : Array Value) (h : C.size = 32) : (Tryz.prog.info? TA3).map (·.size) = some C.size := by rw [h]; kernel_rfl
theorem eq_arr (T : TypeId) (hT : Tryz.prog.underlying T = some (.array 32 5)) (C D : Array Value) (hC : SumOk C) (hD : SumOk D) : ∃ b : Bool, (b = true ↔ C = D) ∧ ∀ W, (Op.equalIn 10000 T (.agg C) (.agg D)).run Tryz.prog W = .ok b W := by
  obtain ⟨c1, _, xs, rfl⟩ := hC
  obtain ⟨d1, _, ys, rfl⟩ := hD
  have hx : xs.length = 32 := by simpa using c1
  have hy : ys.length = 32 := by simpa using d1
  refine ⟨decide (xs = ys), ?_, fun W => ?_⟩
  · rw [decide_eq_true_iff]
    exact ⟨fun h => by rw [h], fun h => u8_inj _ _ (by simpa using congrArg Array.toList h)⟩
  · rw [← all_eq xs ys 32 hx hy]
    exact eq_rowG W 9998 T 5 32 hT Tryz.underlying5 (fun w => by
      obtain ⟨i0, hi, _⟩ := info_parts Sha.infoB
      have h := run_sizeOf w hi
      rw [show Tryz.prog.cellsOf 5 = 1 by kernel_rfl] at h
      exact h) xs ys hx hy
set_option maxRecDepth 20000 in
theorem neq_arr (T : TypeId) (hT : Tryz.prog.underlying T = some (.array 32 5)) (C D : Array Value) (hC : SumOk C) (hD : SumOk D) : ∃ b : Bool, (b = true ↔ C = D) ∧ ∀ W, (binOp .neq T (.agg C) (.agg D)).run Tryz.prog W = .ok (.bool (!b)) W := by
  obtain ⟨b, hb, h⟩ := eq_arr T hT C D hC hD
  refine ⟨b, hb, fun W => ?_⟩
  have e : (binOp .neq T (.agg C) (.agg D)).run Tryz.prog W = ((Op.equalIn 10000 T (.agg C) (.agg D)).run Tryz.prog W).andThen fun b w => .ok (.bool (!b)) w := by
    generalize C = C'
    generalize D = D'
    unfold binOp
    simp [Op.equal, Op.maxDepth, go_sem]
  rw [e, h]
  rfl
theorem rsum_g (p : P5) (h : p.right) (ho : p.ok) (w : World) : Calls Tryz.prog 24 #[pkv p] w fun e w' => e = .returned (.agg (sumP p)) ∧ Below w.heap.size w w' := Sha.rpsum_yes p h ho w
set_option maxRecDepth 20000 in
set_option maxHeartbeats 4000000 in
theorem mine_unfit {w : World} {b0 B : Nat} {s : St} {Ac Aa : Option Addr} {mc cc ma ca : Nat} (p : P5) (hL : PN b0 w B s Ac mc cc Aa ma ca) (hfb : fitG s p s.sd = false) :
    Calls Tryz.prog 32 #[.pointer (some ⟨B, 0, none⟩), pkv p] w fun e w' => e = .returned (.int .i64 1) ∧ Below w.heap.size w w' := by
  have HF := Lib.hid (fun W (hW : PN b0 W B s Ac mc cc Aa ma ca) => hfb ▸ ours_g p s.sd hW)
  have H0 := Lib.hid (QL.new (p := p) hL)
  obtain ⟨V, hV⟩ : ∃ X, X = w.alloc (.cells #[.int .i64 p.c, .int .i64 p.f, .int .u64 p.s, .int .u64 p.t, .string p.d] TPk) := ⟨_, rfl⟩
  rw [← hV] at H0
  have HV := Lib.hid hV
  clear hfb hL hV
  go_enter Tryz.func32, Tryz.ntmps32
  go_upto_region 1 with fail
  rw [← HV.out]
  refine wp_region_held_drew (S := QL w w.heap.size p b0 B s Ac mc cc Aa ma ca) (by kernel_rfl) (QL.drew H0.out) (fun hHeld => ?_)
  refine tk (i := 0) (v := ?_) rfl (by kernel_rfl) (fun _ _ _ h => h) (by rfl) ?_ (by assumption) ?_
  rotate_left
  · (intro W hSw; have hz := hSw.2.1.cells; have hy := hSw.2.2.cells; go_simp; try with_reducible rfl)
  try simp only [Act.put, gA, gZ, sA, sZ, sS]
  refine tk (i := 1) (v := ?_) rfl (by kernel_rfl) (fun _ _ _ h => h) (by rfl) ?_ (by assumption) ?_
  rotate_left
  · (intro W hSw; have hz := hSw.2.1.cells; have hy := hSw.2.2.cells; go_simp; try with_reducible rfl)
  try simp only [Act.put, gA, gS, gZ, sA, sZ, sS]
  refine tk (i := 2) (v := ?_) rfl (by kernel_rfl) (fun _ _ _ h => h) (by rfl) ?_ (by assumption) ?_
  rotate_left
  · (intro W hSw; have hz := hSw.2.1.cells; have hy := hSw.2.2.cells; go_simp; try with_reducible rfl)
  try simp only [Act.put, gA, gS, gZ, sA, sZ, sS]
  refine tk (i := 3) (v := ?_) rfl (by kernel_rfl) (fun _ _ _ h => h) (by rfl) ?_ (by assumption) ?_
  rotate_left
  · (intro W hSw; have hz := hSw.2.1.cells; have hy := hSw.2.2.cells; go_simp; try with_reducible rfl)
  try simp only [Act.put, gA, gS, gZ, sA, sZ, sS]
  refine tk (i := 4) (v := ?_) rfl (by kernel_rfl) (fun _ _ _ h => h) (by rfl) ?_ (by assumption) ?_
  rotate_left
  · (intro W hSw; have hz := hSw.2.1.cells; have hy := hSw.2.2.cells; go_simp; try with_reducible rfl)
  try simp only [Act.put, gA, gS, gZ, sA, sZ, sS]
  refine tk (i := 5) (v := ?_) rfl (by kernel_rfl) (fun _ _ _ h => h) (by rfl) ?_ (by assumption) ?_
  rotate_left
  · (intro W hSw; have hz := hSw.2.1.cells; have hy := hSw.2.2.cells; go_simp; try with_reducible rfl)
  try simp only [Act.put, gA, gS, gZ, sA, sZ, sS]
  refine wpAnyH_ready (rs := [6]) (by kernel_rfl) (by simp) ?_
  refine AllReadyH.cons rfl (fun K hK => ?_) AllReadyH.nil
  simp only [gA, gS, gZ]
  rw [if_pos (by rfl)]
  go_simp
  (refine (HF.out _ hHeld.2.2).mono ?_; rintro e w1 ⟨rfl, hb1⟩)
  go_wp2_with fail
  refine hK.out _ _ (QL.call hHeld hb1) (fun hHeld => ?_)
  clear hK K
  try simp only [Act.put, gA, gS, gZ, sA, sZ, sS]
  refine tk (i := 7) (v := ?_) rfl (by kernel_rfl) (fun _ _ _ h => h) (by rfl) ?_ (by assumption) ?_
  rotate_left
  · (intro W hSw; have hz := hSw.2.1.cells; have hy := hSw.2.2.cells; go_simp; try with_reducible rfl)
  try simp only [Act.put, gA, gS, gZ, sA, sZ, sS]
  refine wpAnyH_done (by kernel_rfl) ?_ _
  have H1 := Lib.hid hHeld
  clear hHeld H0
  obtain ⟨h0, h1, h2, h3, h4, hf0⟩ := H1.out.2.1.cells
  obtain ⟨e0, e1, e2, e3, e4, e5, e6, e7, e8, hf1⟩ := H1.out.2.2.cells
  go_wp2
  go_ret
  exact ⟨rfl, H1.out.1⟩
set_option maxRecDepth 20000 in
set_option maxHeartbeats 4000000 in
theorem mine_closed {w : World} {b0 B : Nat} {s : St} {Ac Aa : Option Addr} {mc cc ma ca : Nat} (p : P5) (hL : PN b0 w B s Ac mc cc Aa ma ca) (hfb : fitG s p s.sd = true) (hcl : s.cl = true) :
    Calls Tryz.prog 32 #[.pointer (some ⟨B, 0, none⟩), pkv p] w fun e w' => e = .returned (.int .i64 17) ∧ Below w.heap.size w w' := by
  have HF := Lib.hid (fun W (hW : PN b0 W B s Ac mc cc Aa ma ca) => hfb ▸ ours_g p s.sd hW)
  have H0 := Lib.hid (QL.new (p := p) hL)
  obtain ⟨V, hV⟩ : ∃ X, X = w.alloc (.cells #[.int .i64 p.c, .int .i64 p.f, .int .u64 p.s, .int .u64 p.t, .string p.d] TPk) := ⟨_, rfl⟩
  rw [← hV] at H0
  have HV := Lib.hid hV
  clear hfb hL hV
  go_enter Tryz.func32, Tryz.ntmps32
  go_upto_region 1 with fail
  rw [← HV.out]
  refine wp_region_held_drew (S := QL w w.heap.size p b0 B s Ac mc cc Aa ma ca) (by kernel_rfl) (QL.drew H0.out) (fun hHeld => ?_)
  refine tk (i := 0) (v := ?_) rfl (by kernel_rfl) (fun _ _ _ h => h) (by rfl) ?_ (by assumption) ?_
  rotate_left
  · (intro W hSw; have hz := hSw.2.1.cells; have hy := hSw.2.2.cells; go_simp; try with_reducible rfl)
  try simp only [Act.put, gA, gZ, sA, sZ, sS]
  refine tk (i := 1) (v := ?_) rfl (by kernel_rfl) (fun _ _ _ h => h) (by rfl) ?_ (by assumption) ?_
  rotate_left
  · (intro W hSw; have hz := hSw.2.1.cells; have hy := hSw.2.2.cells; go_simp; try with_reducible rfl)
  try simp only [Act.put, gA, gS, gZ, sA, sZ, sS]
  refine tk (i := 2) (v := ?_) rfl (by kernel_rfl) (fun _ _ _ h => h) (by rfl) ?_ (by assumption) ?_
  rotate_left
  · (intro W hSw; have hz := hSw.2.1.cells; have hy := hSw.2.2.cells; go_simp; try with_reducible rfl)
  try simp only [Act.put, gA, gS, gZ, sA, sZ, sS]
  refine tk (i := 3) (v := ?_) rfl (by kernel_rfl) (fun _ _ _ h => h) (by rfl) ?_ (by assumption) ?_
  rotate_left
  · (intro W hSw; have hz := hSw.2.1.cells; have hy := hSw.2.2.cells; go_simp; try with_reducible rfl)
  try simp only [Act.put, gA, gS, gZ, sA, sZ, sS]
  refine tk (i := 4) (v := ?_) rfl (by kernel_rfl) (fun _ _ _ h => h) (by rfl) ?_ (by assumption) ?_
  rotate_left
  · (intro W hSw; have hz := hSw.2.1.cells; have hy := hSw.2.2.cells; go_simp; try with_reducible rfl)
  try simp only [Act.put, gA, gS, gZ, sA, sZ, sS]
  refine tk (i := 5) (v := ?_) rfl (by kernel_rfl) (fun _ _ _ h => h) (by rfl) ?_ (by assumption) ?_
  rotate_left
  · (intro W hSw; have hz := hSw.2.1.cells; have hy := hSw.2.2.cells; go_simp; try with_reducible rfl)
  try simp only [Act.put, gA, gS, gZ, sA, sZ, sS]
  refine wpAnyH_ready (rs := [6]) (by kernel_rfl) (by simp) ?_
  refine AllReadyH.cons rfl (fun K hK => ?_) AllReadyH.nil
  simp only [gA, gS, gZ]
  rw [if_pos (by rfl)]
  go_simp
  (refine (HF.out _ hHeld.2.2).mono ?_; rintro e w1 ⟨rfl, hb1⟩)
  go_wp2_with fail
  refine hK.out _ _ (QL.call hHeld hb1) (fun hHeld => ?_)
  clear hK K
  try simp only [Act.put, gA, gS, gZ, sA, sZ, sS]
  refine tk (i := 7) (v := ?_) rfl (by kernel_rfl) (fun _ _ _ h => h) (by rfl) ?_ (by assumption) ?_
  rotate_left
  · (intro W hSw; have hz := hSw.2.1.cells; have hy := hSw.2.2.cells; go_simp; try with_reducible rfl)
  try simp only [Act.put, gA, gS, gZ, sA, sZ, sS]
  refine wpAnyH_done (by kernel_rfl) ?_ _
  have H1 := Lib.hid hHeld
  clear hHeld H0
  obtain ⟨h0, h1, h2, h3, h4, hf0⟩ := H1.out.2.1.cells
  obtain ⟨e0, e1, e2, e3, e4, e5, e6, e7, e8, hf1⟩ := H1.out.2.2.cells
  go_wp2
  go_ret
  exact ⟨rfl, H1.out.1⟩
set_option maxRecDepth 20000 in
set_option maxHeartbeats 4000000 in
theorem mine_none {w : World} {b0 B : Nat} {s : St} {Ac Aa : Option Addr} {mc cc ma ca : Nat} (p : P5) (hL : PN b0 w B s Ac mc cc Aa ma ca) (hm : s.cm.length ≤ 1000000) (hfb : fitG s p s.sd = true) (hcl : s.cl = false) (hk : (lk p.s s.cm).isSome = false) :
    Calls Tryz.prog 32 #[.pointer (some ⟨B, 0, none⟩), pkv p] w fun e w' => e = .returned (.int .i64 15) ∧ Below w.heap.size w w' := by
  have HM := Lib.hid hm
  have HK := Lib.hid hk
  clear hm hk
  have HF := Lib.hid (fun W (hW : PN b0 W B s Ac mc cc Aa ma ca) => hfb ▸ ours_g p s.sd hW)
  have H0 := Lib.hid (QL.new (p := p) hL)
  obtain ⟨V, hV⟩ : ∃ X, X = w.alloc (.cells #[.int .i64 p.c, .int .i64 p.f, .int .u64 p.s, .int .u64 p.t, .string p.d] TPk) := ⟨_, rfl⟩
  rw [← hV] at H0
  have HV := Lib.hid hV
  clear hfb hL hV
  go_enter Tryz.func32, Tryz.ntmps32
  go_upto_region 1 with fail
  rw [← HV.out]
  refine wp_region_held_drew (S := QL w w.heap.size p b0 B s Ac mc cc Aa ma ca) (by kernel_rfl) (QL.drew H0.out) (fun hHeld => ?_)
  refine tk (i := 0) (v := ?_) rfl (by kernel_rfl) (fun _ _ _ h => h) (by rfl) ?_ (by assumption) ?_
  rotate_left
  · (intro W hSw; have hz := hSw.2.1.cells; have hy := hSw.2.2.cells; go_simp; try with_reducible rfl)
  try simp only [Act.put, gA, gZ, sA, sZ, sS]
  refine tk (i := 1) (v := ?_) rfl (by kernel_rfl) (fun _ _ _ h => h) (by rfl) ?_ (by assumption) ?_
  rotate_left
  · (intro W hSw; have hz := hSw.2.1.cells; have hy := hSw.2.2.cells; go_simp; try with_reducible rfl)
  try simp only [Act.put, gA, gS, gZ, sA, sZ, sS]
  refine tk (i := 2) (v := ?_) rfl (by kernel_rfl) (fun _ _ _ h => h) (by rfl) ?_ (by assumption) ?_
  rotate_left
  · (intro W hSw; have hz := hSw.2.1.cells; have hy := hSw.2.2.cells; go_simp; try with_reducible rfl)
  try simp only [Act.put, gA, gS, gZ, sA, sZ, sS]
  refine tk (i := 3) (v := ?_) rfl (by kernel_rfl) (fun _ _ _ h => h) (by rfl) ?_ (by assumption) ?_
  rotate_left
  · (intro W hSw; have hz := hSw.2.1.cells; have hy := hSw.2.2.cells; go_simp; try with_reducible rfl)
  try simp only [Act.put, gA, gS, gZ, sA, sZ, sS]
  refine tk (i := 4) (v := ?_) rfl (by kernel_rfl) (fun _ _ _ h => h) (by rfl) ?_ (by assumption) ?_
  rotate_left
  · (intro W hSw; have hz := hSw.2.1.cells; have hy := hSw.2.2.cells; go_simp; try with_reducible rfl)
  try simp only [Act.put, gA, gS, gZ, sA, sZ, sS]
  refine tk (i := 5) (v := ?_) rfl (by kernel_rfl) (fun _ _ _ h => h) (by rfl) ?_ (by assumption) ?_
  rotate_left
  · (intro W hSw; have hz := hSw.2.1.cells; have hy := hSw.2.2.cells; go_simp; try with_reducible rfl)
  try simp only [Act.put, gA, gS, gZ, sA, sZ, sS]
  refine wpAnyH_ready (rs := [6]) (by kernel_rfl) (by simp) ?_
  refine AllReadyH.cons rfl (fun K hK => ?_) AllReadyH.nil
  simp only [gA, gS, gZ]
  rw [if_pos (by rfl)]
  go_simp
  (refine (HF.out _ hHeld.2.2).mono ?_; rintro e w1 ⟨rfl, hb1⟩)
  go_wp2_with fail
  refine hK.out _ _ (QL.call hHeld hb1) (fun hHeld => ?_)
  clear hK K
  try simp only [Act.put, gA, gS, gZ, sA, sZ, sS]
  refine tk (i := 7) (v := ?_) rfl (by kernel_rfl) (fun _ _ _ h => h) (by rfl) ?_ (by assumption) ?_
  rotate_left
  · (intro W hSw; have hz := hSw.2.1.cells; have hy := hSw.2.2.cells; go_simp; try with_reducible rfl)
  try simp only [Act.put, gA, gS, gZ, sA, sZ, sS]
  refine wpAnyH_done (by kernel_rfl) ?_ _
  have H1 := Lib.hid hHeld
  clear hHeld H0
  obtain ⟨h0, h1, h2, h3, h4, hf0⟩ := H1.out.2.1.cells
  obtain ⟨e0, e1, e2, e3, e4, e5, e6, e7, e8, hf1⟩ := H1.out.2.2.cells
  go_upto_region 5 with fail
  clear h0 h1 h2 h3 h4 hf0 e0 e1 e2 e3 e4 e5 e6 e7 e8 hf1
  refine wp_region_held_drew (S := QL w w.heap.size p b0 B s Ac mc cc Aa ma ca) (by kernel_rfl) (QL.drew H1.out) (fun hHeld => ?_)
  refine tk (i := 0) (v := ?_) rfl (by kernel_rfl) (fun _ _ _ h => h) (by rfl) ?_ (by assumption) ?_
  rotate_left
  · (intro W hSw; have hz := hSw.2.1.cells; have hy := hSw.2.2.cells; go_simp; try with_reducible rfl)
  try simp only [Act.put, gA, gZ, sA, sZ, sS]
  refine tk (i := 1) (v := ?_) rfl (by kernel_rfl) (fun _ _ _ h => h) (by rfl) ?_ (by assumption) ?_
  rotate_left
  · (intro W hSw; have hz := hSw.2.1.cells; have hy := hSw.2.2.cells; go_simp; try with_reducible rfl)
  try simp only [Act.put, gA, gS, gZ, sA, sZ, sS]
  refine tk (i := 2) (v := ?_) rfl (by kernel_rfl) (fun _ _ _ h => h) (by rfl) ?_ (by assumption) ?_
  rotate_left
  · (intro W hSw; have hz := hSw.2.1.cells; have hy := hSw.2.2.cells; go_simp; try with_reducible rfl)
  try simp only [Act.put, gA, gS, gZ, sA, sZ, sS]
  refine tk (i := 3) (v := ?_) rfl (by kernel_rfl) (fun _ _ _ h => h) (by rfl) ?_ (by assumption) ?_
  rotate_left
  · (intro W hSw; have hz := hSw.2.1.cells; have hy := hSw.2.2.cells; go_simp; try with_reducible rfl)
  try simp only [Act.put, gA, gS, gZ, sA, sZ, sS]
  refine tk (i := 4) (v := ?_) rfl (by kernel_rfl) (fun _ _ _ h => h) (by rfl) ?_ (by assumption) ?_
  rotate_left
  · (intro W hSw; have hz := hSw.2.1.cells; have hy := hSw.2.2.cells; go_simp; try with_reducible rfl)
  try simp only [Act.put, gA, gS, gZ, sA, sZ, sS]
  refine tk (i := 5) (v := ?_) rfl (by kernel_rfl) (fun _ _ _ h => h) (by rfl) ?_ (by assumption) ?_
  rotate_left
  · (intro W hSw; have hz := hSw.2.1.cells; have hy := hSw.2.2.cells; go_simp; try with_reducible rfl)
  try simp only [Act.put, gA, gS, gZ, sA, sZ, sS]
  refine wpAnyH_ready (rs := [6]) (by kernel_rfl) (by simp) ?_
  refine AllReadyH.cons rfl (fun K hK => ?_) AllReadyH.nil
  simp only [gA, gS, gZ]
  rw [if_pos (by rfl)]
  go_simp
  (refine (find_any Ac mc cc s.cm p.s _ (own_rdT hHeld.2.2.rc hHeld.2.2.cok) (by have := hHeld.2.2.rc.2; have := HM.out; omega)).mono ?_; rintro e w2 ⟨⟨z, rfl, hz⟩, hw⟩; obtain rfl := hw.symm; clear hw)
  rcases hz with ⟨i, hi, rfl, hk1, hk2, -⟩ | ⟨rfl, hk2⟩
  · exact absurd (HK.out) (by rw [hk2]; simp)
  clear hk2
  go_wp2_with fail
  refine hK.out _ _ hHeld (fun hHeld => ?_)
  clear hK K
  try simp only [Act.put, gA, gS, gZ, sA, sZ, sS]
  refine tk (i := 7) (v := ?_) rfl (by kernel_rfl) (fun _ _ _ h => h) (by rfl) ?_ (by assumption) ?_
  rotate_left
  · (intro W hSw; have hz := hSw.2.1.cells; have hy := hSw.2.2.cells; go_simp; try with_reducible rfl)
  try simp only [Act.put, gA, gS, gZ, sA, sZ, sS]
  refine wpAnyH_done (by kernel_rfl) ?_ _
  have H2 := Lib.hid hHeld
  clear hHeld H1
  go_wp2
  go_ret
  exact ⟨rfl, H2.out.1⟩
set_option maxRecDepth 20000 in
set_option maxHeartbeats 4000000 in
theorem mine_other {w : World} {b0 B : Nat} {s : St} {Ac Aa : Option Addr} {mc cc ma ca : Nat} (p : P5) (hL : PN b0 w B s Ac mc cc Aa ma ca) (hm : s.cm.length ≤ 1000000) (hp : p.ok) (hfb : fitG s p s.sd = true) (hcl : s.cl = false) (hk : (lk p.s s.cm).isSome = true) (hC2 : sumOf p.s s.cm ≠ sumP p) :
    Calls Tryz.prog 32 #[.pointer (some ⟨B, 0, none⟩), pkv p] w fun e w' => e = .returned (.int .i64 18) ∧ Below w.heap.size w w' := by
  obtain ⟨b, hb, hne⟩ := neq_arr TA3 Tryz.underlying57 (sumOf p.s s.cm) (sumP p) (sumOf_ok hL.cok) (sumP_ok p)
  have hbv : b = false := by cases b with | false => rfl | true => exact absurd (hb.1 rfl) hC2
  rw [hbv] at hne
  have HSu := Lib.hid (rsum_g p ((fitG_iff s p s.sd).1 hfb).1 hp)
  have hCo := sumOf_ok (k := p.s) hL.cok
  obtain ⟨C, hCd⟩ : ∃ C, C = sumOf p.s s.cm := ⟨_, rfl⟩
  obtain ⟨D, hDd⟩ : ∃ D, D = sumP p := ⟨_, rfl⟩
  rw [← hCd] at hne hCo
  rw [← hDd] at hne HSu
  have HC := Lib.hid hCo
  have HNe := Lib.hid hne
  have HCd := Lib.hid hCd
  clear hne hp hb hbv hC2 hCo hCd hDd
  have HM := Lib.hid hm
  have HK := Lib.hid hk
  clear hm hk
  have HF := Lib.hid (fun W (hW : PN b0 W B s Ac mc cc Aa ma ca) => hfb ▸ ours_g p s.sd hW)
  have H0 := Lib.hid (QL.new (p := p) hL)
  obtain ⟨V, hV⟩ : ∃ X, X = w.alloc (.cells #[.int .i64 p.c, .int .i64 p.f, .int .u64 p.s, .int .u64 p.t, .string p.d] TPk) := ⟨_, rfl⟩
  rw [← hV] at H0
  have HV := Lib.hid hV
  clear hfb hL hV
  go_enter Tryz.func32, Tryz.ntmps32
  go_upto_region 1 with fail
  rw [← HV.out]
  refine wp_region_held_drew (S := QL w w.heap.size p b0 B s Ac mc cc Aa ma ca) (by kernel_rfl) (QL.drew H0.out) (fun hHeld => ?_)
  refine tk (i := 0) (v := ?_) rfl (by kernel_rfl) (fun _ _ _ h => h) (by rfl) ?_ (by assumption) ?_
  rotate_left
  · (intro W hSw; have hz := hSw.2.1.cells; have hy := hSw.2.2.cells; go_simp; try with_reducible rfl)
  try simp only [Act.put, gA, gZ, sA, sZ, sS]
  refine tk (i := 1) (v := ?_) rfl (by kernel_rfl) (fun _ _ _ h => h) (by rfl) ?_ (by assumption) ?_
  rotate_left
  · (intro W hSw; have hz := hSw.2.1.cells; have hy := hSw.2.2.cells; go_simp; try with_reducible rfl)
  try simp only [Act.put, gA, gS, gZ, sA, sZ, sS]
  refine tk (i := 2) (v := ?_) rfl (by kernel_rfl) (fun _ _ _ h => h) (by rfl) ?_ (by assumption) ?_
  rotate_left
  · (intro W hSw; have hz := hSw.2.1.cells; have hy := hSw.2.2.cells; go_simp; try with_reducible rfl)
  try simp only [Act.put, gA, gS, gZ, sA, sZ, sS]
  refine tk (i := 3) (v := ?_) rfl (by kernel_rfl) (fun _ _ _ h => h) (by rfl) ?_ (by assumption) ?_
  rotate_left
  · (intro W hSw; have hz := hSw.2.1.cells; have hy := hSw.2.2.cells; go_simp; try with_reducible rfl)
  try simp only [Act.put, gA, gS, gZ, sA, sZ, sS]
  refine tk (i := 4) (v := ?_) rfl (by kernel_rfl) (fun _ _ _ h => h) (by rfl) ?_ (by assumption) ?_
  rotate_left
  · (intro W hSw; have hz := hSw.2.1.cells; have hy := hSw.2.2.cells; go_simp; try with_reducible rfl)
  try simp only [Act.put, gA, gS, gZ, sA, sZ, sS]
  refine tk (i := 5) (v := ?_) rfl (by kernel_rfl) (fun _ _ _ h => h) (by rfl) ?_ (by assumption) ?_
  rotate_left
  · (intro W hSw; have hz := hSw.2.1.cells; have hy := hSw.2.2.cells; go_simp; try with_reducible rfl)
  try simp only [Act.put, gA, gS, gZ, sA, sZ, sS]
  refine wpAnyH_ready (rs := [6]) (by kernel_rfl) (by simp) ?_
  refine AllReadyH.cons rfl (fun K hK => ?_) AllReadyH.nil
  simp only [gA, gS, gZ]
  rw [if_pos (by rfl)]
  go_simp
  (refine (HF.out _ hHeld.2.2).mono ?_; rintro e w1 ⟨rfl, hb1⟩)
  go_wp2_with fail
  refine hK.out _ _ (QL.call hHeld hb1) (fun hHeld => ?_)
  clear hK K
  try simp only [Act.put, gA, gS, gZ, sA, sZ, sS]
  refine tk (i := 7) (v := ?_) rfl (by kernel_rfl) (fun _ _ _ h => h) (by rfl) ?_ (by assumption) ?_
  rotate_left
  · (intro W hSw; have hz := hSw.2.1.cells; have hy := hSw.2.2.cells; go_simp; try with_reducible rfl)
  try simp only [Act.put, gA, gS, gZ, sA, sZ, sS]
  refine wpAnyH_done (by kernel_rfl) ?_ _
  have H1 := Lib.hid hHeld
  clear hHeld H0
  obtain ⟨h0, h1, h2, h3, h4, hf0⟩ := H1.out.2.1.cells
  obtain ⟨e0, e1, e2, e3, e4, e5, e6, e7, e8, hf1⟩ := H1.out.2.2.cells
  go_upto_region 5 with fail
  clear h0 h1 h2 h3 h4 hf0 e0 e1 e2 e3 e4 e5 e6 e7 e8 hf1
  refine wp_region_held_drew (S := QL w w.heap.size p b0 B s Ac mc cc Aa ma ca) (by kernel_rfl) (QL.drew H1.out) (fun hHeld => ?_)
  refine tk (i := 0) (v := ?_) rfl (by kernel_rfl) (fun _ _ _ h => h) (by rfl) ?_ (by assumption) ?_
  rotate_left
  · (intro W hSw; have hz := hSw.2.1.cells; have hy := hSw.2.2.cells; go_simp; try with_reducible rfl)
  try simp only [Act.put, gA, gZ, sA, sZ, sS]
  refine tk (i := 1) (v := ?_) rfl (by kernel_rfl) (fun _ _ _ h => h) (by rfl) ?_ (by assumption) ?_
  rotate_left
  · (intro W hSw; have hz := hSw.2.1.cells; have hy := hSw.2.2.cells; go_simp; try with_reducible rfl)
  try simp only [Act.put, gA, gS, gZ, sA, sZ, sS]
  refine tk (i := 2) (v := ?_) rfl (by kernel_rfl) (fun _ _ _ h => h) (by rfl) ?_ (by assumption) ?_
  rotate_left
  · (intro W hSw; have hz := hSw.2.1.cells; have hy := hSw.2.2.cells; go_simp; try with_reducible rfl)
  try simp only [Act.put, gA, gS, gZ, sA, sZ, sS]
  refine tk (i := 3) (v := ?_) rfl (by kernel_rfl) (fun _ _ _ h => h) (by rfl) ?_ (by assumption) ?_
  rotate_left
  · (intro W hSw; have hz := hSw.2.1.cells; have hy := hSw.2.2.cells; go_simp; try with_reducible rfl)
  try simp only [Act.put, gA, gS, gZ, sA, sZ, sS]
  refine tk (i := 4) (v := ?_) rfl (by kernel_rfl) (fun _ _ _ h => h) (by rfl) ?_ (by assumption) ?_
  rotate_left
  · (intro W hSw; have hz := hSw.2.1.cells; have hy := hSw.2.2.cells; go_simp; try with_reducible rfl)
  try simp only [Act.put, gA, gS, gZ, sA, sZ, sS]
  refine tk (i := 5) (v := ?_) rfl (by kernel_rfl) (fun _ _ _ h => h) (by rfl) ?_ (by assumption) ?_
  rotate_left
  · (intro W hSw; have hz := hSw.2.1.cells; have hy := hSw.2.2.cells; go_simp; try with_reducible rfl)
  try simp only [Act.put, gA, gS, gZ, sA, sZ, sS]
  refine wpAnyH_ready (rs := [6]) (by kernel_rfl) (by simp) ?_
  refine AllReadyH.cons rfl (fun K hK => ?_) AllReadyH.nil
  simp only [gA, gS, gZ]
  rw [if_pos (by rfl)]
  go_simp
  (refine (find_any Ac mc cc s.cm p.s _ (own_rdT hHeld.2.2.rc hHeld.2.2.cok) (by have := hHeld.2.2.rc.2; have := HM.out; omega)).mono ?_; rintro e w2 ⟨⟨z, rfl, hz⟩, hw⟩; obtain rfl := hw.symm; clear hw)
  rcases hz with ⟨i, hi, rfl, hk1, hk2, -⟩ | ⟨rfl, hk2⟩
  rotate_left
  · exact absurd (HK.out) (by rw [hk2]; simp)
  have HI := Lib.hid (And.intro hi (And.intro hk1 hk2))
  have hi0 : (0 : Int) ≤ (i : Int) := by omega
  clear hk1 hk2
  go_wp2_with fail
  refine hK.out _ _ hHeld (fun hHeld => ?_)
  clear hK K
  try simp only [Act.put, gA, gS, gZ, sA, sZ, sS]
  refine tk (i := 7) (v := ?_) rfl (by kernel_rfl) (fun _ _ _ h => h) (by rfl) ?_ (by assumption) ?_
  rotate_left
  · (intro W hSw; have hz := hSw.2.1.cells; have hy := hSw.2.2.cells; go_simp; try with_reducible rfl)
  try simp only [Act.put, gA, gS, gZ, sA, sZ, sS]
  refine wpAnyH_done (by kernel_rfl) ?_ _
  have H2 := Lib.hid hHeld
  clear hHeld H1 HF
  obtain ⟨b9, off, hA, hbl, hcs⟩ := (own_rdT H2.out.2.2.rc H2.out.2.2.cok).cells (by have := H2.out.2.2.rc.2; have := HI.out.1; omega)
  subst hA
  have himc : (i : Int) < (mc : Int) := by have := H2.out.2.2.rc.2; have := HI.out.1; omega
  have hsum : (s.cm[i]'hi).2 = C := by rw [HCd.out]; unfold sumOf; rw [HI.out.2.2]; rfl
  have HSm := Lib.hid hsum
  have HCs : Hid (∀ V, QL w w.heap.size p b0 B s (some ⟨b9, off, none⟩) mc cc Aa ma ca V → V.rangeAt b9 (off + i * 33 + 1) C.toList) := Lib.hid fun V hV => by
    obtain ⟨b9', off', hA', _, hcs'⟩ := (own_rdT hV.2.2.rc hV.2.2.cok).cells (by have := hV.2.2.rc.2; have := HI.out.1; omega)
    injection hA' with hA'
    injection hA' with h1 h2
    subst h1 h2
    rw [← HSm.out]
    exact ncl_sum (fun j hj => hcs' i hi j hj) (hV.2.2.cok _ (List.getElem_mem hi))
  clear hbl hcs hsum
  obtain ⟨h0, h1, h2, h3, h4, hf0⟩ := H2.out.2.1.cells
  obtain ⟨e0, e1, e2, e3, e4, e5, e6, e7, e8, hf1⟩ := H2.out.2.2.cells
  go_upto_region 8 with fail
  clear h0 h1 h2 h3 h4 hf0 e0 e1 e2 e3 e4 e5 e6 e7 e8 hf1
  refine wp_region_held_drew (S := QL w w.heap.size p b0 B s (some ⟨b9, off, none⟩) mc cc Aa ma ca) (by kernel_rfl) (QL.drew H2.out) (fun hHeld => ?_)
  refine tk (i := 0) (v := ?_) rfl (by kernel_rfl) (fun _ _ _ h => h) (by rfl) ?_ (by assumption) ?_
  rotate_left
  · (intro W hSw; have hz := hSw.2.1.cells; have hy := hSw.2.2.cells; go_simp; try with_reducible rfl)
  try simp only [Act.put, gA, gZ, sA, sZ, sS]
  refine tk (i := 1) (v := ?_) rfl (by kernel_rfl) (fun _ _ _ h => h) (by rfl) ?_ (by assumption) ?_
  rotate_left
  · (intro W hSw; have hz := hSw.2.1.cells; have hy := hSw.2.2.cells; go_simp; try with_reducible rfl)
  try simp only [Act.put, gA, gS, gZ, sA, sZ, sS]
  refine tk (i := 2) (v := ?_) rfl (by kernel_rfl) (fun _ _ _ h => h) (by rfl) ?_ (by assumption) ?_
  rotate_left
  · (intro W hSw; have hz := hSw.2.1.cells; have hy := hSw.2.2.cells; go_simp; try with_reducible rfl)
  try simp only [Act.put, gA, gS, gZ, sA, sZ, sS]
  refine tk (i := 3) (v := ?_) rfl (by kernel_rfl) (fun _ _ _ h => h) (by rfl) ?_ (by assumption) ?_
  rotate_left
  · (intro W hSw; have hz := hSw.2.1.cells; have hy := hSw.2.2.cells; go_simp; try with_reducible rfl)
  try simp only [Act.put, gA, gS, gZ, sA, sZ, sS]
  refine tk (i := 4) (v := ?_) rfl (by kernel_rfl) (fun _ _ _ h => h) (by rfl) ?_ (by assumption) ?_
  rotate_left
  · (intro W hSw; have hz := hSw.2.1.cells; have hy := hSw.2.2.cells; go_simp; try with_reducible rfl)
  try simp only [Act.put, gA, gS, gZ, sA, sZ, sS]
  refine tk (i := 5) (v := ?_) rfl (by kernel_rfl) (fun _ _ _ h => h) (by rfl) ?_ (by assumption) ?_
  rotate_left
  · (intro W hSw; have hz := hSw.2.1.cells; have hy := hSw.2.2.cells; go_simp; try with_reducible rfl)
  try simp only [Act.put, gA, gS, gZ, sA, sZ, sS]
  refine tk (i := 6) (v := ?_) rfl (by kernel_rfl) (fun _ _ _ h => h) (by rfl) ?_ (by assumption) ?_
  rotate_left
  · (intro W hSw; have hz := hSw.2.1.cells; have hy := hSw.2.2.cells; go_simp; try with_reducible rfl)
  try simp only [Act.put, gA, gS, gZ, sA, sZ, sS]
  refine tk (i := 7) (v := ?_) rfl (by kernel_rfl) (fun _ _ _ h => h) (by rfl) ?_ (by assumption) ?_
  rotate_left
  · (intro W hSw; (refine yields_mid TA3 (.tmp 33) ?_ b9 (off + i * 33 + 1) ?_ C _ (HCs.out _ hSw) Tryz.underlying57 rfl (a32 C HC.out.1)); rfl; rfl)
  try simp only [Act.put, gA, gS, gZ, sA, sZ, sS]
  refine tk (i := 8) (v := ?_) rfl (by kernel_rfl) (fun _ _ _ h => h) (by rfl) ?_ (by assumption) ?_
  rotate_left
  · (intro W hSw; have hz := hSw.2.1.cells; have hy := hSw.2.2.cells; go_simp; try with_reducible rfl)
  try simp only [Act.put, gA, gS, gZ, sA, sZ, sS]
  refine wpAnyH_ready (rs := [9]) (by kernel_rfl) (by simp) ?_
  refine AllReadyH.cons rfl (fun K hK => ?_) AllReadyH.nil
  simp only [gA, gS, gZ]
  rw [if_pos (by rfl)]
  go_simp
  (refine (HSu.out _).mono ?_; rintro e w5 ⟨rfl, hb5⟩)
  go_wp2_with fail
  refine hK.out _ _ (QL.call hHeld hb5) (fun hHeld => ?_)
  clear hK K
  try simp only [Act.put, gA, gS, gZ, sA, sZ, sS]
  have hneq := HNe.out
  refine tk (i := 10) (v := ?_) rfl (by kernel_rfl) (fun _ _ _ h => h) (by rfl) ?_ (by assumption) ?_
  rotate_left
  · (intro W hSw; have hz := hSw.2.1.cells; have hy := hSw.2.2.cells; go_simp; try with_reducible rfl)
  try simp only [Act.put, gA, gS, gZ, sA, sZ, sS]
  refine wpAnyH_done (by kernel_rfl) ?_ _
  have HB := Lib.hid hHeld.1
  go_wp2
  go_ret
  exact ⟨rfl, HB.out⟩
set_option maxRecDepth 20000 in
set_option maxHeartbeats 4000000 in
theorem mine_ok {w : World} {b0 B : Nat} {s : St} {Ac Aa : Option Addr} {mc cc ma ca : Nat} (p : P5) (hL : PN b0 w B s Ac mc cc Aa ma ca) (hm : s.cm.length ≤ 1000000) (hp : p.ok) (hfb : fitG s p s.sd = true) (hcl : s.cl = false) (hk : (lk p.s s.cm).isSome = true) (hC2 : sumOf p.s s.cm = sumP p) :
    Calls Tryz.prog 32 #[.pointer (some ⟨B, 0, none⟩), pkv p] w fun e w' => e = .returned (.int .i64 0) ∧ Below w.heap.size w w' := by
  obtain ⟨b, hb, hne⟩ := neq_arr TA3 Tryz.underlying57 (sumOf p.s s.cm) (sumP p) (sumOf_ok hL.cok) (sumP_ok p)
  have hbv : b = true := hb.2 hC2
  rw [hbv] at hne
  have HSu := Lib.hid (rsum_g p ((fitG_iff s p s.sd).1 hfb).1 hp)
  have hCo := sumOf_ok (k := p.s) hL.cok
  obtain ⟨C, hCd⟩ : ∃ C, C = sumOf p.s s.cm := ⟨_, rfl⟩
  obtain ⟨D, hDd⟩ : ∃ D, D = sumP p := ⟨_, rfl⟩
  rw [← hCd] at hne hCo
  rw [← hDd] at hne HSu
  have HC := Lib.hid hCo
  have HNe := Lib.hid hne
  have HCd := Lib.hid hCd
  clear hne hp hb hbv hC2 hCo hCd hDd
  have HM := Lib.hid hm
  have HK := Lib.hid hk
  clear hm hk
  have HF := Lib.hid (fun W (hW : PN b0 W B s Ac mc cc Aa ma ca) => hfb ▸ ours_g p s.sd hW)
  have H0 := Lib.hid (QL.new (p := p) hL)
  obtain ⟨V, hV⟩ : ∃ X, X = w.alloc (.cells #[.int .i64 p.c, .int .i64 p.f, .int .u64 p.s, .int .u64 p.t, .string p.d] TPk) := ⟨_, rfl⟩
  rw [← hV] at H0
  have HV := Lib.hid hV
  clear hfb hL hV
  go_enter Tryz.func32, Tryz.ntmps32
  go_upto_region 1 with fail
  rw [← HV.out]
  refine wp_region_held_drew (S := QL w w.heap.size p b0 B s Ac mc cc Aa ma ca) (by kernel_rfl) (QL.drew H0.out) (fun hHeld => ?_)
  refine tk (i := 0) (v := ?_) rfl (by kernel_rfl) (fun _ _ _ h => h) (by rfl) ?_ (by assumption) ?_
  rotate_left
  · (intro W hSw; have hz := hSw.2.1.cells; have hy := hSw.2.2.cells; go_simp; try with_reducible rfl)
  try simp only [Act.put, gA, gZ, sA, sZ, sS]
  refine tk (i := 1) (v := ?_) rfl (by kernel_rfl) (fun _ _ _ h => h) (by rfl) ?_ (by assumption) ?_
  rotate_left
  · (intro W hSw; have hz := hSw.2.1.cells; have hy := hSw.2.2.cells; go_simp; try with_reducible rfl)
  try simp only [Act.put, gA, gS, gZ, sA, sZ, sS]
  refine tk (i := 2) (v := ?_) rfl (by kernel_rfl) (fun _ _ _ h => h) (by rfl) ?_ (by assumption) ?_
  rotate_left
  · (intro W hSw; have hz := hSw.2.1.cells; have hy := hSw.2.2.cells; go_simp; try with_reducible rfl)
  try simp only [Act.put, gA, gS, gZ, sA, sZ, sS]
  refine tk (i := 3) (v := ?_) rfl (by kernel_rfl) (fun _ _ _ h => h) (by rfl) ?_ (by assumption) ?_
  rotate_left
  · (intro W hSw; have hz := hSw.2.1.cells; have hy := hSw.2.2.cells; go_simp; try with_reducible rfl)
  try simp only [Act.put, gA, gS, gZ, sA, sZ, sS]
  refine tk (i := 4) (v := ?_) rfl (by kernel_rfl) (fun _ _ _ h => h) (by rfl) ?_ (by assumption) ?_
  rotate_left
  · (intro W hSw; have hz := hSw.2.1.cells; have hy := hSw.2.2.cells; go_simp; try with_reducible rfl)
  try simp only [Act.put, gA, gS, gZ, sA, sZ, sS]
  refine tk (i := 5) (v := ?_) rfl (by kernel_rfl) (fun _ _ _ h => h) (by rfl) ?_ (by assumption) ?_
  rotate_left
  · (intro W hSw; have hz := hSw.2.1.cells; have hy := hSw.2.2.cells; go_simp; try with_reducible rfl)
  try simp only [Act.put, gA, gS, gZ, sA, sZ, sS]
  refine wpAnyH_ready (rs := [6]) (by kernel_rfl) (by simp) ?_
  refine AllReadyH.cons rfl (fun K hK => ?_) AllReadyH.nil
  simp only [gA, gS, gZ]
  rw [if_pos (by rfl)]
  go_simp
  (refine (HF.out _ hHeld.2.2).mono ?_; rintro e w1 ⟨rfl, hb1⟩)
  go_wp2_with fail
  refine hK.out _ _ (QL.call hHeld hb1) (fun hHeld => ?_)
  clear hK K
  try simp only [Act.put, gA, gS, gZ, sA, sZ, sS]
  refine tk (i := 7) (v := ?_) rfl (by kernel_rfl) (fun _ _ _ h => h) (by rfl) ?_ (by assumption) ?_
  rotate_left
  · (intro W hSw; have hz := hSw.2.1.cells; have hy := hSw.2.2.cells; go_simp; try with_reducible rfl)
  try simp only [Act.put, gA, gS, gZ, sA, sZ, sS]
  refine wpAnyH_done (by kernel_rfl) ?_ _
  have H1 := Lib.hid hHeld
  clear hHeld H0
  obtain ⟨h0, h1, h2, h3, h4, hf0⟩ := H1.out.2.1.cells
  obtain ⟨e0, e1, e2, e3, e4, e5, e6, e7, e8, hf1⟩ := H1.out.2.2.cells
  go_upto_region 5 with fail
  clear h0 h1 h2 h3 h4 hf0 e0 e1 e2 e3 e4 e5 e6 e7 e8 hf1
  refine wp_region_held_drew (S := QL w w.heap.size p b0 B s Ac mc cc Aa ma ca) (by kernel_rfl) (QL.drew H1.out) (fun hHeld => ?_)
  refine tk (i := 0) (v := ?_) rfl (by kernel_rfl) (fun _ _ _ h => h) (by rfl) ?_ (by assumption) ?_
  rotate_left
  · (intro W hSw; have hz := hSw.2.1.cells; have hy := hSw.2.2.cells; go_simp; try with_reducible rfl)
  try simp only [Act.put, gA, gZ, sA, sZ, sS]
  refine tk (i := 1) (v := ?_) rfl (by kernel_rfl) (fun _ _ _ h => h) (by rfl) ?_ (by assumption) ?_
  rotate_left
  · (intro W hSw; have hz := hSw.2.1.cells; have hy := hSw.2.2.cells; go_simp; try with_reducible rfl)
  try simp only [Act.put, gA, gS, gZ, sA, sZ, sS]
  refine tk (i := 2) (v := ?_) rfl (by kernel_rfl) (fun _ _ _ h => h) (by rfl) ?_ (by assumption) ?_
  rotate_left
  · (intro W hSw; have hz := hSw.2.1.cells; have hy := hSw.2.2.cells; go_simp; try with_reducible rfl)
  try simp only [Act.put, gA, gS, gZ, sA, sZ, sS]
  refine tk (i := 3) (v := ?_) rfl (by kernel_rfl) (fun _ _ _ h => h) (by rfl) ?_ (by assumption) ?_
  rotate_left
  · (intro W hSw; have hz := hSw.2.1.cells; have hy := hSw.2.2.cells; go_simp; try with_reducible rfl)
  try simp only [Act.put, gA, gS, gZ, sA, sZ, sS]
  refine tk (i := 4) (v := ?_) rfl (by kernel_rfl) (fun _ _ _ h => h) (by rfl) ?_ (by assumption) ?_
  rotate_left
  · (intro W hSw; have hz := hSw.2.1.cells; have hy := hSw.2.2.cells; go_simp; try with_reducible rfl)
  try simp only [Act.put, gA, gS, gZ, sA, sZ, sS]
  refine tk (i := 5) (v := ?_) rfl (by kernel_rfl) (fun _ _ _ h => h) (by rfl) ?_ (by assumption) ?_
  rotate_left
  · (intro W hSw; have hz := hSw.2.1.cells; have hy := hSw.2.2.cells; go_simp; try with_reducible rfl)
  try simp only [Act.put, gA, gS, gZ, sA, sZ, sS]
  refine wpAnyH_ready (rs := [6]) (by kernel_rfl) (by simp) ?_
  refine AllReadyH.cons rfl (fun K hK => ?_) AllReadyH.nil
  simp only [gA, gS, gZ]
  rw [if_pos (by rfl)]
  go_simp
  (refine (find_any Ac mc cc s.cm p.s _ (own_rdT hHeld.2.2.rc hHeld.2.2.cok) (by have := hHeld.2.2.rc.2; have := HM.out; omega)).mono ?_; rintro e w2 ⟨⟨z, rfl, hz⟩, hw⟩; obtain rfl := hw.symm; clear hw)
  rcases hz with ⟨i, hi, rfl, hk1, hk2, -⟩ | ⟨rfl, hk2⟩
  rotate_left
  · exact absurd (HK.out) (by rw [hk2]; simp)
  have HI := Lib.hid (And.intro hi (And.intro hk1 hk2))
  have hi0 : (0 : Int) ≤ (i : Int) := by omega
  clear hk1 hk2
  go_wp2_with fail
  refine hK.out _ _ hHeld (fun hHeld => ?_)
  clear hK K
  try simp only [Act.put, gA, gS, gZ, sA, sZ, sS]
  refine tk (i := 7) (v := ?_) rfl (by kernel_rfl) (fun _ _ _ h => h) (by rfl) ?_ (by assumption) ?_
  rotate_left
  · (intro W hSw; have hz := hSw.2.1.cells; have hy := hSw.2.2.cells; go_simp; try with_reducible rfl)
  try simp only [Act.put, gA, gS, gZ, sA, sZ, sS]
  refine wpAnyH_done (by kernel_rfl) ?_ _
  have H2 := Lib.hid hHeld
  clear hHeld H1 HF
  obtain ⟨b9, off, hA, hbl, hcs⟩ := (own_rdT H2.out.2.2.rc H2.out.2.2.cok).cells (by have := H2.out.2.2.rc.2; have := HI.out.1; omega)
  subst hA
  have himc : (i : Int) < (mc : Int) := by have := H2.out.2.2.rc.2; have := HI.out.1; omega
  have hsum : (s.cm[i]'hi).2 = C := by rw [HCd.out]; unfold sumOf; rw [HI.out.2.2]; rfl
  have HSm := Lib.hid hsum
  have HCs : Hid (∀ V, QL w w.heap.size p b0 B s (some ⟨b9, off, none⟩) mc cc Aa ma ca V → V.rangeAt b9 (off + i * 33 + 1) C.toList) := Lib.hid fun V hV => by
    obtain ⟨b9', off', hA', _, hcs'⟩ := (own_rdT hV.2.2.rc hV.2.2.cok).cells (by have := hV.2.2.rc.2; have := HI.out.1; omega)
    injection hA' with hA'
    injection hA' with h1 h2
    subst h1 h2
    rw [← HSm.out]
    exact ncl_sum (fun j hj => hcs' i hi j hj) (hV.2.2.cok _ (List.getElem_mem hi))
  clear hbl hcs hsum
  obtain ⟨h0, h1, h2, h3, h4, hf0⟩ := H2.out.2.1.cells
  obtain ⟨e0, e1, e2, e3, e4, e5, e6, e7, e8, hf1⟩ := H2.out.2.2.cells
  go_upto_region 8 with fail
  clear h0 h1 h2 h3 h4 hf0 e0 e1 e2 e3 e4 e5 e6 e7 e8 hf1
  refine wp_region_held_drew (S := QL w w.heap.size p b0 B s (some ⟨b9, off, none⟩) mc cc Aa ma ca) (by kernel_rfl) (QL.drew H2.out) (fun hHeld => ?_)
  refine tk (i := 0) (v := ?_) rfl (by kernel_rfl) (fun _ _ _ h => h) (by rfl) ?_ (by assumption) ?_
  rotate_left
  · (intro W hSw; have hz := hSw.2.1.cells; have hy := hSw.2.2.cells; go_simp; try with_reducible rfl)
  try simp only [Act.put, gA, gZ, sA, sZ, sS]
  refine tk (i := 1) (v := ?_) rfl (by kernel_rfl) (fun _ _ _ h => h) (by rfl) ?_ (by assumption) ?_
  rotate_left
  · (intro W hSw; have hz := hSw.2.1.cells; have hy := hSw.2.2.cells; go_simp; try with_reducible rfl)
  try simp only [Act.put, gA, gS, gZ, sA, sZ, sS]
  refine tk (i := 2) (v := ?_) rfl (by kernel_rfl) (fun _ _ _ h => h) (by rfl) ?_ (by assumption) ?_
  rotate_left
  · (intro W hSw; have hz := hSw.2.1.cells; have hy := hSw.2.2.cells; go_simp; try with_reducible rfl)
  try simp only [Act.put, gA, gS, gZ, sA, sZ, sS]
  refine tk (i := 3) (v := ?_) rfl (by kernel_rfl) (fun _ _ _ h => h) (by rfl) ?_ (by assumption) ?_
  rotate_left
  · (intro W hSw; have hz := hSw.2.1.cells; have hy := hSw.2.2.cells; go_simp; try with_reducible rfl)
  try simp only [Act.put, gA, gS, gZ, sA, sZ, sS]
  refine tk (i := 4) (v := ?_) rfl (by kernel_rfl) (fun _ _ _ h => h) (by rfl) ?_ (by assumption) ?_
  rotate_left
  · (intro W hSw; have hz := hSw.2.1.cells; have hy := hSw.2.2.cells; go_simp; try with_reducible rfl)
  try simp only [Act.put, gA, gS, gZ, sA, sZ, sS]
  refine tk (i := 5) (v := ?_) rfl (by kernel_rfl) (fun _ _ _ h => h) (by rfl) ?_ (by assumption) ?_
  rotate_left
  · (intro W hSw; have hz := hSw.2.1.cells; have hy := hSw.2.2.cells; go_simp; try with_reducible rfl)
  try simp only [Act.put, gA, gS, gZ, sA, sZ, sS]
  refine tk (i := 6) (v := ?_) rfl (by kernel_rfl) (fun _ _ _ h => h) (by rfl) ?_ (by assumption) ?_
  rotate_left
  · (intro W hSw; have hz := hSw.2.1.cells; have hy := hSw.2.2.cells; go_simp; try with_reducible rfl)
  try simp only [Act.put, gA, gS, gZ, sA, sZ, sS]
  refine tk (i := 7) (v := ?_) rfl (by kernel_rfl) (fun _ _ _ h => h) (by rfl) ?_ (by assumption) ?_
  rotate_left
  · (intro W hSw; (refine yields_mid TA3 (.tmp 33) ?_ b9 (off + i * 33 + 1) ?_ C _ (HCs.out _ hSw) Tryz.underlying57 rfl (a32 C HC.out.1)); rfl; rfl)
  try simp only [Act.put, gA, gS, gZ, sA, sZ, sS]
  refine tk (i := 8) (v := ?_) rfl (by kernel_rfl) (fun _ _ _ h => h) (by rfl) ?_ (by assumption) ?_
  rotate_left
  · (intro W hSw; have hz := hSw.2.1.cells; have hy := hSw.2.2.cells; go_simp; try with_reducible rfl)
  try simp only [Act.put, gA, gS, gZ, sA, sZ, sS]
  refine wpAnyH_ready (rs := [9]) (by kernel_rfl) (by simp) ?_
  refine AllReadyH.cons rfl (fun K hK => ?_) AllReadyH.nil
  simp only [gA, gS, gZ]
  rw [if_pos (by rfl)]
  go_simp
  (refine (HSu.out _).mono ?_; rintro e w5 ⟨rfl, hb5⟩)
  go_wp2_with fail
  refine hK.out _ _ (QL.call hHeld hb5) (fun hHeld => ?_)
  clear hK K
  try simp only [Act.put, gA, gS, gZ, sA, sZ, sS]
  have hneq := HNe.out
  refine tk (i := 10) (v := ?_) rfl (by kernel_rfl) (fun _ _ _ h => h) (by rfl) ?_ (by assumption) ?_
  rotate_left
  · (intro W hSw; have hz := hSw.2.1.cells; have hy := hSw.2.2.cells; go_simp; try with_reducible rfl)
  try simp only [Act.put, gA, gS, gZ, sA, sZ, sS]
  refine wpAnyH_done (by kernel_rfl) ?_ _
  have HB := Lib.hid hHeld.1
  go_wp2
  go_ret
  exact ⟨rfl, HB.out⟩
/-- .. by its answer's number -/
def MnIs (p : P5) (b0 B : Nat) (s : St) (Ac : Option Addr) (mc cc : Nat) (Aa : Option Addr) (ma ca : Nat) (c : Int) : Prop := ∀ W, PN b0 W B s Ac mc cc Aa ma ca →
  Calls Tryz.prog 32 #[.pointer (some ⟨B, 0, none⟩), pkv p] W fun e w' => e = .returned (.int .i64 c) ∧ Below W.heap.size W w'
theorem mine_any {b0 B : Nat} {s : St} {Ac Aa : Option Addr} {mc cc ma ca : Nat} (p : P5) (hp : p.ok) (hm : s.cm.length ≤ 1000000) : MnIs p b0 B s Ac mc cc Aa ma ca (openC s p) := fun W hL => by
  unfold openC
  cases h1 : fitG s p s.sd
  · simp only [if_true]; exact mine_unfit p hL h1
  cases h2 : s.cl
  · cases h3 : (lk p.s s.cm).isSome
    · simp only [if_true, if_false, Bool.true_eq_false, Bool.false_eq_true]; exact mine_none p hL hm h1 h2 h3
    · by_cases h4 : sumOf p.s s.cm = sumP p
      · simp only [if_false, Bool.true_eq_false, Bool.false_eq_true, h4, ne_eq, not_true_eq_false]; exact mine_ok p hL hm hp h1 h2 h3 h4
      · simp only [if_true, if_false, Bool.true_eq_false, Bool.false_eq_true, ne_eq, h4, not_false_eq_true]; exact mine_other p hL hm hp h1 h2 h3 h4
  · simp only [if_true, if_false, Bool.true_eq_false]; exact mine_closed p hL h1 h2
end Go.Proofs.YtdljphbfbiganaaGreatDoor.Pl
