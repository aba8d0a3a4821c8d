/- Sums as rows of cells: stored, loaded, compared; texts that are put together. -/
import Derived.Test.YtdljphbfbiganaaDoorShaOf
import Derived.Test.YtdljphbfbiganaaDoorShaRPad
import Derived.Stop.BytesEq
import Derived.ChangeKeysEq
namespace Go.Proofs.YtdljphbfbiganaaDoor.Sha
open Go Go.RowKit

theorem hstx (w1 : World) (C : Array Value) (hz : C.size = 32) (ho : C.all (·.oneCell') = true) : (storeCells ⟨w1.heap.size, 0, none⟩ C.toList).run Tryd.prog (w1.alloc (.cells #[.int .u8 0, .int .u8 0, .int .u8 0, .int .u8 0, .int .u8 0, .int .u8 0, .int .u8 0, .int .u8 0, .int .u8 0, .int .u8 0, .int .u8 0, .int .u8 0, .int .u8 0, .int .u8 0, .int .u8 0, .int .u8 0, .int .u8 0, .int .u8 0, .int .u8 0, .int .u8 0, .int .u8 0, .int .u8 0, .int .u8 0, .int .u8 0, .int .u8 0, .int .u8 0, .int .u8 0, .int .u8 0, .int .u8 0, .int .u8 0, .int .u8 0, .int .u8 0] 55)) = .ok () ((w1.alloc (.cells #[.int .u8 0, .int .u8 0, .int .u8 0, .int .u8 0, .int .u8 0, .int .u8 0, .int .u8 0, .int .u8 0, .int .u8 0, .int .u8 0, .int .u8 0, .int .u8 0, .int .u8 0, .int .u8 0, .int .u8 0, .int .u8 0, .int .u8 0, .int .u8 0, .int .u8 0, .int .u8 0, .int .u8 0, .int .u8 0, .int .u8 0, .int .u8 0, .int .u8 0, .int .u8 0, .int .u8 0, .int .u8 0, .int .u8 0, .int .u8 0, .int .u8 0, .int .u8 0] 55)).setRow w1.heap.size C) := by
  obtain ⟨Z, hZ⟩ : ∃ Z : Array Value, Z = #[.int .u8 0, .int .u8 0, .int .u8 0, .int .u8 0, .int .u8 0, .int .u8 0, .int .u8 0, .int .u8 0, .int .u8 0, .int .u8 0, .int .u8 0, .int .u8 0, .int .u8 0, .int .u8 0, .int .u8 0, .int .u8 0, .int .u8 0, .int .u8 0, .int .u8 0, .int .u8 0, .int .u8 0, .int .u8 0, .int .u8 0, .int .u8 0, .int .u8 0, .int .u8 0, .int .u8 0, .int .u8 0, .int .u8 0, .int .u8 0, .int .u8 0, .int .u8 0] := ⟨_, rfl⟩
  rw [← hZ]
  have hzz : Z.size = 32 := by rw [hZ]; rfl
  clear hZ
  have h := run_storeCells_at (P := Tryd.prog) w1.heap.size 0 55 C.toList 0 Z (w1.alloc (.cells Z 55)) (heap_alloc_new w1 _) (by rw [Array.length_toList, hz, hzz]; decide) (fun u hu => (Array.all_eq_true'.1 ho) u (by simpa using hu))
  simp only [Nat.add_zero, List.take_zero, List.nil_append, Nat.zero_add] at h
  rw [h, List.drop_of_length_le (by rw [Array.length_toList, hzz, Array.length_toList, hz]; exact Nat.le_refl _), List.append_nil]
theorem wpList_load_rowg {P : Program} {ops : Array Oper} {rest : List Oper} {o : Oper} {a : Act} {w : World} {Q : Exit → Act → World → Prop} (hw : Region.wanted o (yielded ops a.tmps) = true) (ty : TypeId) (x : Operand) (ho : o.op = .load ty x)
    (g : Nat) (hx : a.eval x = .pointer (some ⟨g, 0, none⟩)) (t : TypeId) (cs : Array Value) (fr : Nat × Nat) (d : TypeDesc) (hg : w.heap[g]? = some (.cells cs t fr))
    (hu : P.underlying ty = some d) (hd : (match d with | .struct _ | .array _ _ => true | _ => false) = true) (hi : (P.info? ty).map (·.size) = some cs.size)
    (h : wpList P ops Q rest (a.put o.dst (.agg cs)) w) : wpList P ops Q (o :: rest) a w := by
  refine wpList_step (fun K hK => ?_)
  rw [if_pos hw]
  exact wp_load_row ty x ho g hx t cs fr d hg hu hd hi (hK _ _ h)

def scells (S : St) : Array Value := ((sumL S).map (Value.int .u8)).toArray
theorem hstx2 (w1 : World) (C : Array Value) (hz : C.size = 32) (ho : C.all (·.oneCell') = true) : (storeCells ⟨w1.heap.size, 0, none⟩ C.toList).run Tryd.prog (w1.alloc (.cells #[.int .u8 0, .int .u8 0, .int .u8 0, .int .u8 0, .int .u8 0, .int .u8 0, .int .u8 0, .int .u8 0, .int .u8 0, .int .u8 0, .int .u8 0, .int .u8 0, .int .u8 0, .int .u8 0, .int .u8 0, .int .u8 0, .int .u8 0, .int .u8 0, .int .u8 0, .int .u8 0, .int .u8 0, .int .u8 0, .int .u8 0, .int .u8 0, .int .u8 0, .int .u8 0, .int .u8 0, .int .u8 0, .int .u8 0, .int .u8 0, .int .u8 0, .int .u8 0] 54)) = .ok () ((w1.alloc (.cells #[.int .u8 0, .int .u8 0, .int .u8 0, .int .u8 0, .int .u8 0, .int .u8 0, .int .u8 0, .int .u8 0, .int .u8 0, .int .u8 0, .int .u8 0, .int .u8 0, .int .u8 0, .int .u8 0, .int .u8 0, .int .u8 0, .int .u8 0, .int .u8 0, .int .u8 0, .int .u8 0, .int .u8 0, .int .u8 0, .int .u8 0, .int .u8 0, .int .u8 0, .int .u8 0, .int .u8 0, .int .u8 0, .int .u8 0, .int .u8 0, .int .u8 0, .int .u8 0] 54)).setRow w1.heap.size C) := by
  obtain ⟨Z, hZ⟩ : ∃ Z : Array Value, Z = #[.int .u8 0, .int .u8 0, .int .u8 0, .int .u8 0, .int .u8 0, .int .u8 0, .int .u8 0, .int .u8 0, .int .u8 0, .int .u8 0, .int .u8 0, .int .u8 0, .int .u8 0, .int .u8 0, .int .u8 0, .int .u8 0, .int .u8 0, .int .u8 0, .int .u8 0, .int .u8 0, .int .u8 0, .int .u8 0, .int .u8 0, .int .u8 0, .int .u8 0, .int .u8 0, .int .u8 0, .int .u8 0, .int .u8 0, .int .u8 0, .int .u8 0, .int .u8 0] := ⟨_, rfl⟩
  rw [← hZ]
  have hzz : Z.size = 32 := by rw [hZ]; rfl
  clear hZ
  have h := run_storeCells_at (P := Tryd.prog) w1.heap.size 0 54 C.toList 0 Z (w1.alloc (.cells Z 54)) (heap_alloc_new w1 _) (by rw [Array.length_toList, hz, hzz]; decide) (fun u hu => (Array.all_eq_true'.1 ho) u (by simpa using hu))
  simp only [Nat.add_zero, List.take_zero, List.nil_append, Nat.zero_add] at h
  rw [h, List.drop_of_length_le (by rw [Array.length_toList, hzz, Array.length_toList, hz]; exact Nat.le_refl _), List.append_nil]

theorem join_four (s : ByteArray) (i k : Nat) (h1 : i ≤ k) :
    (⟨(Lib.join ([s.extract 0 i, s.extract i k, ⟨#[]⟩, s.extract k s.size].map (·.data.toList)) []).toArray⟩ : ByteArray) = s := by
  have hl : s.data.toList.length = s.size := rfl
  have e : Lib.join ([s.extract 0 i, s.extract i k, ⟨#[]⟩, s.extract k s.size].map (·.data.toList)) [] = (s.extract 0 i).data.toList ++ ((s.extract i k).data.toList ++ (s.extract k s.size).data.toList) := by
    simp [Lib.join]
  rw [e, Lib.extract_data, Lib.extract_data, Lib.extract_data]
  have f : (s.data.toList.drop 0).take (i - 0) ++ ((s.data.toList.drop i).take (k - i) ++ (s.data.toList.drop k).take (s.size - k)) = s.data.toList := by
    rw [List.drop_zero, Nat.sub_zero, List.take_of_length_le (l := s.data.toList.drop k) (by simp [hl])]
    have g : (s.data.toList.drop i).take (k - i) ++ s.data.toList.drop k = s.data.toList.drop i := by
      have := List.take_append_drop (k - i) (s.data.toList.drop i)
      rw [List.drop_drop, show i + (k - i) = k by omega] at this
      exact this
    rw [g, List.take_append_drop]
  rw [f]
theorem join_one (s : ByteArray) : (⟨(Lib.join ([s].map (·.data.toList)) []).toArray⟩ : ByteArray) = s := by
  have e : Lib.join ([s].map (·.data.toList)) [] = s.data.toList := Lib.join_one _ _
  rw [e]
theorem eq_row {P : Program} (w : World) (d : Nat) (t e : TypeId) (n : Nat) (ht : P.underlying t = some (.array n e)) (he : P.underlying e = some (.int .u8)) (hsz : ∀ w, (sizeOf e).run P w = .ok 1 w)
    (xs : List Int) (hx : xs.length = n) :
    (Op.equalIn (d + 2) t (.agg (xs.map (Value.int .u8)).toArray) (.agg (xs.map (Value.int .u8)).toArray)).run P w = .ok true w := by
  rw [Op.equalIn]
  simp only [Sem.run_bind, run_underlying ht, Result.andThen_ok, hsz, Std.Legacy.Range.forIn_eq_forIn_range', Std.Legacy.Range.size, Nat.sub_zero, Nat.add_sub_cancel, Nat.div_one]
  have hl : ∀ i ∈ List.range' 0 n 1, i < n := fun i hi => by simpa using (List.mem_range'_1.1 hi).2
  generalize List.range' 0 n 1 = l at hl ⊢
  induction l with
  | nil => simp
  | cons i l ih =>
    have hi : i < n := hl i (by simp)
    have px : (part e (xs.map (Value.int .u8)).toArray (i * 1)).run P w = .ok (.int .u8 (xs.getD i 0)) w := by
      simp [part, isAgg, run_underlying he, List.getD, List.getElem?_eq_getElem (show i < xs.length by omega)]
    have pe : (Op.equalIn (d + 1) e (.int .u8 (xs.getD i 0)) (.int .u8 (xs.getD i 0))).run P w = .ok true w := by
      rw [run_equalIn_int w d e .u8 .u8 _ _ he]
      simp
    simp only [List.forIn_cons, Sem.run_bind, px, pe, Result.andThen_ok]
    simpa using ih (fun j hj => hl j (by simp [hj]))
theorem eq_scells (S : St) (W : World) : (Op.equalIn 10000 55 (.agg (scells S)) (.agg (scells S))).run Tryd.prog W = .ok true W :=
  eq_row W 9998 55 5 32 Tryd.underlying55 Tryd.underlying5 (fun w => by
    obtain ⟨i0, hi, _⟩ := info_parts infoB
    have h := run_sizeOf w hi
    rw [show Tryd.prog.cellsOf 5 = 1 by kernel_rfl] at h
    exact h) (sumL S) rfl
theorem keepS {w W W1 : World} {G : Nat} {o : Obj} (h : (Below w.heap.size w W ∧ Tab W) ∧ W.heap[G]? = some o) (hb : Below W.heap.size W W1) : (Below w.heap.size w W1 ∧ Tab W1) ∧ W1.heap[G]? = some o :=
  ⟨⟨h.1.1.trans (hb.mono h.1.1.size), tab_below h.1.2 hb⟩, (hb.block G (Array.getElem?_eq_some_iff.1 h.2).1).trans h.2⟩

theorem yields_row {P : Program} {o : Oper} {a : Act} {w : World} (ty : TypeId) (x : Operand) (ho : o.op = .load ty x) (g : Nat) (hx : a.eval x = .pointer (some ⟨g, 0, none⟩)) (t : TypeId) (cs : Array Value) (fr : Nat × Nat) (d : TypeDesc) (hg : w.heap[g]? = some (.cells cs t fr))
    (hu : P.underlying ty = some d) (hd : (match d with | .struct _ | .array _ _ => true | _ => false) = true) (hi : (P.info? ty).map (·.size) = some cs.size) :
    (execOp a.eval o).run P w = .ok (.value (.agg cs)) w := by
  unfold execOp
  simp only [ho, hx, Instr.loadAt, Instr.sureAddr, Sem.run_bind, Sem.run_pure, Result.andThen_ok, run_loadVar_row w g t ty cs fr d hg hu hd hi]

end Go.Proofs.YtdljphbfbiganaaDoor.Sha
