import Derived.Test.YtdljphbfbiganaaGreatDoorShaOf
import Derived.Test.YtdljphbfbiganaaGreatDoorGShaVals
import Derived.Stop.BytesEq
import Derived.ChangeKeysEq
import Derived.Test.YtdljphbfbiganaaGreatDoorGPacket
import Derived.Test.YtdljphbfbiganaaGreatDoorShaROf
import Derived.Great.BuildSlice
/- Sums as rows of cells: stored, loaded, compared; texts that are put together. -/
namespace Go.Proofs.YtdljphbfbiganaaGreatDoor.Sha
open Go Go.RowKit

theorem hstx (w1 : World) (C : Array Value) (hz : C.size = 32) (ho : C.all (·.oneCell') = true) : (storeCells ⟨w1.heap.size, 0, none⟩ C.toList).run Tryz.prog (w1.alloc (.cells #[.int .u8 0, .int .u8 0, .int .u8 0, .int .u8 0, .int .u8 0, .int .u8 0, .int .u8 0, .int .u8 0, .int .u8 0, .int .u8 0, .int .u8 0, .int .u8 0, .int .u8 0, .int .u8 0, .int .u8 0, .int .u8 0, .int .u8 0, .int .u8 0, .int .u8 0, .int .u8 0, .int .u8 0, .int .u8 0, .int .u8 0, .int .u8 0, .int .u8 0, .int .u8 0, .int .u8 0, .int .u8 0, .int .u8 0, .int .u8 0, .int .u8 0, .int .u8 0] 58)) = .ok () ((w1.alloc (.cells #[.int .u8 0, .int .u8 0, .int .u8 0, .int .u8 0, .int .u8 0, .int .u8 0, .int .u8 0, .int .u8 0, .int .u8 0, .int .u8 0, .int .u8 0, .int .u8 0, .int .u8 0, .int .u8 0, .int .u8 0, .int .u8 0, .int .u8 0, .int .u8 0, .int .u8 0, .int .u8 0, .int .u8 0, .int .u8 0, .int .u8 0, .int .u8 0, .int .u8 0, .int .u8 0, .int .u8 0, .int .u8 0, .int .u8 0, .int .u8 0, .int .u8 0, .int .u8 0] 58)).setRow w1.heap.size C) := by
  obtain ⟨Z, hZ⟩ : ∃ Z : Array Value, Z = #[.int .u8 0, .int .u8 0, .int .u8 0, .int .u8 0, .int .u8 0, .int .u8 0, .int .u8 0, .int .u8 0, .int .u8 0, .int .u8 0, .int .u8 0, .int .u8 0, .int .u8 0, .int .u8 0, .int .u8 0, .int .u8 0, .int .u8 0, .int .u8 0, .int .u8 0, .int .u8 0, .int .u8 0, .int .u8 0, .int .u8 0, .int .u8 0, .int .u8 0, .int .u8 0, .int .u8 0, .int .u8 0, .int .u8 0, .int .u8 0, .int .u8 0, .int .u8 0] := ⟨_, rfl⟩
  rw [← hZ]
  have hzz : Z.size = 32 := by rw [hZ]; rfl
  clear hZ
  have h := run_storeCells_at (P := Tryz.prog) w1.heap.size 0 58 C.toList 0 Z (w1.alloc (.cells Z 58)) (heap_alloc_new w1 _) (by rw [Array.length_toList, hz, hzz]; decide) (fun u hu => (Array.all_eq_true'.1 ho) u (by simpa using hu))
  simp only [Nat.add_zero, List.take_zero, List.nil_append, Nat.zero_add] at h
  rw [h, List.drop_of_length_le (by rw [Array.length_toList, hzz, Array.length_toList, hz]; exact Nat.le_refl _), List.append_nil]
theorem wpList_load_rowg {P : Program} {ops : Array Oper} {rest : List Oper} {o : Oper} {a : Act} {w : World} {Q : Exit → Act → World → Prop} (hw : Region.wanted o (yielded ops a.tmps) = true) (ty : TypeId) (x : Operand) (ho : o.op = .load ty x)
    (g : Nat) (hx : a.eval x = .pointer (some ⟨g, 0, none⟩)) (t : TypeId) (cs : Array Value) (fr : Nat × Nat) (d : TypeDesc) (hg : w.heap[g]? = some (.cells cs t fr))
    (hu : P.underlying ty = some d) (hd : (match d with | .struct _ | .array _ _ => true | _ => false) = true) (hi : (P.info? ty).map (·.size) = some cs.size)
    (h : wpList P ops Q rest (a.put o.dst (.agg cs)) w) : wpList P ops Q (o :: rest) a w := by
  refine wpList_step (fun K hK => ?_)
  rw [if_pos hw]
  exact wp_load_row ty x ho g hx t cs fr d hg hu hd hi (hK _ _ h)

def scells (S : St) : Array Value := ((sumL S).map (Value.int .u8)).toArray
theorem hstx2 (w1 : World) (C : Array Value) (hz : C.size = 32) (ho : C.all (·.oneCell') = true) : (storeCells ⟨w1.heap.size, 0, none⟩ C.toList).run Tryz.prog (w1.alloc (.cells #[.int .u8 0, .int .u8 0, .int .u8 0, .int .u8 0, .int .u8 0, .int .u8 0, .int .u8 0, .int .u8 0, .int .u8 0, .int .u8 0, .int .u8 0, .int .u8 0, .int .u8 0, .int .u8 0, .int .u8 0, .int .u8 0, .int .u8 0, .int .u8 0, .int .u8 0, .int .u8 0, .int .u8 0, .int .u8 0, .int .u8 0, .int .u8 0, .int .u8 0, .int .u8 0, .int .u8 0, .int .u8 0, .int .u8 0, .int .u8 0, .int .u8 0, .int .u8 0] 57)) = .ok () ((w1.alloc (.cells #[.int .u8 0, .int .u8 0, .int .u8 0, .int .u8 0, .int .u8 0, .int .u8 0, .int .u8 0, .int .u8 0, .int .u8 0, .int .u8 0, .int .u8 0, .int .u8 0, .int .u8 0, .int .u8 0, .int .u8 0, .int .u8 0, .int .u8 0, .int .u8 0, .int .u8 0, .int .u8 0, .int .u8 0, .int .u8 0, .int .u8 0, .int .u8 0, .int .u8 0, .int .u8 0, .int .u8 0, .int .u8 0, .int .u8 0, .int .u8 0, .int .u8 0, .int .u8 0] 57)).setRow w1.heap.size C) := by
  obtain ⟨Z, hZ⟩ : ∃ Z : Array Value, Z = #[.int .u8 0, .int .u8 0, .int .u8 0, .int .u8 0, .int .u8 0, .int .u8 0, .int .u8 0, .int .u8 0, .int .u8 0, .int .u8 0, .int .u8 0, .int .u8 0, .int .u8 0, .int .u8 0, .int .u8 0, .int .u8 0, .int .u8 0, .int .u8 0, .int .u8 0, .int .u8 0, .int .u8 0, .int .u8 0, .int .u8 0, .int .u8 0, .int .u8 0, .int .u8 0, .int .u8 0, .int .u8 0, .int .u8 0, .int .u8 0, .int .u8 0, .int .u8 0] := ⟨_, rfl⟩
  rw [← hZ]
  have hzz : Z.size = 32 := by rw [hZ]; rfl
  clear hZ
  have h := run_storeCells_at (P := Tryz.prog) w1.heap.size 0 57 C.toList 0 Z (w1.alloc (.cells Z 57)) (heap_alloc_new w1 _) (by rw [Array.length_toList, hz, hzz]; decide) (fun u hu => (Array.all_eq_true'.1 ho) u (by simpa using hu))
  simp only [Nat.add_zero, List.take_zero, List.nil_append, Nat.zero_add] at h
  rw [h, List.drop_of_length_le (by rw [Array.length_toList, hzz, Array.length_toList, hz]; exact Nat.le_refl _), List.append_nil]

theorem join_four (s : ByteArray) (i k : Nat) (h1 : i ≤ k) :
    (⟨(Lib.join ([s.extract 0 i, s.extract i k, ⟨#[]⟩, s.extract k s.size].map (·.data.toList)) []).toArray⟩ : ByteArray) = s := by
  have hl : s.data.toList.length = s.size := rfl
  have e : Lib.join ([s.extract 0 i, s.extract i k, ⟨#[]⟩, s.extract k s.size].map (·.data.toList)) [] = (s.extract 0 i).data.toList ++ ((s.extract i k).data.toList ++ (s.extract k s.size).data.toList) := by
    simp [Lib.join]
  rw [e, Lib.extract_data, Lib.extract_data, Lib.extract_data]
  have f : (s.data.toList.drop 0).take (i - 0) ++ ((s.data.toList.drop i).take (k - i) ++ (s.data.toList.drop k).take (s.size - k)) = s.data.toList := by
    rw [List.drop_zero, Nat.sub_zero, List.take_of_length_le (l := s.data.toList.drop k) (by simp [hl])]
    have g : (s.data.toList.drop i).take (k - i) ++ s.data.toList.drop k = s.data.toList.drop i := by
      have := List.take_append_drop (k - i) (s.data.toList.drop i)
      rw [List.drop_drop, show i + (k - i) = k by omega] at this
      exact this
    rw [g, List.take_append_drop]
  rw [f]
theorem join_one (s : ByteArray) : (⟨(Lib.join ([s].map (·.data.toList)) []).toArray⟩ : ByteArray) = s := by
  have e : Lib.join ([s].map (·.data.toList)) [] = s.data.toList := Lib.join_one _ _
  rw [e]
theorem eq_row {P : Program} (w : World) (d : Nat) (t e : TypeId) (n : Nat) (ht : P.underlying t = some (.array n e)) (he : P.underlying e = some (.int .u8)) (hsz : ∀ w, (sizeOf e).run P w = .ok 1 w)
    (xs : List Int) (hx : xs.length = n) :
    (Op.equalIn (d + 2) t (.agg (xs.map (Value.int .u8)).toArray) (.agg (xs.map (Value.int .u8)).toArray)).run P w = .ok true w := by
  rw [Op.equalIn]
  simp only [Sem.run_bind, run_underlying ht, Result.andThen_ok, hsz, Std.Legacy.Range.forIn_eq_forIn_range', Std.Legacy.Range.size, Nat.sub_zero, Nat.add_sub_cancel, Nat.div_one]
  have hl : ∀ i ∈ List.range' 0 n 1, i < n := fun i hi => by simpa using (List.mem_range'_1.1 hi).2
  generalize List.range' 0 n 1 = l at hl ⊢
  induction l with
  | nil => simp
  | cons i l ih =>
    have hi : i < n := hl i (by simp)
    have px : (part e (xs.map (Value.int .u8)).toArray (i * 1)).run P w = .ok (.int .u8 (xs.getD i 0)) w := by
      simp [part, isAgg, run_underlying he, List.getD, List.getElem?_eq_getElem (show i < xs.length by omega)]
    have pe : (Op.equalIn (d + 1) e (.int .u8 (xs.getD i 0)) (.int .u8 (xs.getD i 0))).run P w = .ok true w := by
      rw [run_equalIn_int w d e .u8 .u8 _ _ he]
      simp
    simp only [List.forIn_cons, Sem.run_bind, px, pe, Result.andThen_ok]
    simpa using ih (fun j hj => hl j (by simp [hj]))
theorem eq_scells (S : St) (W : World) : (Op.equalIn 10000 58 (.agg (scells S)) (.agg (scells S))).run Tryz.prog W = .ok true W :=
  eq_row W 9998 58 5 32 Tryz.underlying58 Tryz.underlying5 (fun w => by
    obtain ⟨i0, hi, _⟩ := info_parts infoB
    have h := run_sizeOf w hi
    rw [show Tryz.prog.cellsOf 5 = 1 by kernel_rfl] at h
    exact h) (sumL S) rfl
theorem keepS {w W W1 : World} {G : Nat} {o : Obj} (h : (Below w.heap.size w W ∧ Tab W) ∧ W.heap[G]? = some o) (hb : Below W.heap.size W W1) : (Below w.heap.size w W1 ∧ Tab W1) ∧ W1.heap[G]? = some o :=
  ⟨⟨h.1.1.trans (hb.mono h.1.1.size), tab_below h.1.2 hb⟩, (hb.block G (Array.getElem?_eq_some_iff.1 h.2).1).trans h.2⟩

theorem yields_row {P : Program} {o : Oper} {a : Act} {w : World} (ty : TypeId) (x : Operand) (ho : o.op = .load ty x) (g : Nat) (hx : a.eval x = .pointer (some ⟨g, 0, none⟩)) (t : TypeId) (cs : Array Value) (fr : Nat × Nat) (d : TypeDesc) (hg : w.heap[g]? = some (.cells cs t fr))
    (hu : P.underlying ty = some d) (hd : (match d with | .struct _ | .array _ _ => true | _ => false) = true) (hi : (P.info? ty).map (·.size) = some cs.size) :
    (execOp a.eval o).run P w = .ok (.value (.agg cs)) w := by
  unfold execOp
  simp only [ho, hx, Instr.loadAt, Instr.sureAddr, Sem.run_bind, Sem.run_pure, Result.andThen_ok, run_loadVar_row w g t ty cs fr d hg hu hd hi]

end Go.Proofs.YtdljphbfbiganaaGreatDoor.Sha
/- What acknowledges a packet: packet.Ack, and the page's Ack. -/
namespace Go.Proofs.YtdljphbfbiganaaGreatDoor.Sha
open Go Go.RowKit Num Texts Packet

/-- the first four bytes of a sum -/
def sum4 (d : ByteArray) : List Int := (sumL (ofSt d)).take 4
def ackS (d : ByteArray) : ByteArray := ⟨#[1]⟩ ++ strOfNums (sum4 d)
theorem ackS_one (d : ByteArray) : ackS d = strOfNums (1 :: sum4 d) := by
  unfold ackS
  apply ByteArray.ext
  simp [strOfNums, ByteArray.data_append]
theorem ackS_size (d : ByteArray) : (ackS d).size = 5 := by rw [ackS_one, strOfNums_size]; rfl
theorem ack_cells (d : ByteArray) : ∃ x0 x1 x2 x3 : Int, sum4 d = [x0, x1, x2, x3] ∧ (scells (ofSt d))[0]? = some (.int .u8 x0) ∧ (scells (ofSt d))[1]? = some (.int .u8 x1) ∧ (scells (ofSt d))[2]? = some (.int .u8 x2) ∧ (scells (ofSt d))[3]? = some (.int .u8 x3) :=
  ⟨_, _, _, _, rfl, rfl, rfl, rfl, rfl⟩

theorem four_text (W : World) (G : Nat) (C : Array Value) (t : TypeId) (x0 x1 x2 x3 : Int) (hg : W.heap[G]? = some (.cells C t (0, 0))) (h0 : C[0]? = some (.int .u8 x0)) (h1 : C[1]? = some (.int .u8 x1)) (h2 : C[2]? = some (.int .u8 x2)) (h3 : C[3]? = some (.int .u8 x3)) :
    (convert 81 9 (.slice (some ⟨G, 0, none⟩) 4 32)).run Tryz.prog W = .ok (.string (strOfNums [x0, x1, x2, x3])) W := by
  refine run_convert_bytes_arg _ 81 5 Tryz.underlying81 Tryz.underlying5 G 0 4 32 [x0, x1, x2, x3] rfl (fun i hi => ?_) 9 Tryz.underlying9
  match i, hi with
  | 0, _ => exact (cell_blk hg 0).trans h0
  | 1, _ => exact (cell_blk hg 1).trans h1
  | 2, _ => exact (cell_blk hg 2).trans h2
  | 3, _ => exact (cell_blk hg 3).trans h3
theorem five_text (W : World) (x y z u v : Int) :
    (convert 81 9 (.slice (some ⟨W.heap.size, 0, none⟩) 5 5)).run Tryz.prog (W.alloc (.cells #[.int .u8 x, .int .u8 y, .int .u8 z, .int .u8 u, .int .u8 v] 5)) = .ok (.string (strOfNums [x, y, z, u, v])) (W.alloc (.cells #[.int .u8 x, .int .u8 y, .int .u8 z, .int .u8 u, .int .u8 v] 5)) := by
  refine run_convert_bytes_arg _ 81 5 Tryz.underlying81 Tryz.underlying5 W.heap.size 0 5 5 [x, y, z, u, v] rfl (fun i hi => ?_) 9 Tryz.underlying9
  match i, hi with
  | 0, _ => rw [World.cell?_alloc_mark]; rfl
  | 1, _ => rw [World.cell?_alloc_mark]; rfl
  | 2, _ => rw [World.cell?_alloc_mark]; rfl
  | 3, _ => rw [World.cell?_alloc_mark]; rfl
  | 4, _ => rw [World.cell?_alloc_mark]; rfl

set_option maxRecDepth 100000 in
set_option maxHeartbeats 600000 in
theorem ack_any (p : P5) (hs : p.d.size ≤ 1000000) (w : World) (ht : Tab w) :
    Calls Tryz.prog 26 #[packetApart.arg p] w fun e w' => e = .returned (.string (ackS p.d)) ∧ Below w.heap.size w w' := by
  have HT := Lib.hid ht
  have hof : ∀ (bk : Nat) (W : World), Tab W → W.cell? ⟨bk, 0, none⟩ = some (.string p.d) → bk < W.heap.size → Calls Tryz.prog 27 #[.slice (some ⟨bk, 0, none⟩) 1 1] W fun r w' => r = .returned (.agg (scells (ofSt p.d))) ∧ Below W.heap.size W w' :=
    fun bk W hW hc hbk => of_any bk 0 1 [p.d] p.d hs (join_one p.d) W hW (fun j x h => by
      match j, h with
      | 0, h => injection h with h; subst h; exact hc
      | (m + 1), h => simp at h) hbk (by simp) (by simp)
  obtain ⟨x0, x1, x2, x3, hx, h0, h1, h2, h3⟩ := ack_cells p.d
  have hone : (scells (ofSt p.d)).all (·.oneCell') = true := u8_one (sumL (ofSt p.d))
  have hsz : (scells (ofSt p.d)).size = 32 := rfl
  have hack : ackS p.d = ⟨#[1]⟩ ++ strOfNums [x0, x1, x2, x3] := by unfold ackS; rw [hx]
  have hT4 : (strOfNums [x0, x1, x2, x3]).size ≤ 4 := by rw [strOfNums_size]; exact Nat.le_refl _
  generalize scells (ofSt p.d) = C at *
  have HOf := Lib.hid hof
  have HAck := Lib.hid hack
  have HSz := Lib.hid hsz
  have HOn := Lib.hid hone
  have HV := Lib.hid (fun (W : World) (G : Nat) (hg : W.heap[G]? = some (.cells C 58 (0, 0))) => four_text W G C _ x0 x1 x2 x3 hg h0 h1 h2 h3)
  clear hof hack hsz hone h0 h1 h2 h3 ht hx hs
  generalize strOfNums [x0, x1, x2, x3] = T4 at *
  unfold packetApart.arg
  go_enter Tryz.func26, Tryz.ntmps26
  go_wp2_with fail
  refine (HOf.out _ _ (tab_below HT.out (((Below.refl _ _).alloc (Nat.le_refl _) _).alloc (by simp) _)) (by simp) (by simp)).mono ?_
  rintro e w1 ⟨rfl, hb1⟩
  have HB1 := Lib.hid ((((Below.refl w.heap.size w).alloc (Nat.le_refl _) _).alloc (by simp) _).trans (hb1.mono (by simp; omega)))
  clear hb1
  go_wp2_with fail
  rw [hstx w1 C HSz.out HOn.out]
  simp only [Result.andThen]
  rw [Oper.upon_skip]
  simp only [Act.put]
  obtain ⟨W2, hW2⟩ : ∃ X, X = (w1.alloc (.cells #[.int .u8 0, .int .u8 0, .int .u8 0, .int .u8 0, .int .u8 0, .int .u8 0, .int .u8 0, .int .u8 0, .int .u8 0, .int .u8 0, .int .u8 0, .int .u8 0, .int .u8 0, .int .u8 0, .int .u8 0, .int .u8 0, .int .u8 0, .int .u8 0, .int .u8 0, .int .u8 0, .int .u8 0, .int .u8 0, .int .u8 0, .int .u8 0, .int .u8 0, .int .u8 0, .int .u8 0, .int .u8 0, .int .u8 0, .int .u8 0, .int .u8 0, .int .u8 0] 58)).setRow w1.heap.size C := ⟨_, rfl⟩
  rw [← hW2]
  have hv := HV.out W2 w1.heap.size (by rw [hW2]; exact setRow_heap _ _ _ _ _ _ (heap_alloc_new w1 _))
  have HB2 := Lib.hid (show Below w.heap.size w W2 by rw [hW2]; exact below_setRow (HB1.out.alloc HB1.out.size _) HB1.out.size _)
  clear hW2
  have hadd : 1 + T4.size ≤ 9223372036854775807 := by omega
  go_wp2
  go_ret
  exact ⟨by rw [HAck.out]; rfl, HB2.out⟩

set_option maxRecDepth 100000 in
set_option maxHeartbeats 600000 in
theorem rack_any (p : P5) (hs : p.d.size ≤ 1000000) (w : World) :
    Calls Tryz.prog 29 #[packetApart.arg p] w fun e w' => e = .returned (.string (ackS p.d)) ∧ Below w.heap.size w w' := by
  have hof : ∀ W : World, Calls Tryz.prog 30 #[.string p.d] W fun r w' => r = .returned (.agg (scells (ofSt p.d))) ∧ Below W.heap.size W w' := fun W => rof_any p.d hs W
  obtain ⟨x0, x1, x2, x3, hx, h0, h1, h2, h3⟩ := ack_cells p.d
  have hone : (scells (ofSt p.d)).all (·.oneCell') = true := u8_one (sumL (ofSt p.d))
  have hsz : (scells (ofSt p.d)).size = 32 := rfl
  have hack : ackS p.d = strOfNums [1, x0, x1, x2, x3] := by rw [ackS_one, hx]
  generalize scells (ofSt p.d) = C at *
  have HOf := Lib.hid hof
  have HAck := Lib.hid hack
  have HSz := Lib.hid hsz
  have HOn := Lib.hid hone
  have HC := Lib.hid (And.intro h0 (And.intro h1 (And.intro h2 h3)))
  clear hof hack hsz hone h0 h1 h2 h3 hx hs
  unfold packetApart.arg
  go_enter Tryz.func29, Tryz.ntmps29
  go_wp2_with fail
  refine (HOf.out _).mono ?_
  rintro e w1 ⟨rfl, hb1⟩
  have HB1 := Lib.hid (((Below.refl w.heap.size w).alloc (Nat.le_refl _) _).trans (hb1.mono (by simp)))
  clear hb1
  go_wp2_with fail
  rw [hstx2 w1 C HSz.out HOn.out]
  simp only [Result.andThen]
  rw [Oper.upon_skip]
  simp only [Act.put]
  obtain ⟨W2, hW2⟩ : ∃ X, X = (w1.alloc (.cells #[.int .u8 0, .int .u8 0, .int .u8 0, .int .u8 0, .int .u8 0, .int .u8 0, .int .u8 0, .int .u8 0, .int .u8 0, .int .u8 0, .int .u8 0, .int .u8 0, .int .u8 0, .int .u8 0, .int .u8 0, .int .u8 0, .int .u8 0, .int .u8 0, .int .u8 0, .int .u8 0, .int .u8 0, .int .u8 0, .int .u8 0, .int .u8 0, .int .u8 0, .int .u8 0, .int .u8 0, .int .u8 0, .int .u8 0, .int .u8 0, .int .u8 0, .int .u8 0] 57)).setRow w1.heap.size C := ⟨_, rfl⟩
  rw [← hW2]
  have hg : W2.heap[w1.heap.size]? = some (.cells C 57 (0, 0)) := by rw [hW2]; exact setRow_heap _ _ _ _ _ _ (heap_alloc_new w1 _)
  have c0 := (cell_blk hg 0).trans HC.out.1
  have c1 := (cell_blk hg 1).trans HC.out.2.1
  have c2 := (cell_blk hg 2).trans HC.out.2.2.1
  have c3 := (cell_blk hg 3).trans HC.out.2.2.2
  have HB2 := Lib.hid (show Below w.heap.size w W2 by rw [hW2]; exact below_setRow (HB1.out.alloc HB1.out.size _) HB1.out.size _)
  clear hW2 hg
  have hv := five_text W2 1 x0 x1 x2 x3
  go_wp2
  go_ret
  exact ⟨by rw [HAck.out]; rfl, HB2.out.alloc HB2.out.size _⟩
end Go.Proofs.YtdljphbfbiganaaGreatDoor.Sha
/- A sum of zeros; rows of 32 bytes: stored, compared. -/
namespace Go.Proofs.YtdljphbfbiganaaGreatDoor.Sha
open Go Go.RowKit

def zero32 : Array Value := (List.replicate 32 (Value.int .u8 0)).toArray
theorem zero32_one : zero32.all (·.oneCell') = true := by
  rw [Array.all_eq_true']
  intro x hx
  rw [List.eq_of_mem_replicate (List.mem_toArray.1 hx)]; rfl
theorem i32s (C : Array Value) (hz : C.size = 32) : (Tryz.prog.info? 58).map (·.size) = some C.size := by rw [hz]; kernel_rfl
theorem i32b (C : Array Value) (hz : C.size = 32) : (Tryz.prog.info? 57).map (·.size) = some C.size := by rw [hz]; kernel_rfl
theorem hrow (w1 : World) (G : Nat) (C Z : Array Value) (hz : C.size = 32) (hzz : Z.size = 32) (ho : C.all (·.oneCell') = true) {t : TypeId} (hG : w1.heap[G]? = some (.cells Z t (0, 0))) : (storeCells ⟨G, 0, none⟩ C.toList).run Tryz.prog w1 = .ok () (w1.setRow G C) := by
  have h := run_storeCells_at (P := Tryz.prog) G 0 t C.toList 0 Z w1 hG (by rw [Array.length_toList, hz, hzz]; decide) (fun u hu => (Array.all_eq_true'.1 ho) u (by simpa using hu))
  simp only [Nat.add_zero, List.take_zero, List.nil_append, Nat.zero_add] at h
  rw [h, List.drop_of_length_le (by rw [Array.length_toList, hzz, Array.length_toList, hz]; exact Nat.le_refl _), List.append_nil]

theorem eq_zero32 (W : World) : (Op.equalIn 10000 58 (.agg zero32) (.agg zero32)).run Tryz.prog W = .ok true W := by
  have e : zero32 = (((List.replicate 32 (0 : Int)).map (Value.int .u8)).toArray) := rfl
  rw [e]
  exact eq_row W 9998 58 5 32 Tryz.underlying58 Tryz.underlying5 (fun w => by
    obtain ⟨i0, hi, _⟩ := info_parts infoB
    have h := run_sizeOf w hi
    rw [show Tryz.prog.cellsOf 5 = 1 by kernel_rfl] at h
    exact h) (List.replicate 32 0) rfl
end Go.Proofs.YtdljphbfbiganaaGreatDoor.Sha
