import Derived.Test.YtdljphbfbiganaaGreatDoorGCommon
import Derived.Shelf.Strings.Builder1
/- A strings.Builder of the call's own: what WriteString and String do. -/
namespace Go.Proofs.YtdljphbfbiganaaGreatDoor.Bld
open Go.RowKit Go.Shelf

def lays169_ren : Go.Shelf.Ren := ⟨fun | 169 => 62 | n => n, fun | 70 => 96 | 9 => 9 | 0 => 0 | 72 => 98 | 37 => 81 | 127 => 116 | 3 => 3 | 5 => 5 | n => n, fun | n => n⟩
theorem lays169 : Go.Proofs.Lays.n169 Tryz.prog lays169_ren := {
  mixed := by kernel_rfl
  f169 := Tryz.func62.trans (congrArg some (by kernel_rfl))
  t0 := Tryz.underlying0
  a0 := Tryz.isAgg0
  z0 := Tryz.sizeOf0
  v0 := Tryz.zeroValue0
  t3 := Tryz.underlying3
  a3 := Tryz.isAgg3
  z3 := Tryz.sizeOf3
  v3 := Tryz.zeroValue3
  t9 := Tryz.underlying9
  a9 := Tryz.isAgg9
  z9 := Tryz.sizeOf9
  v9 := Tryz.zeroValue9
  t37 := Tryz.underlying81
  a37 := Tryz.isAgg81
  z37 := Tryz.sizeOf81
  v37 := Tryz.zeroValue81
  t70 := Tryz.underlying96
  a70 := Tryz.isAgg96
  z70 := Tryz.sizeOf96
  v70 := Tryz.zeroValue96
  t72 := Tryz.underlying98
  a72 := Tryz.isAgg98
  z72 := Tryz.sizeOf98
  v72 := Tryz.zeroValue98
  t127 := Tryz.underlying116
  a127 := Tryz.isAgg116
  z127 := Tryz.sizeOf116
  v127 := Tryz.zeroValue116 }
theorem extra169 : Go.Proofs.Builder.Extra Tryz.prog lays169_ren := {
  sizeBuilder := by kernel_rfl
  liesBuilder := by kernel_rfl
  t5 := Tryz.underlying5
  a5 := Tryz.isAgg5
  z5 := Tryz.sizeOf5
  v5 := Tryz.zeroValue5
  infoByte := by kernel_rfl
  cellsByte := by kernel_rfl
  sizeByte := by kernel_rfl
  neB5 := by decide }

/-- String: the bytes that were written. -/
theorem string_any (B b : Nat) (l : List UInt8) (w : World) (h : Lib.IsBuilder 98 5 B b (Lib.byteCells l) w) (hBw : B ≤ w.heap.size) :
    Calls Tryz.prog 62 #[.pointer (some ⟨b, 0, none⟩)] w fun e w' => e = .returned (.string ⟨l.toArray⟩) ∧ Below B w w' :=
  Any.Builder_String_any lays169 extra169 B b l w h hBw

set_option maxHeartbeats 1000000 in
set_option maxRecDepth 100000 in
theorem check_used (b : Nat) (w : World) (h0 : w.cell? ⟨b, 0, none⟩ = some (.pointer (some ⟨b, 0, none⟩))) :
    Calls Tryz.prog 72 #[.pointer (some ⟨b, 0, none⟩)] w fun e w' => e = .returned (.tuple #[]) ∧ w' = w := by
  obtain ⟨j, hj, _⟩ := Option.map_eq_some_iff.1 extra169.sizeBuilder
  have hj' : Tryz.prog.info? 98 = some j := hj
  go_enter Tryz.func72, Tryz.ntmps72
  go_wp2
  rw [Lib.run_neq_ptr_same w _ Tryz.underlying96 hj']
  go_wp2
  go_end0
  exact ⟨rfl, rfl⟩

set_option maxHeartbeats 1000000 in
set_option maxRecDepth 100000 in
theorem check_fresh (b : Nat) (w : World) (h0 : w.cell? ⟨b, 0, none⟩ = some (.pointer none)) (hsh : w.shape? b = some (98, 2)) (hfz : w.frozen? ⟨b, 0, none⟩ = false) :
    Calls Tryz.prog 72 #[.pointer (some ⟨b, 0, none⟩)] w fun e w' => e = .returned (.tuple #[]) ∧ w' = w.setCell ⟨b, 0, none⟩ (.pointer (some ⟨b, 0, none⟩)) := by
  obtain ⟨j, hj, hjs⟩ := Option.map_eq_some_iff.1 extra169.sizeBuilder
  have hj' : Tryz.prog.info? 98 = some j := hj
  go_enter Tryz.func72, Tryz.ntmps72
  go_wp2
  rw [Lib.run_to_unsafe w ⟨b, 0, none⟩ Tryz.underlying96 Tryz.underlying133 hj' (by rw [hjs]; decide) hsh (Nat.zero_lt_succ 1)]
  simp only [Result.andThen]
  rw [Oper.upon_value]
  go_wp2
  rw [run_callFunc_extern Tryz.func90 (by kernel_rfl) (by kernel_rfl) (by kernel_rfl) (e := Extern.AbiNoEscape.same) (by kernel_rfl)]
  rw [Lib.run_noEscape]
  simp only [Result.andThen]
  rw [Oper.upon_value]
  go_wp2
  rw [Lib.run_from_unsafe w ⟨b, 0, none⟩ Tryz.underlying133 Tryz.underlying96 hj' hsh extra169.liesBuilder]
  simp only [Result.andThen]
  rw [Oper.upon_value]
  go_wp2
  go_end0
  exact ⟨rfl, rfl⟩

theorem check_any (B b : Nat) (bs : List Value) (w : World) (h : Lib.IsBuilder 98 5 B b bs w) :
    Calls Tryz.prog 72 #[.pointer (some ⟨b, 0, none⟩)] w fun e w' => e = .returned (.tuple #[]) ∧ (Lib.BuilderAt 98 5 B b (.pointer (some ⟨b, 0, none⟩)) bs w' ∧ Below B w w') := by
  rcases h with h | h
  · refine (check_fresh b w h.cell0 h.shape h.frozen0).mono ?_
    rintro e w' ⟨rfl, rfl⟩
    exact ⟨rfl, h.used _, (Below.refl B w).setCell (p := ⟨b, 0, none⟩) h.1 _⟩
  · refine (check_used b w h.cell0).mono ?_
    rintro e w' ⟨rfl, rfl⟩
    exact ⟨rfl, h, Below.refl B _⟩

set_option maxHeartbeats 2000000 in
set_option maxRecDepth 100000 in
theorem write_any (B b : Nat) (bs : List Value) (s : ByteArray) (w : World) (h : Lib.IsBuilder 98 5 B b bs w) (hlen : bs.length + s.size ≤ 140737488355328) (hBw : B ≤ w.heap.size) :
    Calls Tryz.prog 61 #[.pointer (some ⟨b, 0, none⟩), .string s] w fun e w' => e = .returned (.tuple #[.int .i64 s.size, .nilIface]) ∧ (Lib.BuilderAt 98 5 B b (.pointer (some ⟨b, 0, none⟩)) (bs ++ Lib.strCells s) w' ∧ Below B w w') := by
  obtain ⟨i0, hi, hz0, hz1, hz2⟩ := info_parts (show (Tryz.prog.info? 5).map (fun i => (i.zero, i.size, i.bytes)) = some (some (.int .u8 0), 1, 1) by kernel_rfl)
  go_enter Tryz.func61, Tryz.ntmps61
  go_wp2_with (go_at_call 72; refine (check_any B b bs _ h).mono ?_)
  rintro e w1 ⟨rfl, h1, hb1⟩
  obtain ⟨hB, v, hbk, hown, hne⟩ := h1
  have c0 : w1.cell? ⟨b, 0, none⟩ = some (.pointer (some ⟨b, 0, none⟩)) := by rw [Lib.cell_of_heap hbk]; rfl
  have c1 : w1.cell? ⟨b, 1, none⟩ = some v := by rw [Lib.cell_of_heap hbk]; rfl
  go_wp2_with (at_builtin; refine Lib.wpList_append_own_string _ rfl _ _ 81 9 rfl B 5 i0 Tryz.underlying81 Tryz.underlying9 hi hz0 hz1 hz2 _ _ _ rfl hown s rfl ?c3 ?c4 ?c5 ?_)
  case c3 => unfold maxLen; omega
  case c4 => omega
  case c5 => have := hb1.size; omega
  intro v' w2 hown' hgrow _
  have hlt : b < w1.heap.size := by
    rcases Nat.lt_or_ge b w1.heap.size with h' | h'
    · exact h'
    · simp [Array.getElem?_eq_none h'] at hbk
  have hb2 : w2.heap[b]? = some (.cells #[.pointer (some ⟨b, 0, none⟩), v] 98 (0, 0)) := by
    rw [hgrow.block b hlt (fun e => hne e.symm)]
    exact hbk
  have d0 : w2.cell? ⟨b, 0, none⟩ = some (.pointer (some ⟨b, 0, none⟩)) := by rw [Lib.cell_of_heap hb2]; rfl
  have d1 : w2.cell? ⟨b, 1, none⟩ = some v := by rw [Lib.cell_of_heap hb2]; rfl
  have f1 : w2.frozen? ⟨b, 1, none⟩ = false := Lib.frozen_of_heap hb2 1
  obtain ⟨ao, n', cap, rfl⟩ : ∃ ao n' cap, v' = .slice ao n' cap := by
    rcases hown'.2 with ⟨hv, _⟩ | ⟨g, cap, cur, hv, _⟩
    · exact ⟨_, _, _, hv⟩
    · exact ⟨_, _, _, hv⟩
  go_wp2
  go_ret2
  refine ⟨rfl, ?_, ?_⟩
  · exact Lib.BuilderAt.put hB hb2 (bs' := bs ++ Lib.strCells s) (by simpa [Lib.strCells_length] using hown') (by decide)
  · exact (hb1.grown hgrow (by have := hb1.size; omega) (fun k hk => (hown.lt k hk).1)).setCell (p := ⟨b, 1, none⟩) hB _
end Go.Proofs.YtdljphbfbiganaaGreatDoor.Bld
/- digit.Text, digit.List and the page's: texts as bytes. -/
namespace Go.Proofs.YtdljphbfbiganaaGreatDoor.Texts
open Go.RowKit Num Bld

/-- A slice that reads as texts. -/
def RdS (w : World) (A : Option Addr) (len : Nat) (ss : List ByteArray) : Prop :=
  ss.length = len ∧ (0 < len → ∃ b off, A = some ⟨b, off, none⟩ ∧ b < w.heap.size ∧ ∀ i, i < len → w.cell? ⟨b, off + i, none⟩ = some (.string (ss.getD i .empty)))
theorem RdS.below {w w' : World} {A : Option Addr} {len : Nat} {ss : List ByteArray} (h : RdS w A len ss) (hb : Below w.heap.size w w') : RdS w' A len ss :=
  ⟨h.1, fun hl => by
    obtain ⟨b, off, rfl, hbl, hc⟩ := h.2 hl
    exact ⟨b, off, rfl, Nat.lt_of_lt_of_le hbl hb.size, fun i hi => (hb.cell (p := ⟨b, _, none⟩) hbl).trans (hc i hi)⟩⟩

def textL (s : ByteArray) : List UInt8 := (numS s.size).data.toList ++ s.data.toList
def textsL (ss : List ByteArray) : List UInt8 := ss.flatMap textL
theorem textsL_snoc (ss : List ByteArray) (s : ByteArray) : textsL (ss ++ [s]) = textsL ss ++ textL s := by simp [textsL]

theorem built_below {w w' : World} {T e : TypeId} {B b : Nat} {bs : List Value} (h : Lib.IsBuilder T e B b bs w) (hb : Below w.heap.size w w') : Lib.IsBuilder T e B b bs w' := by
  rcases h with h | h
  · have hl := h.lt
    obtain ⟨hB, v, hh, hown, hne⟩ := h
    exact .inl ⟨hB, v, (hb.block b hl).trans hh, own_below hown hb, hne⟩
  · have hl := h.lt
    obtain ⟨hB, v, hh, hown, hne⟩ := h
    exact .inr ⟨hB, v, (hb.block b hl).trans hh, own_below hown hb, hne⟩

theorem textsL_take (ss : List ByteArray) (k : Nat) (hk : k < ss.length) : textsL (ss.take (k + 1)) = textsL (ss.take k) ++ textL (ss.getD k .empty) := by
  rw [List.take_succ_eq_append_getElem hk, textsL_snoc, List.getD_eq_getElem?_getD, List.getElem?_eq_getElem hk]; rfl
theorem textsL_le (ss : List ByteArray) (k : Nat) : (textsL (ss.take k)).length ≤ (textsL ss).length := by
  unfold textsL
  conv => rhs; rw [← List.take_append_drop k ss]
  rw [List.flatMap_append, List.length_append]
  omega

set_option maxRecDepth 20000 in
set_option maxHeartbeats 1000000 in
theorem texts_any (A : Option Addr) (len cap : Nat) (ss : List ByteArray) (w : World) (h : RdS w A len ss) (hlen : len ≤ 9223372036854775807) (hs : ∀ i, (ss.getD i .empty).size ≤ 9223372036854775807) (hall : (textsL ss).length ≤ 140737488355328) :
    Calls Tryz.prog 71 #[.slice A len cap] w fun e w' => e = .returned (.string ⟨(textsL ss).toArray⟩) ∧ Below w.heap.size w w' := by
  have HA := Lib.hid hall; clear hall
  have HS := Lib.hid hs; clear hs
  go_enter Tryz.func71, Tryz.ntmps71
  go_wp2
  go_loopw [8] (fun i wr => ∃ k : Nat, i = .int .i64 (k : Int) ∧ k ≤ len ∧ Lib.IsBuilder 98 5 w.heap.size w.heap.size (Lib.byteCells (textsL (ss.take k))) wr ∧ Below w.heap.size w wr ∧ w.heap.size < wr.heap.size)
    (fun i _ => len - (intOf i).toNat)
  case atStart => exact ⟨0, rfl, Nat.zero_le _, Lib.fresh_isBuilder _ _ _, (Below.refl _ _).alloc (Nat.le_refl _) _, by simp⟩
  case round =>
    obtain ⟨k, rfl, hk, hbld, hb, hz⟩ := hrel
    by_cases hlt : k < len
    · obtain ⟨b, off, rfl, hbl, hc⟩ := h.2 (by omega)
      have hc := (hb.cell (p := ⟨b, off + k, none⟩) hbl).trans (hc k hlt)
      have ht := textsL_take ss k (by have := h.1; omega)
      have hle := textsL_le ss (k + 1)
      have hn := HS.out k
      generalize ss.getD k .empty = s at hc ht hn
      have HT := Lib.hid (And.intro ht hle)
      clear ht hle
      have hi0 : (0 : Int) ≤ (k : Int) := by omega
      have hi1 : (k : Int) < (len : Int) := by omega
      go_wp2_with fail
      refine (num_any s.size (by omega) _).mono ?_
      rintro e w1 ⟨rfl, b1⟩
      have k1 := built_below hbld b1
      have hn2 : (textsL (ss.take k)).length + (numS s.size).size + s.size ≤ 140737488355328 := by
        have h1 := congrArg List.length HT.out.1
        have h2 := HT.out.2
        have h3 := HA.out
        unfold textL at h1
        rw [List.length_append, List.length_append] at h1
        have e1 : (numS s.size).data.toList.length = (numS s.size).size := by simp
        have e2 : s.data.toList.length = s.size := by simp
        omega
      have B1 := Lib.hid (And.intro (hb.trans (b1.mono (Nat.le_of_lt hz))) (Nat.lt_of_lt_of_le hz b1.size))
      clear b1 hb hz hbld
      go_wp2_with fail
      refine (write_any _ _ _ _ _ k1 (by rw [Lib.byteCells_length]; omega) (Nat.le_of_lt B1.out.2)).mono ?_
      rintro e w2 ⟨rfl, k2, b2⟩
      have B2 := Lib.hid (And.intro (B1.out.1.trans b2) (Nat.lt_of_lt_of_le B1.out.2 b2.size))
      clear b2 B1 k1
      go_wp2_with fail
      refine (write_any _ _ _ _ _ (.inr k2) (by rw [List.length_append, Lib.byteCells_length, Lib.strCells_length]; omega) (Nat.le_of_lt B2.out.2)).mono ?_
      rintro e w3 ⟨rfl, k3, b3⟩
      have B3 := Lib.hid (And.intro (B2.out.1.trans b3) (Nat.lt_of_lt_of_le B2.out.2 b3.size))
      clear b3 B2 k2
      go_wp2
      refine ⟨⟨k + 1, by go_num, by omega, .inr ?_, B3.out.1, B3.out.2⟩, by simp [intOf]; omega⟩
      rw [HT.out.1]
      unfold textL
      have e : Lib.byteCells (textsL (ss.take k) ++ ((numS s.size).data.toList ++ s.data.toList)) = Lib.byteCells (textsL (ss.take k)) ++ Lib.strCells (numS s.size) ++ Lib.strCells s := by
        simp [Lib.byteCells, Lib.strCells]
      rw [e]
      exact k3
    · have hk2 : k = len := by omega
      subst hk2
      rw [List.take_of_length_le (by have := h.1; omega)] at hbld
      go_wp2_with (go_at_call 62; refine (string_any _ _ _ _ hbld (Nat.le_of_lt hz)).mono ?_; rintro e w1 ⟨rfl, b1⟩)
      go_ret
      exact ⟨rfl, hb.trans b1⟩

set_option maxHeartbeats 400000 in
theorem text_any (s : ByteArray) (w : World) (hs : s.size ≤ 9223372036854775807) (hall : (textL s).length ≤ 140737488355328) :
    Calls Tryz.prog 57 #[.string s] w fun e w' => e = .returned (.string ⟨(textL s).toArray⟩) ∧ Below w.heap.size w w' := by
  have hr : RdS (w.alloc (.cells #[.string s] 9)) (some ⟨w.heap.size, 0, none⟩) 1 [s] := ⟨rfl, fun _ => ⟨_, 0, rfl, by simp, fun i hi => by
    obtain rfl : i = 0 := by omega
    simp⟩⟩
  have hc := texts_any _ 1 1 [s] _ hr (by decide) (fun i => by cases i <;> simp [hs]) (by simpa [textsL] using hall)
  have e1 : textsL [s] = textL s := by simp [textsL]
  rw [e1] at hc
  have HC := Lib.hid hc
  clear hc hr hall
  go_enter Tryz.func57, Tryz.ntmps57
  go_wp2_with (go_at_call 71; refine HC.out.mono ?_; rintro e w1 ⟨rfl, b1⟩)
  go_ret
  exact ⟨rfl, below_box b1⟩
end Go.Proofs.YtdljphbfbiganaaGreatDoor.Texts
