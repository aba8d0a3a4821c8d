/- Steps: data as hexadecimal digits, by the program. -/
import Derived.Test.YtnjcenbmdcogpaaDoorStpWord
import Derived.Test.YtnjcenbmdcogpaaDoorBuilderByte
import Derived.Deep.Cut
namespace Go.Proofs.YtnjcenbmdcogpaaDoor.Sp
open Go Go.RowKit

theorem and15 (n : Nat) (h : n < 256) : bits .and .u8 (n : Int) 15 = ((n % 16 : Nat) : Int) := by
  have e : (bits .and .u8 (n : Int) 15) = ((n &&& 15 : Nat) : Int) := by
    have : ∀ m : Fin 256, bits .and .u8 (m.val : Int) 15 = ((m.val &&& 15 : Nat) : Int) := by decide +kernel
    exact this ⟨n, h⟩
  rw [e, show n &&& 15 = n % 16 from Nat.and_two_pow_sub_one_eq_mod n 4]
theorem and15' (n r : Nat) (hr : n % 16 = r) (h : n < 256) : bits .and .u8 (n : Int) 15 = (r : Int) := by rw [and15 n h, hr]
theorem byteCells_len (l : List UInt8) : (Lib.byteCells l).length = l.length := by simp [Lib.byteCells]
theorem hexL_take (l : List UInt8) (k : Nat) (hk : k < l.length) : hexL (l.take (k + 1)) = hexL (l.take k) ++ [hdig ((l.getD k 0).toNat / 16), hdig ((l.getD k 0).toNat % 16)] := by
  rw [List.take_succ_eq_append_getElem hk, hexL, List.flatMap_append]
  have : l.getD k 0 = l[k] := by rw [List.getD_eq_getElem?_getD, List.getElem?_eq_getElem hk]; rfl
  rw [this]; simp [hexL]
theorem ix_dig (n : Nat) (h : n < 16) (w : World) : (Instr.index 9 (.string ⟨#[48, 49, 50, 51, 52, 53, 54, 55, 56, 57, 97, 98, 99, 100, 101, 102]⟩) (.int .u8 (n : Int))).run Tryd.prog w = .ok (.int .u8 ((hdig n).toNat : Int)) w := by
  rw [run_index_string w 9 _ .u8 (n : Int) Tryd.underlying9, dif_pos ⟨by omega, by show (n : Int) < 16; omega⟩]
  have : ∀ m : Fin 16, ((⟨#[48, 49, 50, 51, 52, 53, 54, 55, 56, 57, 97, 98, 99, 100, 101, 102]⟩ : ByteArray)[m.val]'(by have := m.isLt; show m.val < 16; omega)) = hdig m.val := by decide
  have h2 := this ⟨n, h⟩
  simp only [Int.toNat_natCast]
  rw [← h2]
theorem ix_str (d : ByteArray) (k : Nat) (hk : k < d.size) (w : World) : (Instr.index 9 (.string d) (.int .i64 (k : Int))).run Tryd.prog w = .ok (.int .u8 ((d.data.toList.getD k 0).toNat : Int)) w := by
  rw [run_index_string w 9 _ .i64 (k : Int) Tryd.underlying9, dif_pos ⟨by omega, by omega⟩]
  have : d.data.toList.getD k 0 = d[k] := by
    rw [List.getD_eq_getElem?_getD, List.getElem?_eq_getElem (by simpa using hk)]; rfl
  rw [this]
  simp only [Int.toNat_natCast]

set_option maxRecDepth 100000 in
set_option maxHeartbeats 600000 in
theorem hex_any (d : ByteArray) (hd : d.size ≤ 1000) (w : World) :
    Calls Tryd.prog 28 #[.string d] w fun e w' => e = .returned (.string ⟨(hexS d.data.toList).toArray⟩) ∧ Below w.heap.size w w' := by
  by_cases he : d.data.toList = []
  · obtain rfl : d = ⟨#[]⟩ := Go.WideShapes.bytes_inj he
    go_enter Tryd.func28, Tryd.ntmps28
    go_wp2
    go_ret
    exact ⟨rfl, Below.refl _ _⟩
  have HS := Lib.hid (show hexS d.data.toList = hexL d.data.toList from if_neg he)
  have e1 : ¬ d.toList = [] := by rw [ByteArray.toList_eq]; exact he
  have e2 : d.toList.isEmpty = false := by rw [List.isEmpty_eq_false_iff]; exact e1
  have hlen : d.data.toList.length = d.size := by simp
  have HLen := Lib.hid hlen
  clear he hlen
  go_enter Tryd.func28, Tryd.ntmps28
  go_upto_region 4 with fail
  obtain ⟨W0, hW⟩ : ∃ W0, W0 = w.alloc (.cells #[.pointer none, .slice none 0 0] 71) := ⟨_, rfl⟩
  rw [← hW]
  have hB0 : Below w.heap.size w W0 := by rw [hW]; exact (Below.refl _ _).alloc (Nat.le_refl _) _
  have hbd : Lib.BuilderAt 71 5 w.heap.size w.heap.size (.pointer none) [] W0 := by
    refine ⟨Nat.le_refl _, .slice none 0 0, by rw [hW]; exact heap_alloc_new _ _, World.ownsRow_nil _ _ _ _, by simp [Value.ownBlock]⟩
  have hz0 : w.heap.size < W0.heap.size := by rw [hW]; simp
  have HBd := Lib.hid hbd
  clear hW hbd
  go_wp2_with fail
  go_loopw [9] (fun i wr => ∃ k : Nat, k ≤ d.size ∧ i = .int .i64 k ∧ Lib.IsBuilder 71 5 w.heap.size w.heap.size (Lib.byteCells (hexL (d.data.toList.take k))) wr ∧ Below w.heap.size w wr ∧ w.heap.size < wr.heap.size) (fun i _ => d.size - (intOf i).toNat)
  case atStart => exact ⟨0, by omega, rfl, .inl HBd.out, hB0, hz0⟩
  case round =>
    obtain ⟨k, hk, rfl, hbd, hB, hz⟩ := hrel
    have HB := Lib.hid hbd
    clear hbd hB0 hz0
    rcases Nat.lt_or_ge k d.size with hlt | hge
    · have hk32 : (k : Int) < (d.size : Int) := by omega
      have hix := fun W => ix_str d k hlt W
      have hnx := hexL_take d.data.toList k (by rw [HLen.out]; exact hlt)
      have hbx : (d.data.toList.getD k 0).toNat < 256 := (d.data.toList.getD k 0).toNat_lt
      have hln : (hexL (d.data.toList.take k)).length ≤ 2000 := by
        rw [hexL_len, List.length_take]; omega
      generalize (d.data.toList.getD k 0).toNat = x at *
      have ha := and15 x hbx
      have hq1 : x / 16 < 16 := by omega
      have hr1 : x % 16 < 16 := by omega
      have hq : (x : Int) / 16 = ((x / 16 : Nat) : Int) := rfl
      generalize x / 16 = q at *
      generalize hr : x % 16 = r at hnx ha hr1
      have hrx := Lib.hid hr
      clear hr
      have hd1 := fun W => ix_dig q hq1 W
      have hd2 := fun W => ix_dig r hr1 W
      have HN := Lib.hid hnx
      have HIx := Lib.hid hix
      clear hnx
      go_wp2_with fail
      clear hd1 hd2 ha hix hq
      refine (Bld.byte_any w.heap.size w.heap.size _ _ wr HB.out (by rw [byteCells_len]; omega) (by omega)).mono ?_
      rintro e w1 ⟨rfl, hb1, hB1⟩
      have HB1 := Lib.hid hb1
      have hB1' : Below w.heap.size w w1 := hB.trans hB1
      have hz1 : w.heap.size < w1.heap.size := Nat.lt_of_lt_of_le hz hB1.size
      clear hb1 hB1
      have ha := and15' x r hrx.out hbx
      have hd2 := fun W => ix_dig r hr1 W
      have hix := HIx.out
      go_wp2_with fail
      clear hd2 ha hix
      refine (Bld.byte_any w.heap.size w.heap.size _ _ w1 (.inr HB1.out) (by rw [List.length_append, byteCells_len]; simp; omega) (by omega)).mono ?_
      rintro e w2 ⟨rfl, hb2, hB2⟩
      have HB2 : Hid (Lib.IsBuilder 71 5 w.heap.size w.heap.size (Lib.byteCells (hexL (d.data.toList.take (k + 1)))) w2) := Lib.hid (by
        rw [HN.out]
        have e : Lib.byteCells (hexL (d.data.toList.take k) ++ [hdig q, hdig r]) = Lib.byteCells (hexL (d.data.toList.take k)) ++ [.int .u8 ((hdig q).toNat : Int)] ++ [.int .u8 ((hdig r).toNat : Int)] := by simp [Lib.byteCells]
        rw [e]; exact .inr hb2)
      have hB2' : Below w.heap.size w w2 := hB1'.trans hB2
      have hz2 : w.heap.size < w2.heap.size := Nat.lt_of_lt_of_le hz1 hB2.size
      clear hb2 hB2 HB1 hB1'
      go_wp2
      go_roundw
      case rel => exact ⟨k + 1, by omega, by go_num, HB2.out, hB2', hz2⟩
      case measure => simp [intOf]; omega
    · have hk32 : k = d.size := by omega
      subst hk32
      rw [List.take_of_length_le (by rw [HLen.out]; exact Nat.le_refl _)] at HB
      go_wp2_with fail
      refine (Bld.string_any w.heap.size w.heap.size _ wr HB.out (by omega)).mono ?_
      rintro e w1 ⟨rfl, hb1⟩
      go_wp2
      go_ret
      exact ⟨by rw [HS.out]; rfl, hB.trans hb1⟩
end Go.Proofs.YtnjcenbmdcogpaaDoor.Sp
