import Derived.Test.YtnjcenbmdcogpaaGreatDoorStpWord
import Derived.Test.YtnjcenbmdcogpaaGreatDoorJoinB
import Derived.Deep.Cut
import Derived.Deep.QuietTactic
import Derived.BigQuiet
/- Steps: data as hexadecimal digits, by the program. -/
namespace Go.Proofs.YtnjcenbmdcogpaaGreatDoor.Sp
open Go Go.RowKit

theorem and15 (n : Nat) (h : n < 256) : bits .and .u8 (n : Int) 15 = ((n % 16 : Nat) : Int) := by
  have e : (bits .and .u8 (n : Int) 15) = ((n &&& 15 : Nat) : Int) := by
    have : ∀ m : Fin 256, bits .and .u8 (m.val : Int) 15 = ((m.val &&& 15 : Nat) : Int) := by decide +kernel
    exact this ⟨n, h⟩
  rw [e, show n &&& 15 = n % 16 from Nat.and_two_pow_sub_one_eq_mod n 4]
theorem and15' (n r : Nat) (hr : n % 16 = r) (h : n < 256) : bits .and .u8 (n : Int) 15 = (r : Int) := by rw [and15 n h, hr]
theorem byteCells_len (l : List UInt8) : (Lib.byteCells l).length = l.length := by simp [Lib.byteCells]
theorem hexL_take (l : List UInt8) (k : Nat) (hk : k < l.length) : hexL (l.take (k + 1)) = hexL (l.take k) ++ [hdig ((l.getD k 0).toNat / 16), hdig ((l.getD k 0).toNat % 16)] := by
  rw [List.take_succ_eq_append_getElem hk, hexL, List.flatMap_append]
  have : l.getD k 0 = l[k] := by rw [List.getD_eq_getElem?_getD, List.getElem?_eq_getElem hk]; rfl
  rw [this]; simp [hexL]
theorem ix_dig (n : Nat) (h : n < 16) (w : World) : (Instr.index 9 (.string ⟨#[48, 49, 50, 51, 52, 53, 54, 55, 56, 57, 97, 98, 99, 100, 101, 102]⟩) (.int .u8 (n : Int))).run Tryz.prog w = .ok (.int .u8 ((hdig n).toNat : Int)) w := by
  rw [run_index_string w 9 _ .u8 (n : Int) Tryz.underlying9, dif_pos ⟨by omega, by show (n : Int) < 16; omega⟩]
  have : ∀ m : Fin 16, ((⟨#[48, 49, 50, 51, 52, 53, 54, 55, 56, 57, 97, 98, 99, 100, 101, 102]⟩ : ByteArray)[m.val]'(by have := m.isLt; show m.val < 16; omega)) = hdig m.val := by decide
  have h2 := this ⟨n, h⟩
  simp only [Int.toNat_natCast]
  rw [← h2]
theorem ix_str (d : ByteArray) (k : Nat) (hk : k < d.size) (w : World) : (Instr.index 9 (.string d) (.int .i64 (k : Int))).run Tryz.prog w = .ok (.int .u8 ((d.data.toList.getD k 0).toNat : Int)) w := by
  rw [run_index_string w 9 _ .i64 (k : Int) Tryz.underlying9, dif_pos ⟨by omega, by omega⟩]
  have : d.data.toList.getD k 0 = d[k] := by
    rw [List.getD_eq_getElem?_getD, List.getElem?_eq_getElem (by simpa using hk)]; rfl
  rw [this]
  simp only [Int.toNat_natCast]

set_option maxRecDepth 100000 in
set_option maxHeartbeats 600000 in
theorem hex_any (d : ByteArray) (hd : d.size ≤ 1000) (w : World) :
    Calls Tryz.prog 31 #[.string d] w fun e w' => e = .returned (.string ⟨(hexS d.data.toList).toArray⟩) ∧ Below w.heap.size w w' := by
  by_cases he : d.data.toList = []
  · obtain rfl : d = ⟨#[]⟩ := Go.WideShapes.bytes_inj he
    go_enter Tryz.func31, Tryz.ntmps31
    go_wp2
    go_ret
    exact ⟨rfl, Below.refl _ _⟩
  have HS := Lib.hid (show hexS d.data.toList = hexL d.data.toList from if_neg he)
  have e1 : ¬ d.toList = [] := by rw [ByteArray.toList_eq]; exact he
  have e2 : d.toList.isEmpty = false := by rw [List.isEmpty_eq_false_iff]; exact e1
  have hlen : d.data.toList.length = d.size := by simp
  have HLen := Lib.hid hlen
  clear he hlen
  go_enter Tryz.func31, Tryz.ntmps31
  go_upto_region 4 with fail
  obtain ⟨W0, hW⟩ : ∃ W0, W0 = w.alloc (.cells #[.pointer none, .slice none 0 0] 77) := ⟨_, rfl⟩
  rw [← hW]
  have hB0 : Below w.heap.size w W0 := by rw [hW]; exact (Below.refl _ _).alloc (Nat.le_refl _) _
  have hbd : Lib.BuilderAt 77 5 w.heap.size w.heap.size (.pointer none) [] W0 := by
    refine ⟨Nat.le_refl _, .slice none 0 0, by rw [hW]; exact heap_alloc_new _ _, World.ownsRow_nil _ _ _ _, by simp [Value.ownBlock]⟩
  have hz0 : w.heap.size < W0.heap.size := by rw [hW]; simp
  have HBd := Lib.hid hbd
  clear hW hbd
  go_wp2_with fail
  go_loopw [9] (fun i wr => ∃ k : Nat, k ≤ d.size ∧ i = .int .i64 k ∧ Lib.IsBuilder 77 5 w.heap.size w.heap.size (Lib.byteCells (hexL (d.data.toList.take k))) wr ∧ Below w.heap.size w wr ∧ w.heap.size < wr.heap.size) (fun i _ => d.size - (intOf i).toNat)
  case atStart => exact ⟨0, by omega, rfl, .inl HBd.out, hB0, hz0⟩
  case round =>
    obtain ⟨k, hk, rfl, hbd, hB, hz⟩ := hrel
    have HB := Lib.hid hbd
    clear hbd hB0 hz0
    rcases Nat.lt_or_ge k d.size with hlt | hge
    · have hk32 : (k : Int) < (d.size : Int) := by omega
      have hix := fun W => ix_str d k hlt W
      have hnx := hexL_take d.data.toList k (by rw [HLen.out]; exact hlt)
      have hbx : (d.data.toList.getD k 0).toNat < 256 := (d.data.toList.getD k 0).toNat_lt
      have hln : (hexL (d.data.toList.take k)).length ≤ 2000 := by
        rw [hexL_len, List.length_take]; omega
      generalize (d.data.toList.getD k 0).toNat = x at *
      have ha := and15 x hbx
      have hq1 : x / 16 < 16 := by omega
      have hr1 : x % 16 < 16 := by omega
      have hq : (x : Int) / 16 = ((x / 16 : Nat) : Int) := rfl
      generalize x / 16 = q at *
      generalize hr : x % 16 = r at hnx ha hr1
      have hrx := Lib.hid hr
      clear hr
      have hd1 := fun W => ix_dig q hq1 W
      have hd2 := fun W => ix_dig r hr1 W
      have HN := Lib.hid hnx
      have HIx := Lib.hid hix
      clear hnx
      go_wp2_with fail
      clear hd1 hd2 ha hix hq
      refine (Bld.byte_any w.heap.size w.heap.size _ _ wr HB.out (by rw [byteCells_len]; omega) (by omega)).mono ?_
      rintro e w1 ⟨rfl, hb1, hB1⟩
      have HB1 := Lib.hid hb1
      have hB1' : Below w.heap.size w w1 := hB.trans hB1
      have hz1 : w.heap.size < w1.heap.size := Nat.lt_of_lt_of_le hz hB1.size
      clear hb1 hB1
      have ha := and15' x r hrx.out hbx
      have hd2 := fun W => ix_dig r hr1 W
      have hix := HIx.out
      go_wp2_with fail
      clear hd2 ha hix
      refine (Bld.byte_any w.heap.size w.heap.size _ _ w1 (.inr HB1.out) (by rw [List.length_append, byteCells_len]; simp; omega) (by omega)).mono ?_
      rintro e w2 ⟨rfl, hb2, hB2⟩
      have HB2 : Hid (Lib.IsBuilder 77 5 w.heap.size w.heap.size (Lib.byteCells (hexL (d.data.toList.take (k + 1)))) w2) := Lib.hid (by
        rw [HN.out]
        have e : Lib.byteCells (hexL (d.data.toList.take k) ++ [hdig q, hdig r]) = Lib.byteCells (hexL (d.data.toList.take k)) ++ [.int .u8 ((hdig q).toNat : Int)] ++ [.int .u8 ((hdig r).toNat : Int)] := by simp [Lib.byteCells]
        rw [e]; exact .inr hb2)
      have hB2' : Below w.heap.size w w2 := hB1'.trans hB2
      have hz2 : w.heap.size < w2.heap.size := Nat.lt_of_lt_of_le hz1 hB2.size
      clear hb2 hB2 HB1 hB1'
      go_wp2
      go_roundw
      case rel => exact ⟨k + 1, by omega, by go_num, HB2.out, hB2', hz2⟩
      case measure => simp [intOf]; omega
    · have hk32 : k = d.size := by omega
      subst hk32
      rw [List.take_of_length_le (by rw [HLen.out]; exact Nat.le_refl _)] at HB
      go_wp2_with fail
      refine (Bld.string_any w.heap.size w.heap.size _ wr HB.out (by omega)).mono ?_
      rintro e w1 ⟨rfl, hb1⟩
      go_wp2
      go_ret
      exact ⟨by rw [HS.out]; rfl, hB.trans hb1⟩
end Go.Proofs.YtnjcenbmdcogpaaGreatDoor.Sp
/- The page's steps: data as hexadecimal digits. -/
namespace Go.Proofs.YtnjcenbmdcogpaaGreatDoor.Sp
open Go Go.RowKit

theorem sl_fin : ∀ q : Fin 16, (⟨#[48, 49, 50, 51, 52, 53, 54, 55, 56, 57, 97, 98, 99, 100, 101, 102]⟩ : ByteArray).extract q.val (q.val + 1) = ⟨#[hdig q.val]⟩ := by decide +kernel
theorem sl_dig {q : Nat} (h : q < 16) : (⟨#[48, 49, 50, 51, 52, 53, 54, 55, 56, 57, 97, 98, 99, 100, 101, 102]⟩ : ByteArray).extract q (q + 1) = ⟨#[hdig q]⟩ := sl_fin ⟨q, h⟩
set_option maxRecDepth 100000 in
set_option maxHeartbeats 1000000 in
theorem rhex_any (d : ByteArray) (hd : d.size ≤ 1000) (w : World) :
    Calls Tryz.prog 54 #[.string d] w fun e w' => e = .returned (.string ⟨(hexS d.data.toList).toArray⟩) ∧ Below w.heap.size w w' := by
  by_cases he : d.data.toList = []
  · obtain rfl : d = ⟨#[]⟩ := Go.WideShapes.bytes_inj he
    go_enter Tryz.func54, Tryz.ntmps54
    go_wp2
    go_ret
    exact ⟨rfl, Below.refl _ _⟩
  have HS := Lib.hid (show hexS d.data.toList = hexL d.data.toList from if_neg he)
  have e1 : ¬ d.toList = [] := by rw [ByteArray.toList_eq]; exact he
  have e2 : d.toList.isEmpty = false := by rw [List.isEmpty_eq_false_iff]; exact e1
  have HLen := Lib.hid (show d.data.toList.length = d.size by simp)
  clear he
  go_enter Tryz.func54, Tryz.ntmps54
  go_wp2_with fail
  go_loopw [4, 5] (fun v i wr => ∃ (k : Nat) (y : ByteArray), k ≤ d.size ∧ i = .int .i64 k ∧ v = .string y ∧ Hid (y.data.toList = hexL (d.data.toList.take k)) ∧ Below w.heap.size w wr) (fun _ i _ => d.size - (intOf i).toNat)
  case atStart => exact ⟨0, ⟨#[]⟩, by omega, rfl, rfl, Lib.hid rfl, Below.refl _ _⟩
  case round =>
    obtain ⟨k, y, hk, rfl, rfl, HY, hB⟩ := hrel
    have HB := Lib.hid hB
    clear hB
    rcases Nat.lt_or_ge k d.size with hlt | hge
    · have hk32 : (k : Int) < (d.size : Int) := by omega
      have hix := fun W => ix_str d k hlt W
      have hnx := hexL_take d.data.toList k (by rw [HLen.out]; exact hlt)
      have hbx : (d.data.toList.getD k 0).toNat < 256 := (d.data.toList.getD k 0).toNat_lt
      have hys : y.size ≤ 2000 := by
        have h1 := congrArg List.length HY.out
        rw [hexL_len, List.length_take] at h1
        have h2 : y.data.toList.length = y.size := by simp
        omega
      generalize (d.data.toList.getD k 0).toNat = x at *
      have hq1 : x / 16 < 16 := by omega
      have hr1 : x % 16 < 16 := by omega
      have hx0 : (0 : Int) ≤ (x : Int) := by omega
      have hx1 : (x : Int) ≤ 255 := by omega
      have q1 : (x : Int) / 16 = ((x / 16 : Nat) : Int) := rfl
      have q2 : (x : Int).tdiv 16 = ((x / 16 : Nat) : Int) := by rw [Int.tdiv_eq_ediv_of_nonneg (by omega)]; rfl
      have r1 : (x : Int) % 16 = ((x % 16 : Nat) : Int) := rfl
      have r2 : (x : Int).tmod 16 = ((x % 16 : Nat) : Int) := by rw [Int.tmod_eq_emod_of_nonneg (by omega)]; rfl
      generalize x / 16 = q at *
      generalize x % 16 = r at *
      have hq := sl_dig hq1
      have hr := sl_dig hr1
      obtain ⟨qn, hqn⟩ : ∃ qn, q + 1 = qn := ⟨_, rfl⟩
      obtain ⟨rn, hrn⟩ : ∃ rn, r + 1 = rn := ⟨_, rfl⟩
      rw [hqn] at hq
      rw [hrn] at hr
      have q3 : (q : Int) + 1 = (qn : Int) := by omega
      have r3 : (r : Int) + 1 = (rn : Int) := by omega
      have q4 : (q : Int) ≤ (qn : Int) := by omega
      have r4 : (r : Int) ≤ (rn : Int) := by omega
      have q5 : (qn : Int) ≤ 16 := by omega
      have r5 : (rn : Int) ≤ 16 := by omega
      have q0 : (0 : Int) ≤ (q : Int) := by omega
      have r0 : (0 : Int) ≤ (r : Int) := by omega
      have q6 : (0 : Int) ≤ (qn : Int) := by omega
      have r6 : (0 : Int) ≤ (rn : Int) := by omega
      have HN := Lib.hid hnx
      have hc1 : y.size + 1 ≤ 9223372036854775807 := by omega
      have hc2 : y.size + 1 + 1 ≤ 9223372036854775807 := by omega
      clear hnx hqn hrn hlt hk
      go_upto_region 10 with fail
      go_quiet (fail)
      have HBd := Lib.hid (HB.out.trans (show Below w.heap.size wr (wr.drewN nq) from ⟨rfl, rfl, rfl, Nat.le_refl _, fun _ _ => rfl⟩))
      obtain ⟨W2, hW2⟩ : ∃ W2, W2 = wr.drewN nq := ⟨_, rfl⟩
      rw [← hW2] at HBd ⊢
      clear hW2 hix hq hr q1 q2 r1 r2 q3 r3
      go_wp2
      go_roundw
      case rel => exact ⟨k + 1, y ++ ⟨#[hdig q]⟩ ++ ⟨#[hdig r]⟩, by omega, by go_num, rfl, Lib.hid (by rw [HN.out, ← HY.out]; simp), HBd.out⟩
      case measure => simp [intOf]; omega
    · obtain rfl : k = d.size := by omega
      have hy : y = ⟨(hexL d.data.toList).toArray⟩ := by
        apply Go.WideShapes.bytes_inj
        rw [HY.out, List.take_of_length_le (by rw [HLen.out]; exact Nat.le_refl _)]
      have HYe := Lib.hid hy
      clear hy hge
      go_wp2
      go_ret
      exact ⟨by rw [HS.out, ← HYe.out]; rfl, HB.out⟩
end Go.Proofs.YtnjcenbmdcogpaaGreatDoor.Sp
