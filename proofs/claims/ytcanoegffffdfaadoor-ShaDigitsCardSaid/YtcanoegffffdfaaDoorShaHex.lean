/- The digits of a sum, by the program. -/
import Derived.Test.YtcanoegffffdfaaDoorShaPad
import Derived.Test.YtcanoegffffdfaaDoorShaWords
import Derived.Test.YtcanoegffffdfaaDoorBuilderByte
import Derived.Deep.Cut
namespace Go.Proofs.YtcanoegffffdfaaDoor.Sha
open Go Go.RowKit

def bcells (l : List UInt8) : Array Value := (l.map fun b => Value.int .u8 (b.toNat : Int)).toArray
def hdig (n : Nat) : UInt8 := [48, 49, 50, 51, 52, 53, 54, 55, 56, 57, 97, 98, 99, 100, 101, 102].getD n 0
def hexL (l : List UInt8) : List UInt8 := l.flatMap fun b => [hdig (b.toNat / 16), hdig (b.toNat % 16)]
theorem bcells_size (l : List UInt8) : (bcells l).size = l.length := by simp [bcells]
theorem bcells_at (l : List UInt8) (k : Nat) (h : k < l.length) : (bcells l)[k]? = some (.int .u8 ((l.getD k 0).toNat : Int)) := by
  unfold bcells
  rw [List.getElem?_toArray, List.getElem?_map, List.getD_eq_getElem?_getD, List.getElem?_eq_getElem h]; rfl
theorem bcells_one (l : List UInt8) : (bcells l).all (·.oneCell') = true := by
  rw [Array.all_eq_true']
  intro x hx
  unfold bcells at hx
  obtain ⟨y, _, rfl⟩ := List.mem_map.1 (List.mem_toArray.1 hx); rfl
theorem ix_sum (l : List UInt8) (hl : l.length = 32) (k : Nat) (hk : k < 32) (w : World) : (Instr.index 27 (.agg (bcells l)) (.int .i64 (k : Int))).run Tryd.prog w = .ok (.int .u8 ((l.getD k 0).toNat : Int)) w := by
  have hc := bcells_at l k (by omega)
  have h1 : (0 : Int) ≤ (k : Int) ∧ (k : Int) < ((32 : Nat) : Int) := by omega
  simp [Instr.index, run_underlying Tryd.underlying27, asIntOf, h1, go_sem, Tryd.sizeOf5, part, hc]
  omega
theorem and15 (n : Nat) (h : n < 256) : bits .and .u8 (n : Int) 15 = ((n % 16 : Nat) : Int) := by
  have := u8_and_nat n 15 h (by decide)
  rw [show n &&& 15 = n % 16 from Nat.and_two_pow_sub_one_eq_mod n 4] at this
  exact this
theorem and15' (n r : Nat) (hr : n % 16 = r) (h : n < 256) : bits .and .u8 (n : Int) 15 = (r : Int) := by rw [and15 n h, hr]
theorem byteCells_len (l : List UInt8) : (Lib.byteCells l).length = l.length := by simp [Lib.byteCells]
theorem hex_fin : ∀ n : Fin 16, (([48, 49, 50, 51, 52, 53, 54, 55, 56, 57, 97, 98, 99, 100, 101, 102] : List UInt8).getD n.val 0) = hdig n.val := fun _ => rfl
theorem hexL_take (l : List UInt8) (k : Nat) (hk : k < l.length) : hexL (l.take (k + 1)) = hexL (l.take k) ++ [hdig ((l.getD k 0).toNat / 16), hdig ((l.getD k 0).toNat % 16)] := by
  rw [List.take_succ_eq_append_getElem hk, hexL, List.flatMap_append]
  have : l.getD k 0 = l[k] := by rw [List.getD_eq_getElem?_getD, List.getElem?_eq_getElem hk]; rfl
  rw [this]; simp [hexL]
theorem ix_dig (n : Nat) (h : n < 16) (w : World) : (Instr.index 9 (.string ⟨#[48, 49, 50, 51, 52, 53, 54, 55, 56, 57, 97, 98, 99, 100, 101, 102]⟩) (.int .u8 (n : Int))).run Tryd.prog w = .ok (.int .u8 ((hdig n).toNat : Int)) w := by
  rw [run_index_string w 9 _ .u8 (n : Int) Tryd.underlying9, dif_pos ⟨by omega, by show (n : Int) < 16; omega⟩]
  have : ∀ m : Fin 16, ((⟨#[48, 49, 50, 51, 52, 53, 54, 55, 56, 57, 97, 98, 99, 100, 101, 102]⟩ : ByteArray)[m.val]'(by have := m.isLt; show m.val < 16; omega)) = hdig m.val := by decide
  have h2 := this ⟨n, h⟩
  simp only [Int.toNat_natCast]
  rw [← h2]

set_option maxRecDepth 100000 in
set_option maxHeartbeats 600000 in
theorem hex_any (l : List UInt8) (hl : l.length = 32) (w : World) :
    Calls Tryd.prog 16 #[.agg (bcells l)] w fun e w' => e = .returned (.string ⟨(hexL l).toArray⟩) ∧ Below w.heap.size w w' := by
  have HL := Lib.hid hl
  go_enter Tryd.func16, Tryd.ntmps16
  go_upto_region 2 with fail
  obtain ⟨W0, hW⟩ : ∃ W0, W0 = (w.alloc (.cells (bcells l) 27)).alloc (.cells #[.pointer none, .slice none 0 0] 59) := ⟨_, rfl⟩
  rw [← hW]
  have hB0 : Below w.heap.size w W0 := by rw [hW]; exact ((Below.refl _ _).alloc (Nat.le_refl _) _).alloc (by simp) _
  have hC0 : W0.heap[w.heap.size]? = some (.cells (bcells l) 27 (0, 0)) := by
    rw [hW, Below.heap_alloc _ _ _ (by simp)]
    exact Array.getElem?_push_size
  have hbd : Lib.BuilderAt 59 5 (w.heap.size + 1) (w.heap.size + 1) (.pointer none) [] W0 := by
    refine ⟨Nat.le_refl _, .slice none 0 0, by rw [hW]; exact last_alloc _ _ _ 0, World.ownsRow_nil _ _ _ _, by simp [Value.ownBlock]⟩
  have hz0 : w.heap.size + 1 < W0.heap.size := by rw [hW]; simp
  clear hW
  have hi32 : (Tryd.prog.info? 27).map (·.size) = some (bcells l).size := by rw [bcells_size, hl]; kernel_rfl
  refine wp_region_lit ?_
  refine wpList_load_row rfl 27 _ rfl w.heap.size rfl 27 (bcells l) (0, 0) _ hC0 Tryd.underlying27 (isArr 32 5) hi32 ?_
  simp only [Act.put, List.setIfInBounds_toArray, List.set_cons_zero, List.set_cons_succ]
  have HBd := Lib.hid hbd
  clear hbd hi32 hC0 hl
  go_wp2_with fail
  go_loopw [7] (fun i wr => ∃ k : Nat, k ≤ 32 ∧ i = .int .i64 k ∧ Lib.IsBuilder 59 5 (w.heap.size + 1) (w.heap.size + 1) (Lib.byteCells (hexL (l.take k))) wr ∧ Below w.heap.size w wr ∧ w.heap.size + 1 < wr.heap.size) (fun i _ => 32 - (intOf i).toNat)
  case atStart => exact ⟨0, by omega, rfl, .inl HBd.out, hB0, hz0⟩
  case round =>
    obtain ⟨k, hk, rfl, hbd, hB, hz⟩ := hrel
    have HB := Lib.hid hbd
    clear hbd hB0 hz0
    rcases Nat.lt_or_ge k 32 with hlt | hge
    · have hk32 : (k : Int) < 32 := by omega
      have hix := ix_sum l HL.out k hlt wr
      have hnx := hexL_take l k (by rw [HL.out]; exact hlt)
      have hbx : (l.getD k 0).toNat < 256 := (l.getD k 0).toNat_lt
      have hln : (hexL (l.take k)).length ≤ 64 := by
        have : ∀ (m : List UInt8), (hexL m).length = 2 * m.length := by
          intro m; induction m with
          | nil => rfl
          | cons a t ih => simp [hexL] at ih ⊢; omega
        rw [this, List.length_take]; omega
      generalize (l.getD k 0).toNat = x at *
      have ha := and15 x hbx
      have hq1 : x / 16 < 16 := by omega
      have hr1 : x % 16 < 16 := by omega
      have hq : (x : Int) / 16 = ((x / 16 : Nat) : Int) := rfl
      generalize x / 16 = q at *
      generalize hr : x % 16 = r at hnx ha hr1
      have hrx := Lib.hid hr
      clear hr
      have hd1 := fun W => ix_dig q hq1 W
      have hd2 := fun W => ix_dig r hr1 W
      have HN := Lib.hid hnx
      clear hnx
      go_wp2_with fail
      clear hd1 hd2 ha hix hq
      refine (Bld.byte_any (w.heap.size + 1) (w.heap.size + 1) _ _ wr HB.out (by rw [byteCells_len]; omega) (by omega)).mono ?_
      rintro e w1 ⟨rfl, hb1, hB1⟩
      have HB1 := Lib.hid hb1
      have hB1' : Below w.heap.size w w1 := hB.trans (hB1.mono (Nat.le_succ _))
      have hz1 : w.heap.size + 1 < w1.heap.size := Nat.lt_of_lt_of_le hz hB1.size
      clear hb1 hB1
      have ha := and15' x r hrx.out hbx
      have hd2 := fun W => ix_dig r hr1 W
      go_wp2_with fail
      clear hd2 ha
      refine (Bld.byte_any (w.heap.size + 1) (w.heap.size + 1) _ _ w1 (.inr HB1.out) (by rw [List.length_append, byteCells_len]; simp; omega) (by omega)).mono ?_
      rintro e w2 ⟨rfl, hb2, hB2⟩
      have HB2 : Hid (Lib.IsBuilder 59 5 (w.heap.size + 1) (w.heap.size + 1) (Lib.byteCells (hexL (l.take (k + 1)))) w2) := Lib.hid (by
        rw [HN.out]
        have e : Lib.byteCells (hexL (l.take k) ++ [hdig q, hdig r]) = Lib.byteCells (hexL (l.take k)) ++ [.int .u8 ((hdig q).toNat : Int)] ++ [.int .u8 ((hdig r).toNat : Int)] := by simp [Lib.byteCells]
        rw [e]; exact .inr hb2)
      have hB2' : Below w.heap.size w w2 := hB1'.trans (hB2.mono (Nat.le_succ _))
      have hz2 : w.heap.size + 1 < w2.heap.size := Nat.lt_of_lt_of_le hz1 hB2.size
      clear hb2 hB2 HB1 hB1'
      go_wp2
      go_roundw
      case rel => exact ⟨k + 1, by omega, by go_num, HB2.out, hB2', hz2⟩
      case measure => simp [intOf]; omega
    · have hk32 : k = 32 := by omega
      subst hk32
      rw [List.take_of_length_le (by rw [HL.out]; exact Nat.le_refl _)] at HB
      go_wp2_with fail
      refine (Bld.string_any (w.heap.size + 1) (w.heap.size + 1) _ wr HB.out (by omega)).mono ?_
      rintro e w1 ⟨rfl, hb1⟩
      go_wp2
      go_ret
      exact ⟨rfl, hB.trans (hb1.mono (Nat.le_succ _))⟩
end Go.Proofs.YtcanoegffffdfaaDoor.Sha
