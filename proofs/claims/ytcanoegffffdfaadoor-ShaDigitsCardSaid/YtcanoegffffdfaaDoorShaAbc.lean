/- The page's example: the sum of abc. -/
import Derived.Test.YtcanoegffffdfaaDoorShaOf
import Derived.Test.YtcanoegffffdfaaDoorShaHex
namespace Go.Proofs.YtcanoegffffdfaaDoor.Sha
open Go Go.RowKit

def abcL : List UInt8 := [186, 120, 22, 191, 143, 1, 207, 234, 65, 65, 64, 222, 93, 174, 34, 35, 176, 3, 97, 163, 150, 23, 122, 156, 180, 16, 255, 97, 242, 0, 21, 173]
theorem abc_list : (ofSt ⟨#[97, 98, 99]⟩).list = [BitVec.ofNat 32 3128432319, BitVec.ofNat 32 2399260650, BitVec.ofNat 32 1094795486, BitVec.ofNat 32 1571693091, BitVec.ofNat 32 2953011619, BitVec.ofNat 32 2518121116, BitVec.ofNat 32 3021012833, BitVec.ofNat 32 4060091821] := by decide +kernel
theorem abc_st : ofSt ⟨#[97, 98, 99]⟩ = ⟨BitVec.ofNat 32 3128432319, BitVec.ofNat 32 2399260650, BitVec.ofNat 32 1094795486, BitVec.ofNat 32 1571693091, BitVec.ofNat 32 2953011619, BitVec.ofNat 32 2518121116, BitVec.ofNat 32 3021012833, BitVec.ofNat 32 4060091821⟩ := by
  have h := abc_list
  generalize ofSt ⟨#[97, 98, 99]⟩ = S at *
  obtain ⟨a, b, c, d, e, f, g, q⟩ := S
  simp only [St.list, List.cons.injEq, and_true] at h
  obtain ⟨rfl, rfl, rfl, rfl, rfl, rfl, rfl, rfl⟩ := h
  rfl
theorem of_abc (bk : Nat) (w : World) (ht : Tab w) (hc : w.cell? ⟨bk, 0, none⟩ = some (.string ⟨#[97, 98, 99]⟩)) (hbk : bk < w.heap.size) :
    Calls Tryd.prog 9 #[.slice (some ⟨bk, 0, none⟩) 1 1] w fun r w' => r = .returned (.agg (bcells abcL)) ∧ Below w.heap.size w w' := by
  refine (of_any bk 0 1 [⟨#[97, 98, 99]⟩] ⟨#[97, 98, 99]⟩ (by decide) rfl w ht (fun j x h => ?_) hbk (by decide) (by decide)).mono ?_
  · match j, h with
    | 0, h => simp at h; subst h; exact hc
  · rintro r w' ⟨rfl, hb⟩
    refine ⟨?_, hb⟩
    rw [abc_st]
    rfl
theorem hex_abc (w : World) : Calls Tryd.prog 16 #[.agg (bcells abcL)] w fun e w' => ∃ h : ByteArray, h.size = 64 ∧ e = .returned (.string h) ∧ Below w.heap.size w w' := by
  have h := hex_any abcL rfl w
  exact h.mono fun e w' ⟨he, hb⟩ => ⟨_, by decide, he, hb⟩
theorem abc_at : (bcells abcL)[0]? = some (.int .u8 186) ∧ (bcells abcL)[1]? = some (.int .u8 120) ∧ (bcells abcL)[2]? = some (.int .u8 22) ∧ (bcells abcL)[3]? = some (.int .u8 191) := ⟨rfl, rfl, rfl, rfl⟩
theorem hstx (w1 : World) (C : Array Value) (hz : C.size = 32) (ho : C.all (·.oneCell') = true) : (storeCells ⟨w1.heap.size, 0, none⟩ C.toList).run Tryd.prog (w1.alloc (.cells #[.int .u8 0, .int .u8 0, .int .u8 0, .int .u8 0, .int .u8 0, .int .u8 0, .int .u8 0, .int .u8 0, .int .u8 0, .int .u8 0, .int .u8 0, .int .u8 0, .int .u8 0, .int .u8 0, .int .u8 0, .int .u8 0, .int .u8 0, .int .u8 0, .int .u8 0, .int .u8 0, .int .u8 0, .int .u8 0, .int .u8 0, .int .u8 0, .int .u8 0, .int .u8 0, .int .u8 0, .int .u8 0, .int .u8 0, .int .u8 0, .int .u8 0, .int .u8 0] 27)) = .ok () ((w1.alloc (.cells #[.int .u8 0, .int .u8 0, .int .u8 0, .int .u8 0, .int .u8 0, .int .u8 0, .int .u8 0, .int .u8 0, .int .u8 0, .int .u8 0, .int .u8 0, .int .u8 0, .int .u8 0, .int .u8 0, .int .u8 0, .int .u8 0, .int .u8 0, .int .u8 0, .int .u8 0, .int .u8 0, .int .u8 0, .int .u8 0, .int .u8 0, .int .u8 0, .int .u8 0, .int .u8 0, .int .u8 0, .int .u8 0, .int .u8 0, .int .u8 0, .int .u8 0, .int .u8 0] 27)).setRow w1.heap.size C) := by
  obtain ⟨Z, hZ⟩ : ∃ Z : Array Value, Z = #[.int .u8 0, .int .u8 0, .int .u8 0, .int .u8 0, .int .u8 0, .int .u8 0, .int .u8 0, .int .u8 0, .int .u8 0, .int .u8 0, .int .u8 0, .int .u8 0, .int .u8 0, .int .u8 0, .int .u8 0, .int .u8 0, .int .u8 0, .int .u8 0, .int .u8 0, .int .u8 0, .int .u8 0, .int .u8 0, .int .u8 0, .int .u8 0, .int .u8 0, .int .u8 0, .int .u8 0, .int .u8 0, .int .u8 0, .int .u8 0, .int .u8 0, .int .u8 0] := ⟨_, rfl⟩
  rw [← hZ]
  have hzz : Z.size = 32 := by rw [hZ]; rfl
  clear hZ
  have h := run_storeCells_at (P := Tryd.prog) w1.heap.size 0 27 C.toList 0 Z (w1.alloc (.cells Z 27)) (heap_alloc_new w1 _) (by rw [Array.length_toList, hz, hzz]; decide) (fun u hu => (Array.all_eq_true'.1 ho) u (by simpa using hu))
  simp only [Nat.add_zero, List.take_zero, List.nil_append, Nat.zero_add] at h
  rw [h, List.drop_of_length_le (by rw [Array.length_toList, hzz, Array.length_toList, hz]; exact Nat.le_refl _), List.append_nil]
end Go.Proofs.YtcanoegffffdfaaDoor.Sha
