/- A sum of zeros; rows of 32 bytes: stored, compared. -/
import Derived.Test.YtdljphbfbiganaaDoorShaCells
import Derived.Great.BuildSlice
namespace Go.Proofs.YtdljphbfbiganaaDoor.Sha
open Go Go.RowKit

def zero32 : Array Value := (List.replicate 32 (Value.int .u8 0)).toArray
theorem zero32_one : zero32.all (·.oneCell') = true := by
  rw [Array.all_eq_true']
  intro x hx
  rw [List.eq_of_mem_replicate (List.mem_toArray.1 hx)]; rfl
theorem i32s (C : Array Value) (hz : C.size = 32) : (Tryd.prog.info? 55).map (·.size) = some C.size := by rw [hz]; kernel_rfl
theorem i32b (C : Array Value) (hz : C.size = 32) : (Tryd.prog.info? 54).map (·.size) = some C.size := by rw [hz]; kernel_rfl
theorem hrow (w1 : World) (G : Nat) (C Z : Array Value) (hz : C.size = 32) (hzz : Z.size = 32) (ho : C.all (·.oneCell') = true) {t : TypeId} (hG : w1.heap[G]? = some (.cells Z t (0, 0))) : (storeCells ⟨G, 0, none⟩ C.toList).run Tryd.prog w1 = .ok () (w1.setRow G C) := by
  have h := run_storeCells_at (P := Tryd.prog) G 0 t C.toList 0 Z w1 hG (by rw [Array.length_toList, hz, hzz]; decide) (fun u hu => (Array.all_eq_true'.1 ho) u (by simpa using hu))
  simp only [Nat.add_zero, List.take_zero, List.nil_append, Nat.zero_add] at h
  rw [h, List.drop_of_length_le (by rw [Array.length_toList, hzz, Array.length_toList, hz]; exact Nat.le_refl _), List.append_nil]

theorem eq_zero32 (W : World) : (Op.equalIn 10000 55 (.agg zero32) (.agg zero32)).run Tryd.prog W = .ok true W := by
  have e : zero32 = (((List.replicate 32 (0 : Int)).map (Value.int .u8)).toArray) := rfl
  rw [e]
  exact eq_row W 9998 55 5 32 Tryd.underlying55 Tryd.underlying5 (fun w => by
    obtain ⟨i0, hi, _⟩ := info_parts infoB
    have h := run_sizeOf w hi
    rw [show Tryd.prog.cellsOf 5 = 1 by kernel_rfl] at h
    exact h) (List.replicate 32 0) rfl
end Go.Proofs.YtdljphbfbiganaaDoor.Sha
