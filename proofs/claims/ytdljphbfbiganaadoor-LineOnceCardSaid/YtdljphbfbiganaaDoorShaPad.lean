/- What stands behind the bytes in their padded ones, by the program. -/
import Derived.Test.YtdljphbfbiganaaDoorShaStr
import Derived.Test.YtdljphbfbiganaaDoorShaVals
import Derived.RegionCalls
namespace Go.Proofs.YtdljphbfbiganaaDoor.Sha
open Go Go.RowKit

def noughts (n : Nat) : Nat := (119 - n % 64) % 64
def tail8 (c : Nat) : List Int := [((c / 72057594037927936 % 256 : Nat) : Int), ((c / 281474976710656 % 256 : Nat) : Int), ((c / 1099511627776 % 256 : Nat) : Int), ((c / 4294967296 % 256 : Nat) : Int), ((c / 16777216 % 256 : Nat) : Int), ((c / 65536 % 256 : Nat) : Int), ((c / 256 % 256 : Nat) : Int), ((c % 256 : Nat) : Int)]
def padS (n : Nat) : ByteArray := ⟨#[128]⟩ ++ ⟨(List.replicate (noughts n) (0 : UInt8)).toArray⟩ ++ strOfNums (tail8 (8 * n))

set_option maxRecDepth 100000 in
set_option maxHeartbeats 600000 in
theorem pad_any (n : Nat) (hn : n ≤ 1152921504606846976) (w : World) :
    Calls Tryd.prog 28 #[.int .i64 (n : Int)] w fun e w' => e = .returned (.string (padS n)) ∧ Below w.heap.size w w' := by
  have hn1 : (n : Int) ≤ 1152921504606846976 := by omega
  have hk : (119 - (n : Int) % 64) % 64 = ((noughts n : Nat) : Int) := by unfold noughts; omega
  have hk1 : noughts n ≤ 63 := by unfold noughts; omega
  have hp : padS n = ⟨#[128]⟩ ++ ⟨(List.replicate (noughts n) (0 : UInt8)).toArray⟩ ++ strOfNums (tail8 (8 * n)) := rfl
  generalize noughts n = k at *
  obtain ⟨c, hc⟩ : ∃ c : Nat, c = 8 * n := ⟨_, rfl⟩
  have hc8 : (8 : Int) * (n : Int) = (c : Int) := by omega
  rw [← hc] at hp
  have HP := Lib.hid hp
  clear hp hc
  go_enter Tryd.func28, Tryd.ntmps28
  have hrep := fun W => repeat_any k hk1 W
  have hR1 : (⟨(List.replicate k (0 : UInt8)).toArray⟩ : ByteArray).size ≤ 63 := by show (List.replicate k (0 : UInt8)).toArray.size ≤ 63; simpa using hk1
  generalize (⟨(List.replicate k (0 : UInt8)).toArray⟩ : ByteArray) = R at hrep hR1 HP
  have HRep := Lib.hid hrep
  clear hrep
  have hcb : c ≤ 9223372036854775808 := by omega
  go_wp2_with fail
  refine wp_loop_rounds 9 ?_
  rw [rounds_succ]
  go_wp2_with fail
  rw [rounds_succ]
  go_wp2_with fail
  rw [rounds_succ]
  go_wp2_with fail
  rw [rounds_succ]
  go_wp2_with fail
  rw [rounds_succ]
  go_wp2_with fail
  rw [rounds_succ]
  go_wp2_with fail
  rw [rounds_succ]
  go_wp2_with fail
  rw [rounds_succ]
  go_wp2_with fail
  rw [rounds_succ]
  go_wp2_with fail
  rw [hk]
  have ev : ((c : Int) / 72057594037927936) = ((c / 72057594037927936 % 256 : Nat) : Int) := by omega
  obtain ⟨W0, hW0⟩ : ∃ W0, W0 = w.alloc (.cells #[.int .u8 ((c : Int) / 72057594037927936), .int .u8 ((c : Int) / 281474976710656 % 256), .int .u8 ((c : Int) / 1099511627776 % 256), .int .u8 ((c : Int) / 4294967296 % 256), .int .u8 ((c : Int) / 16777216 % 256), .int .u8 ((c : Int) / 65536 % 256), .int .u8 ((c : Int) / 256 % 256), .int .u8 ((c : Int) % 256)] 90) := ⟨_, rfl⟩
  rw [← hW0]
  have hB0 : Below w.heap.size w W0 := by rw [hW0]; exact (Below.refl _ _).alloc (Nat.le_refl _) _
  have hh0 : W0.heap[w.heap.size]? = some (.cells ((tail8 c).map (Value.int .u8)).toArray 90 (0, 0)) := by
    rw [hW0, ev]; exact Array.getElem?_push_size
  have hz0 : w.heap.size < W0.heap.size := by rw [hW0]; simp
  clear hW0 ev
  have HV : Hid (∀ W', Below W0.heap.size W0 W' → (convert 69 9 (.slice (some ⟨w.heap.size, 0, none⟩) 8 8)).run Tryd.prog W' = .ok (.string (strOfNums (tail8 c))) W') := Lib.hid (fun W' hb => by
    refine run_convert_bytes_arg W' 69 5 Tryd.underlying69 Tryd.underlying5 w.heap.size 0 8 8 (tail8 c) rfl (fun i hi => ?_) 9 Tryd.underlying9
    have hadd : (⟨w.heap.size, 0, none⟩ : Addr).add i = ⟨w.heap.size, i, none⟩ := by unfold Addr.add; split <;> simp_all
    have h8 : (tail8 c).length = 8 := rfl
    first
      | rw [hadd, hb.cell (p := ⟨w.heap.size, i, none⟩) hz0, cell_of_row W0 w.heap.size i _ _ _ hh0, List.getElem?_toArray, List.getElem?_map, List.getD_eq_getElem?_getD, List.getElem?_eq_getElem (by omega)]
      | rw [Nat.zero_add, hb.cell (p := ⟨w.heap.size, i, none⟩) hz0, cell_of_row W0 w.heap.size i _ _ _ hh0, List.getElem?_toArray, List.getElem?_map, List.getD_eq_getElem?_getD, List.getElem?_eq_getElem (by omega)]
    rfl)
  have hv0 := HV.out W0.drew (Below.refl _ _).drew
  have hT1 : (strOfNums (tail8 c)).size ≤ 8 := by rw [strOfNums_size]; exact Nat.le_refl _
  generalize strOfNums (tail8 c) = T8 at HV hv0 hT1 HP
  have hs1 : 1 + R.size ≤ 9223372036854775807 := by omega
  have hs2 : ((⟨#[128]⟩ : ByteArray) ++ R).size + T8.size ≤ 9223372036854775807 := by rw [ByteArray.size_append]; have : (⟨#[128]⟩ : ByteArray).size = 1 := rfl; omega
  clear hh0
  go_wp2_with fail
  go_region_with ((go_at_call 39; refine (HRep.out _).mono ?_; rintro e w3 ⟨rfl, hb3⟩; have hb3' := (Below.refl W0.heap.size W0).drew.trans hb3; have hv3 := HV.out w3 hb3'))
  all_goals go_wp2
  all_goals go_ret
  all_goals exact ⟨by rw [HP.out]; rfl, hB0.trans (hb3'.mono (Nat.le_of_lt hz0))⟩
end Go.Proofs.YtdljphbfbiganaaDoor.Sha
