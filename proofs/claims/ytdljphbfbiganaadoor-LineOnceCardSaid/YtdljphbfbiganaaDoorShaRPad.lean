/- What stands behind the bytes in their padded ones, by the page. -/
import Derived.Test.YtdljphbfbiganaaDoorShaPad
import Derived.LoopTactic
namespace Go.Proofs.YtdljphbfbiganaaDoor.Sha
open Go Go.RowKit

def lenOf : Value → Nat
  | .slice _ l _ => l
  | _ => 0
theorem infoB : (Tryd.prog.info? 5).map (fun i => (i.zero, i.size, i.bytes)) = some (some (.int .u8 0), 1, 1) := by kernel_rfl
def padL (k : Nat) : List Int := 128 :: List.replicate k 0
theorem sizes_le (K cc : Nat) (hno : K ≤ 63) : (strOfNums (padL K)).size + (strOfNums (tail8 cc)).size ≤ 9223372036854775807 := by
  rw [strOfNums_size, strOfNums_size]
  have h1 : (padL K).length = K + 1 := by simp [padL]
  have h2 : (tail8 cc).length = 8 := rfl
  omega
theorem own_new (wr : World) (B : Nat) (hB : B ≤ wr.heap.size) (x : Value) : (wr.alloc (.cells #[x] 5)).ownsRow B 5 1 (.slice (some ⟨wr.heap.size, 0, none⟩) 1 1) 1 [x] :=
  ⟨rfl, .inr ⟨wr.heap.size, 1, #[x], rfl, hB, Array.getElem?_push_size, Nat.le_refl _, by decide, rfl, rfl⟩⟩
theorem vals_one (l : List Int) : ∀ u ∈ vals l, u.oneCell' = true := by
  intro u hu
  obtain ⟨y, _, rfl⟩ := List.mem_map.1 hu; rfl
/-- the last k of the eight bytes -/
def lastB (c : Nat) : Nat → List Int
  | 0 => []
  | k + 1 => ((c / 256 ^ k % 256 : Nat) : Int) :: lastB c k
theorem lastB_len (c : Nat) : ∀ k, (lastB c k).length = k
  | 0 => rfl
  | k + 1 => by simp [lastB, lastB_len c k]
theorem lastB_8 (c : Nat) : lastB c 8 = tail8 c := by
  unfold tail8
  simp [lastB]
theorem padS_eq (n : Nat) : padS n = strOfNums (padL (noughts n)) ++ strOfNums (tail8 (8 * n)) := by
  unfold padS
  congr 1
  apply ByteArray.ext
  apply Array.ext'
  simp [padL, strOfNums, ByteArray.data_append]

end Go.Proofs.YtdljphbfbiganaaDoor.Sha
