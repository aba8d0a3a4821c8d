/- Digits to the base 256; rows of bytes as texts. -/
import Derived.Test.YtnjcenbmdcogpaaGreatDoorCommon
namespace Go.Proofs.YtnjcenbmdcogpaaGreatDoor.Num
open Go.RowKit

/-- The digits of a number to the base 256, the greatest first. -/
def dig (m : Nat) : List Int := if m = 0 then [] else dig (m / 256) ++ [((m % 256 : Nat) : Int)]
termination_by m
decreasing_by omega

theorem dig_zero : dig 0 = [] := by rw [dig]; rfl
theorem dig_pos {m : Nat} (h : m ≠ 0) : dig m = dig (m / 256) ++ [((m % 256 : Nat) : Int)] := by rw [dig, if_neg h]
theorem dig_nil {m : Nat} (h : (dig m).length = 0) : m = 0 := by
  by_cases h0 : m = 0
  · exact h0
  · rw [dig_pos h0] at h; simp at h
theorem dig_len {m k : Nat} (h : m < 256 ^ k) : (dig m).length ≤ k := by
  induction k generalizing m with
  | zero => have : m = 0 := by simpa using h
            subst this; rw [dig_zero]; simp
  | succ k ih =>
    by_cases h0 : m = 0
    · subst h0; rw [dig_zero]; simp
    · rw [dig_pos h0, List.length_append]
      have := ih (m := m / 256) (by rw [Nat.div_lt_iff_lt_mul (by decide)]; rw [Nat.pow_succ] at h; exact h)
      simp; omega

def vals (l : List Int) : List Value := l.map (Value.int .u8)
theorem vals_snoc (l : List Int) (x : Int) : vals (l ++ [x]) = vals l ++ [.int .u8 x] := by simp [vals]
theorem vals_len (l : List Int) : (vals l).length = l.length := by simp [vals]

/-- One row of the bytes' type as a text. -/
theorem own_text {w : World} {base n : Nat} {v : Value} {xs : List Int} (h : w.ownsRow base 5 1 v n (vals xs)) :
    (convert 75 9 v).run Tryz.prog w = .ok (.string (strOfNums xs)) w := by
  have hl : xs.length = n := by have := h.1; simp [vals] at this; omega
  rcases h.2 with ⟨rfl, rfl⟩ | ⟨g, cap, cur, rfl, _⟩
  · have hx : xs = [] := List.eq_nil_of_length_eq_zero hl
    subst hx
    exact run_convert_bytes_nil w 75 5 Tryz.underlying75 Tryz.underlying5 _ _ 9 Tryz.underlying9
  · refine run_convert_bytes_arg w 75 5 Tryz.underlying75 Tryz.underlying5 g 0 n cap xs hl (fun i hi => ?_) 9 Tryz.underlying9
    have hx : (vals xs)[i]? = some (.int .u8 (xs.getD i 0)) := by
      unfold vals
      rw [List.getElem?_map, List.getElem?_eq_getElem (by omega), List.getD_eq_getElem?_getD, List.getElem?_eq_getElem (by omega)]
      rfl
    have := h.cells (g := g) rfl i _ hx
    rw [← this]
    unfold Addr.add
    by_cases h0 : i = 0 <;> simp [h0]

theorem one_text (W : World) (x : Int) : (convert 75 9 (.slice (some ⟨W.heap.size, 0, none⟩) 1 1)).run Tryz.prog (W.alloc (.cells #[.int .u8 x] 5)) = .ok (.string (strOfNums [x])) (W.alloc (.cells #[.int .u8 x] 5)) := by
  refine run_convert_bytes_arg _ 75 5 Tryz.underlying75 Tryz.underlying5 W.heap.size 0 1 1 [x] rfl (fun i hi => ?_) 9 Tryz.underlying9
  have h0 : i = 0 := by omega
  subst h0
  rw [World.cell?_alloc_mark]
  rfl

/-- The bytes of a number. -/
def numS (n : Nat) : ByteArray := strOfNums [((dig n).length : Int)] ++ strOfNums (dig n)

theorem info5 : (Tryz.prog.info? 5).map (fun i => (i.zero, i.size, i.bytes)) = some (some (.int .u8 0), 1, 1) := by kernel_rfl
end Go.Proofs.YtnjcenbmdcogpaaGreatDoor.Num
