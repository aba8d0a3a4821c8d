/- Hexadecimal digits and back: the mathematics of sha.Parse. -/
import Derived.Test.YtcanoegffffdfaaDoorShaHex
namespace Go.Proofs.YtcanoegffffdfaaDoor.Sha
open Go Go.RowKit

/-- where a byte stands among the sixteen digits -/
def hidx (n : Nat) : Int := if 48 ≤ n ∧ n ≤ 57 then (n : Int) - 48 else if 97 ≤ n ∧ n ≤ 102 then (n : Int) - 87 else -1
theorem hidx_lt (n : Nat) : hidx n < 16 := by unfold hidx; split <;> (try split) <;> omega
theorem hidx_ge (n : Nat) : -1 ≤ hidx n := by unfold hidx; split <;> (try split) <;> omega
def isHex (b : UInt8) : Bool := decide (0 ≤ hidx b.toNat)
def hv (b : UInt8) : Nat := (hidx b.toNat).toNat
theorem hv_lt (b : UInt8) : hv b < 16 := by have := hidx_lt b.toNat; unfold hv; omega
theorem hv_is (b : UInt8) (h : isHex b = true) : hidx b.toNat = (hv b : Int) := by
  have : 0 ≤ hidx b.toNat := of_decide_eq_true h
  unfold hv; omega
theorem hv_dig : ∀ n : Fin 16, hv (hdig n.val) = n.val := by decide
theorem hex_dig : ∀ n : Fin 16, isHex (hdig n.val) = true := by decide
theorem dig_hv (b : UInt8) (h : isHex b = true) : hdig (hv b) = b := by
  have key : ∀ n : Fin 256, isHex (UInt8.ofNat n.val) = true → hdig (hv (UInt8.ofNat n.val)) = UInt8.ofNat n.val := by decide +kernel
  have := key ⟨b.toNat, b.toNat_lt⟩
  simp only [UInt8.ofNat_toNat] at this
  exact this h

/-- the byte j of the sum, when i digits are read -/
def pbyte (l : List UInt8) (i j : Nat) : Nat := if 2 * j + 1 < i then 16 * hv (l.getD (2 * j) 0) + hv (l.getD (2 * j + 1) 0) else if 2 * j < i then hv (l.getD (2 * j) 0) else 0
theorem pbyte_lt (l : List UInt8) (i j : Nat) : pbyte l i j < 256 := by
  have := hv_lt (l.getD (2 * j) 0); have := hv_lt (l.getD (2 * j + 1) 0)
  unfold pbyte; split <;> (try split) <;> omega
def pl (l : List UInt8) (i : Nat) : List UInt8 := (List.range 32).map fun j => UInt8.ofNat (pbyte l i j)
theorem pl_len (l : List UInt8) (i : Nat) : (pl l i).length = 32 := by simp [pl]
theorem pl_at (l : List UInt8) (i j : Nat) (h : j < 32) : ((pl l i).getD j 0).toNat = pbyte l i j := by
  unfold pl
  rw [List.getD_eq_getElem?_getD, List.getElem?_map, List.getElem?_range h]
  simp only [Option.map_some, Option.getD_some, UInt8.toNat_ofNat']
  have := pbyte_lt l i j
  omega
theorem or16 (a d : Nat) (ha : a < 16) (hd : d < 16) : (a * 16 % 256) ||| d = 16 * a + d := by
  rw [Nat.mod_eq_of_lt (by omega)]
  have := Nat.two_pow_add_eq_or_of_lt (i := 4) (b := d) (by omega) a
  rw [show 2 ^ 4 * a = a * 16 by omega] at this
  omega
theorem pbyte_next (l : List UInt8) (i j : Nat) (hj : i / 2 = j) : (pbyte l i j * 16 % 256) ||| hv (l.getD i 0) = pbyte l (i + 1) j := by
  have hd := hv_lt (l.getD i 0)
  have h0 := hv_lt (l.getD (2 * j) 0)
  rcases (by omega : i = 2 * j ∨ i = 2 * j + 1) with rfl | rfl
  · unfold pbyte
    rw [if_neg (by omega), if_neg (by omega), if_neg (by omega), if_pos (by omega)]
    simp
  · unfold pbyte
    rw [if_neg (by omega), if_pos (by omega), if_pos (by omega), or16 _ _ h0 hd]
theorem pbyte_other (l : List UInt8) (i j m : Nat) (hj : i / 2 = j) (hm : m ≠ j) : pbyte l (i + 1) m = pbyte l i m := by
  unfold pbyte
  by_cases h : m < j
  · rw [if_pos (by omega), if_pos (by omega)]
  · rw [if_neg (by omega), if_neg (by omega), if_neg (by omega), if_neg (by omega)]
theorem pl_next (l : List UInt8) (i j : Nat) (hj : i / 2 = j) (h : i < 64) (v : Nat) (hv' : v = (((pl l i).getD j 0).toNat * 16 % 256) ||| hv (l.getD i 0)) :
    (bcells (pl l i)).setIfInBounds j (.int .u8 (v : Int)) = bcells (pl l (i + 1)) := by
  rw [pl_at l i j (by omega), pbyte_next l i j hj] at hv'
  subst hv'
  have e : (pl l (i + 1)) = (pl l i).set j (UInt8.ofNat (pbyte l (i + 1) j)) := by
    apply List.ext_getElem
    · simp [pl]
    · intro m h1 h2
      rw [List.getElem_set]
      simp only [pl, List.getElem_map, List.getElem_range]
      split
      · rename_i hjm; rw [hjm]
      · rename_i hjm; rw [pbyte_other l i j m hj (fun h => hjm h.symm)]
  rw [e]
  unfold bcells
  rw [List.setIfInBounds_toArray, List.map_set]
  have := pbyte_lt l (i + 1) j
  rw [show ((UInt8.ofNat (pbyte l (i + 1) j)).toNat : Int) = (pbyte l (i + 1) j : Int) by rw [UInt8.toNat_ofNat']; omega]
theorem pl_zero (l : List UInt8) : pl l 0 = List.replicate 32 0 := by
  apply List.ext_getElem
  · simp [pl]
  · intro m h1 h2
    rw [List.getElem_replicate]
    simp [pl, pbyte]
theorem hexL_len (l : List UInt8) : (hexL l).length = 2 * l.length := by
  induction l with
  | nil => rfl
  | cons a t ih => simp [hexL] at ih ⊢; omega
theorem hexL_at (l : List UInt8) : ∀ j, j < l.length → (hexL l).getD (2 * j) 0 = hdig ((l.getD j 0).toNat / 16) ∧ (hexL l).getD (2 * j + 1) 0 = hdig ((l.getD j 0).toNat % 16) := by
  induction l with
  | nil => intro j h; cases h
  | cons a t ih =>
    intro j h
    have e : hexL (a :: t) = hdig (a.toNat / 16) :: hdig (a.toNat % 16) :: hexL t := by simp [hexL]
    rw [e]
    cases j with
    | zero => exact ⟨rfl, rfl⟩
    | succ j =>
      have := ih j (by simpa using h)
      rw [show 2 * (j + 1) = (2 * j) + 1 + 1 by omega]
      simp only [List.getD_cons_succ]
      exact this
theorem pl_hex (l : List UInt8) (hl : l.length = 32) : pl (hexL l) 64 = l := by
  apply List.ext_getElem
  · rw [pl_len, hl]
  · intro m h1 h2
    have hm : m < 32 := by rw [pl_len] at h1; exact h1
    simp only [pl, List.getElem_map, List.getElem_range]
    obtain ⟨e1, e2⟩ := hexL_at l m h2
    have hx : l.getD m 0 = l[m] := by rw [List.getD_eq_getElem?_getD, List.getElem?_eq_getElem h2]; rfl
    rw [hx] at e1 e2
    have hb := l[m].toNat_lt
    unfold pbyte
    rw [if_pos (by omega), e1, e2, hv_dig ⟨l[m].toNat / 16, by omega⟩, hv_dig ⟨l[m].toNat % 16, by omega⟩, show 16 * (l[m].toNat / 16) + l[m].toNat % 16 = l[m].toNat by omega, UInt8.ofNat_toNat]
theorem hex_all (l : List UInt8) : (hexL l).all isHex = true := by
  rw [List.all_eq_true]
  intro b hb
  unfold hexL at hb
  obtain ⟨x, _, hx⟩ := List.mem_flatMap.1 hb
  have := x.toNat_lt
  simp only [List.mem_cons, List.not_mem_nil, or_false] at hx
  rcases hx with rfl | rfl
  · exact hex_dig ⟨x.toNat / 16, by omega⟩
  · exact hex_dig ⟨x.toNat % 16, by omega⟩
theorem hex_pl (t : List UInt8) (ht : t.length = 64) (ha : t.all isHex = true) : hexL (pl t 64) = t := by
  rw [List.all_eq_true] at ha
  have hh : ∀ i, i < 64 → hdig (hv (t.getD i 0)) = t.getD i 0 := fun i hi => dig_hv _ (ha _ (by rw [List.getD_eq_getElem?_getD, List.getElem?_eq_getElem (by omega)]; exact List.getElem_mem _))
  have key : ∀ i, i < 64 → (hexL (pl t 64)).getD i 0 = t.getD i 0 := by
    intro i hi
    obtain ⟨e1, e2⟩ := hexL_at (pl t 64) (i / 2) (by rw [pl_len]; omega)
    rw [pl_at t 64 (i / 2) (by omega)] at e1 e2
    have h1 := hv_lt (t.getD (2 * (i / 2)) 0)
    have h2 := hv_lt (t.getD (2 * (i / 2) + 1) 0)
    have hp : pbyte t 64 (i / 2) = 16 * hv (t.getD (2 * (i / 2)) 0) + hv (t.getD (2 * (i / 2) + 1) 0) := by unfold pbyte; rw [if_pos (by omega)]
    rw [hp] at e1 e2
    rw [show (16 * hv (t.getD (2 * (i / 2)) 0) + hv (t.getD (2 * (i / 2) + 1) 0)) / 16 = hv (t.getD (2 * (i / 2)) 0) by omega, hh _ (by omega)] at e1
    rw [show (16 * hv (t.getD (2 * (i / 2)) 0) + hv (t.getD (2 * (i / 2) + 1) 0)) % 16 = hv (t.getD (2 * (i / 2) + 1) 0) by omega, hh _ (by omega)] at e2
    rcases (by omega : i = 2 * (i / 2) ∨ i = 2 * (i / 2) + 1) with h | h
    · rw [h]; rw [← h] at e1 ⊢; exact e1
    · rw [h]; rw [← h] at e2 ⊢; exact e2
  have hlen : (hexL (pl t 64)).length = 64 := by rw [hexL_len, pl_len]
  apply List.ext_getElem
  · rw [hlen, ht]
  · intro i h1 h2
    have := key i (by omega)
    rw [List.getD_eq_getElem?_getD, List.getD_eq_getElem?_getD, List.getElem?_eq_getElem h1, List.getElem?_eq_getElem h2] at this
    exact this
def okT (l : List UInt8) : Bool := l.length == 64 && l.all isHex
def parseL (l : List UInt8) : List UInt8 := if okT l then pl l 64 else List.replicate 32 0
def parseE (l : List UInt8) : Int := if okT l then 0 else 3
end Go.Proofs.YtcanoegffffdfaaDoor.Sha
