/- What a reader reads: numbers and texts out of bytes. -/
import Derived.Test.YthamemaomedldaaNumBytes
import Derived.Test.YthamemaomedldaaTexts
namespace Go.Proofs.Ythamemaomedldaa.Rd
open Go Go.RowKit Num Texts

def val (l : List UInt8) : Nat := l.foldl (fun n b => n * 256 + b.toNat) 0
theorem val_snoc (l : List UInt8) (b : UInt8) : val (l ++ [b]) = val l * 256 + b.toNat := by simp [val]
theorem val_lt (l : List UInt8) : ∀ n, l.length ≤ n → val l < 256 ^ n := by
  have key : ∀ (l : List UInt8) (a n : Nat), a < 256 ^ n → l.foldl (fun n b => n * 256 + b.toNat) a < 256 ^ (n + l.length) := by
    intro l
    induction l with
    | nil => intro a n h; simpa using h
    | cons b t ih =>
      intro a n h
      have := ih (a * 256 + b.toNat) (n + 1) (by rw [Nat.pow_succ]; have := b.toNat_lt; omega)
      simp only [List.foldl_cons, List.length_cons]
      rw [show n + (t.length + 1) = n + 1 + t.length by omega]
      exact this
  intro n hn
  have := key l 0 0 (by decide)
  rw [Nat.zero_add] at this
  exact Nat.lt_of_lt_of_le this (Nat.pow_le_pow_right (by decide) hn)
/-- a number that is read: its value (0, if there is none), the error, and what is left (all, if there is none) -/
def numR (m : Nat) (s : ByteArray) : Nat × Int × ByteArray :=
  if s.size = 0 then (0, 2, s)
  else
    let k := (s.data.toList.getD 0 0).toNat
    if 8 < k ∨ (0 < k ∧ 1 < s.size ∧ (s.data.toList.getD 1 0).toNat = 0) then (0, 3, s)
    else if s.size - 1 < k then (0, 2, s)
    else
      let n := val ((s.data.toList.drop 1).take k)
      if m < n then (0, 5, s) else (n, 0, s.extract (1 + k) s.size)
theorem numR_val (m : Nat) (s : ByteArray) : (numR m s).1 ≤ m := by
  unfold numR
  split
  · exact Nat.zero_le _
  · dsimp only
    split
    · exact Nat.zero_le _
    · split
      · exact Nat.zero_le _
      · split
        · exact Nat.zero_le _
        · rename_i h; exact Nat.le_of_not_lt h
/-- a text that is read -/
def textR (m : Nat) (s : ByteArray) : ByteArray × Int × ByteArray :=
  let x := numR 18446744073709551615 s
  if x.2.1 ≠ 0 then (⟨#[]⟩, x.2.1, x.2.2)
  else if m < x.1 then (⟨#[]⟩, 4, x.2.2)
  else if x.2.2.size < x.1 then (⟨#[]⟩, 2, x.2.2)
  else (x.2.2.extract 0 x.1, 0, x.2.2.extract x.1 x.2.2.size)
/-- a reader: what is left, and its error -/
structure R2 where
  s : ByteArray
  b : Int
def R2.cells (r : R2) : Array Value := #[.string r.s, .int .i64 r.b]
/-- what a reader is behind a reading that told e and left s -/
def R2.after (e : Int) (s : ByteArray) : R2 := if e = 0 then ⟨s, 0⟩ else ⟨⟨#[]⟩, e⟩
def R2.num (r : R2) (m : Nat) : Nat × R2 := if r.b = 0 then ((numR m r.s).1, R2.after (numR m r.s).2.1 (numR m r.s).2.2) else (0, r)
def R2.text (r : R2) (m : Nat) : ByteArray × R2 := if r.b = 0 then ((textR m r.s).1, R2.after (textR m r.s).2.1 (textR m r.s).2.2) else (⟨#[]⟩, r)
def R2.end' (r : R2) : Int := if r.b = 0 ∧ 0 < r.s.size then 4 else r.b
end Go.Proofs.Ythamemaomedldaa.Rd
