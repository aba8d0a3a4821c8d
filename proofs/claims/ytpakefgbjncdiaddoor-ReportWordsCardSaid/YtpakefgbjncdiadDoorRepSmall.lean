/- The small words of a report: an operation's word, a side's letter, a number. -/
import Derived.Test.YtpakefgbjncdiadDoorKeyRName
namespace Go.Proofs.YtpakefgbjncdiadDoor.Rep
open Go Go.RowKit Num Dec packetKeys

def opW (k : Int) : ByteArray := if k = 1 then ⟨#[105, 110, 115, 101, 114, 116]⟩ else if k = 2 then ⟨#[99, 108, 97, 105, 109]⟩ else if k = 3 then ⟨#[114, 101, 108, 101, 97, 115, 101]⟩ else if k = 4 then ⟨#[99, 111, 109, 112, 108, 101, 116, 101]⟩ else if k = 5 then ⟨#[101, 120, 112, 105, 114, 101]⟩ else if k = 6 then ⟨#[114, 101, 115, 101, 114, 118, 101]⟩ else if k = 7 then ⟨#[99, 111, 109, 109, 105, 116]⟩ else if k = 8 then ⟨#[114, 101, 116, 117, 114, 110]⟩ else if k = 9 then ⟨#[114, 101, 115, 121, 110, 99]⟩ else if k = 10 then ⟨#[100, 114, 111, 112]⟩ else ⟨#[110, 111, 110, 101]⟩
def sideW (n : Int) : ByteArray := if n = 0 then ⟨#[97]⟩ else ⟨#[98]⟩
def decW (u : Nat) : ByteArray := ⟨(Lib.decDigits u).toArray⟩
def intW (n : Int) : ByteArray := ⟨(Lib.itoa n).toArray⟩
theorem opW_size (k : Int) : (opW k).size ≤ 8 := by
  unfold opW
  repeat' split
  all_goals decide
theorem sideW_size (n : Int) : (sideW n).size = 1 := by unfold sideW; split <;> rfl
theorem decW_size (u : Nat) (h : u < 18446744073709551616) : (decW u).size ≤ 20 := by have := dec_len20 u h; simpa [decW, ByteArray.size] using this
theorem intW_size (n : Int) (h0 : -9223372036854775808 ≤ n) (h1 : n ≤ 9223372036854775807) : (intW n).size ≤ 21 := by have := itoa_len n h0 h1; simpa [intW, ByteArray.size] using this

set_option maxRecDepth 20000 in
theorem opw_any (k : Int) (w : World) : Calls Tryd.prog 11 #[.int .i64 k] w fun e w' => e = .returned (.string (opW k)) ∧ Below w.heap.size w w' := by
  by_cases hk : 1 ≤ k ∧ k ≤ 10
  · have h : k = 1 ∨ k = 2 ∨ k = 3 ∨ k = 4 ∨ k = 5 ∨ k = 6 ∨ k = 7 ∨ k = 8 ∨ k = 9 ∨ k = 10 := by omega
    rcases h with rfl | rfl | rfl | rfl | rfl | rfl | rfl | rfl | rfl | rfl
    all_goals
      go_enter Tryd.func11, Tryd.ntmps11
      go_wp2
      go_ret
      exact ⟨rfl, Below.refl _ _⟩
  · have he := Lib.hid (show opW k = ⟨#[110, 111, 110, 101]⟩ by unfold opW; rw [if_neg (by omega), if_neg (by omega), if_neg (by omega), if_neg (by omega), if_neg (by omega), if_neg (by omega), if_neg (by omega), if_neg (by omega), if_neg (by omega), if_neg (by omega)])
    have e1 : (k == 1) = false := by simp; omega
    have e2 : (k == 2) = false := by simp; omega
    have e3 : (k == 3) = false := by simp; omega
    have e4 : (k == 4) = false := by simp; omega
    have e5 : (k == 5) = false := by simp; omega
    have e6 : (k == 6) = false := by simp; omega
    have e7 : (k == 7) = false := by simp; omega
    have e8 : (k == 8) = false := by simp; omega
    have e9 : (k == 9) = false := by simp; omega
    have e10 : (k == 10) = false := by simp; omega
    go_enter Tryd.func11, Tryd.ntmps11
    go_wp2
    go_ret
    exact ⟨by rw [he.out]; rfl, Below.refl _ _⟩
theorem either_any (b : Bool) (x y : ByteArray) (w : World) : Calls Tryd.prog 25 #[.bool b, .string x, .string y] w fun e w' => e = .returned (.string (if b then x else y)) ∧ Below w.heap.size w w' := by
  cases b
  all_goals
    go_enter Tryd.func25, Tryd.ntmps25
    go_wp2
    go_ret
    exact ⟨rfl, Below.refl _ _⟩
theorem side_any (n : Int) (w : World) : Calls Tryd.prog 14 #[.int .i64 n] w fun e w' => e = .returned (.string (sideW n)) ∧ Below w.heap.size w w' := by
  have HE := Lib.hid (fun b W => either_any b ⟨#[97]⟩ ⟨#[98]⟩ W)
  by_cases h : n = 0
  · subst h
    go_enter Tryd.func14, Tryd.ntmps14
    go_wp2_with fail
    refine (HE.out _ _).mono ?_
    rintro _ w1 ⟨rfl, b1⟩
    go_wp2
    go_ret
    exact ⟨rfl, b1⟩
  · have h0 : (n == 0) = false := by simpa using h
    have he := Lib.hid (show sideW n = ⟨#[98]⟩ by unfold sideW; rw [if_neg h])
    go_enter Tryd.func14, Tryd.ntmps14
    go_wp2_with fail
    refine (HE.out _ _).mono ?_
    rintro _ w1 ⟨rfl, b1⟩
    go_wp2
    go_ret
    exact ⟨by rw [he.out]; rfl, b1⟩
theorem letter_any (n : Int) (w : World) : Calls Tryd.prog 19 #[.int .i64 n] w fun e w' => e = .returned (.string (sideW n)) ∧ Below w.heap.size w w' := by
  by_cases h : n = 0
  · subst h
    go_enter Tryd.func19, Tryd.ntmps19
    go_wp2
    go_ret
    exact ⟨rfl, Below.refl _ _⟩
  · have h0 : (n == 0) = false := by simpa using h
    have he := Lib.hid (show sideW n = ⟨#[98]⟩ by unfold sideW; rw [if_neg h])
    go_enter Tryd.func19, Tryd.ntmps19
    go_wp2
    go_ret
    exact ⟨by rw [he.out]; rfl, Below.refl _ _⟩
theorem number_any (u : Nat) (hu : u < 18446744073709551616) (w : World) (ht : Tab w) : Calls Tryd.prog 15 #[.int .u64 (u : Int)] w fun e w' => e = .returned (.string (decW u)) ∧ Below w.heap.size w w' := by
  have HF := Lib.hid (fmt_any u hu w ht)
  clear ht
  go_enter Tryd.func15, Tryd.ntmps15
  go_wp2_with fail
  refine HF.out.mono ?_
  rintro _ w1 ⟨rfl, b1⟩
  go_wp2
  go_ret
  exact ⟨rfl, b1⟩
end Go.Proofs.YtpakefgbjncdiadDoor.Rep
