/- The page's answer of an outcome; the laws OutcomeOf and OutcomeWraps. -/
import Derived.Test.YtidpbinhcfbpmaaDoorOutcomeTells
namespace Go.Proofs.YtidpbinhcfbpmaaDoor.Errs
open Go.RowKit Go.Extern.Stop Go.Stop Go.Extern

set_option maxHeartbeats 1000000 in
theorem ref_0  (xs : List Int) (hn : xs.length ≤ 1000) (v : Value) (w : World) (h : Nums w v xs)  :
    Calls Tryd.prog 10 #[.int .i64 0, v] w fun e w' => e = .returned (.int .i64 1) ∧ w' = w := by
  obtain ⟨A, cap, rfl, hr⟩ := h
  have HR := Lib.hid hr
  clear hr
  go_enter Tryd.func10, Tryd.ntmps10
  go_wp2
  go_loopw [5, 6] (fun b i wr => Hid (wr = w) ∧ ∃ k : Nat, i = .int .i64 (k : Int) ∧ k ≤ xs.length ∧ b = .bool (hasP 1 (xs.take k))) (fun _ i _ => xs.length - (intOf i).toNat)
  case atStart => exact ⟨Lib.hid rfl, 0, rfl, Nat.zero_le _, rfl⟩
  case round =>
    obtain ⟨hw, k, rfl, hk, rfl⟩ := hrel
    obtain rfl := hw.out
    clear hw
    by_cases hlt : k < xs.length
    · have hlt1 : (k : Int) < (xs.length : Int) := by omega
      have HT := Lib.hid (hasP_take 1 xs k hlt)
      obtain ⟨b, off, rfl, hbl, hcs⟩ := HR.out (by omega)
      have hck := hcs k hlt
      clear hcs hbl
      cases hp : hasP 1 (xs.take k) with
      | true =>
        rw [hp] at HT
        go_wp2
        exact ⟨⟨Lib.hid (by simp), k + 1, by go_num, by omega, by rw [HT.out]; rfl⟩, by simp [intOf]; omega⟩
      | false =>
        rw [hp] at HT
        generalize xs.getD k 0 = y at *
        by_cases hy : y = 1
        · have hyb : (y == 1) = true := by simpa using hy
          go_wp2
          exact ⟨⟨Lib.hid (by simp), k + 1, by go_num, by omega, by rw [HT.out, hyb]; rfl⟩, by simp [intOf]; omega⟩
        · have hyb : (y == 1) = false := by simpa using hy
          go_wp2
          exact ⟨⟨Lib.hid (by simp), k + 1, by go_num, by omega, by rw [HT.out, hyb]; rfl⟩, by simp [intOf]; omega⟩
    · obtain rfl : k = xs.length := by omega
      rw [List.take_length]
      go_wp2
      go_ret
      exact ⟨rfl, rfl⟩
set_option maxHeartbeats 1000000 in
theorem ref_14  (xs : List Int) (hn : xs.length ≤ 1000) (v : Value) (w : World) (h : Nums w v xs)  :
    Calls Tryd.prog 10 #[.int .i64 14, v] w fun e w' => e = .returned (.int .i64 4) ∧ w' = w := by
  obtain ⟨A, cap, rfl, hr⟩ := h
  have HR := Lib.hid hr
  clear hr
  go_enter Tryd.func10, Tryd.ntmps10
  go_wp2
  go_loopw [5, 6] (fun b i wr => Hid (wr = w) ∧ ∃ k : Nat, i = .int .i64 (k : Int) ∧ k ≤ xs.length ∧ b = .bool (hasP 1 (xs.take k))) (fun _ i _ => xs.length - (intOf i).toNat)
  case atStart => exact ⟨Lib.hid rfl, 0, rfl, Nat.zero_le _, rfl⟩
  case round =>
    obtain ⟨hw, k, rfl, hk, rfl⟩ := hrel
    obtain rfl := hw.out
    clear hw
    by_cases hlt : k < xs.length
    · have hlt1 : (k : Int) < (xs.length : Int) := by omega
      have HT := Lib.hid (hasP_take 1 xs k hlt)
      obtain ⟨b, off, rfl, hbl, hcs⟩ := HR.out (by omega)
      have hck := hcs k hlt
      clear hcs hbl
      cases hp : hasP 1 (xs.take k) with
      | true =>
        rw [hp] at HT
        go_wp2
        exact ⟨⟨Lib.hid (by simp), k + 1, by go_num, by omega, by rw [HT.out]; rfl⟩, by simp [intOf]; omega⟩
      | false =>
        rw [hp] at HT
        generalize xs.getD k 0 = y at *
        by_cases hy : y = 1
        · have hyb : (y == 1) = true := by simpa using hy
          go_wp2
          exact ⟨⟨Lib.hid (by simp), k + 1, by go_num, by omega, by rw [HT.out, hyb]; rfl⟩, by simp [intOf]; omega⟩
        · have hyb : (y == 1) = false := by simpa using hy
          go_wp2
          exact ⟨⟨Lib.hid (by simp), k + 1, by go_num, by omega, by rw [HT.out, hyb]; rfl⟩, by simp [intOf]; omega⟩
    · obtain rfl : k = xs.length := by omega
      rw [List.take_length]
      go_wp2
      go_ret
      exact ⟨rfl, rfl⟩
set_option maxHeartbeats 1000000 in
theorem ref_15  (xs : List Int) (hn : xs.length ≤ 1000) (v : Value) (w : World) (h : Nums w v xs)  :
    Calls Tryd.prog 10 #[.int .i64 15, v] w fun e w' => e = .returned (.int .i64 5) ∧ w' = w := by
  obtain ⟨A, cap, rfl, hr⟩ := h
  have HR := Lib.hid hr
  clear hr
  go_enter Tryd.func10, Tryd.ntmps10
  go_wp2
  go_loopw [5, 6] (fun b i wr => Hid (wr = w) ∧ ∃ k : Nat, i = .int .i64 (k : Int) ∧ k ≤ xs.length ∧ b = .bool (hasP 1 (xs.take k))) (fun _ i _ => xs.length - (intOf i).toNat)
  case atStart => exact ⟨Lib.hid rfl, 0, rfl, Nat.zero_le _, rfl⟩
  case round =>
    obtain ⟨hw, k, rfl, hk, rfl⟩ := hrel
    obtain rfl := hw.out
    clear hw
    by_cases hlt : k < xs.length
    · have hlt1 : (k : Int) < (xs.length : Int) := by omega
      have HT := Lib.hid (hasP_take 1 xs k hlt)
      obtain ⟨b, off, rfl, hbl, hcs⟩ := HR.out (by omega)
      have hck := hcs k hlt
      clear hcs hbl
      cases hp : hasP 1 (xs.take k) with
      | true =>
        rw [hp] at HT
        go_wp2
        exact ⟨⟨Lib.hid (by simp), k + 1, by go_num, by omega, by rw [HT.out]; rfl⟩, by simp [intOf]; omega⟩
      | false =>
        rw [hp] at HT
        generalize xs.getD k 0 = y at *
        by_cases hy : y = 1
        · have hyb : (y == 1) = true := by simpa using hy
          go_wp2
          exact ⟨⟨Lib.hid (by simp), k + 1, by go_num, by omega, by rw [HT.out, hyb]; rfl⟩, by simp [intOf]; omega⟩
        · have hyb : (y == 1) = false := by simpa using hy
          go_wp2
          exact ⟨⟨Lib.hid (by simp), k + 1, by go_num, by omega, by rw [HT.out, hyb]; rfl⟩, by simp [intOf]; omega⟩
    · obtain rfl : k = xs.length := by omega
      rw [List.take_length]
      go_wp2
      go_ret
      exact ⟨rfl, rfl⟩
set_option maxHeartbeats 1000000 in
theorem ref_16  (xs : List Int) (hn : xs.length ≤ 1000) (v : Value) (w : World) (h : Nums w v xs)  :
    Calls Tryd.prog 10 #[.int .i64 16, v] w fun e w' => e = .returned (.int .i64 6) ∧ w' = w := by
  obtain ⟨A, cap, rfl, hr⟩ := h
  have HR := Lib.hid hr
  clear hr
  go_enter Tryd.func10, Tryd.ntmps10
  go_wp2
  go_loopw [5, 6] (fun b i wr => Hid (wr = w) ∧ ∃ k : Nat, i = .int .i64 (k : Int) ∧ k ≤ xs.length ∧ b = .bool (hasP 1 (xs.take k))) (fun _ i _ => xs.length - (intOf i).toNat)
  case atStart => exact ⟨Lib.hid rfl, 0, rfl, Nat.zero_le _, rfl⟩
  case round =>
    obtain ⟨hw, k, rfl, hk, rfl⟩ := hrel
    obtain rfl := hw.out
    clear hw
    by_cases hlt : k < xs.length
    · have hlt1 : (k : Int) < (xs.length : Int) := by omega
      have HT := Lib.hid (hasP_take 1 xs k hlt)
      obtain ⟨b, off, rfl, hbl, hcs⟩ := HR.out (by omega)
      have hck := hcs k hlt
      clear hcs hbl
      cases hp : hasP 1 (xs.take k) with
      | true =>
        rw [hp] at HT
        go_wp2
        exact ⟨⟨Lib.hid (by simp), k + 1, by go_num, by omega, by rw [HT.out]; rfl⟩, by simp [intOf]; omega⟩
      | false =>
        rw [hp] at HT
        generalize xs.getD k 0 = y at *
        by_cases hy : y = 1
        · have hyb : (y == 1) = true := by simpa using hy
          go_wp2
          exact ⟨⟨Lib.hid (by simp), k + 1, by go_num, by omega, by rw [HT.out, hyb]; rfl⟩, by simp [intOf]; omega⟩
        · have hyb : (y == 1) = false := by simpa using hy
          go_wp2
          exact ⟨⟨Lib.hid (by simp), k + 1, by go_num, by omega, by rw [HT.out, hyb]; rfl⟩, by simp [intOf]; omega⟩
    · obtain rfl : k = xs.length := by omega
      rw [List.take_length]
      go_wp2
      go_ret
      exact ⟨rfl, rfl⟩
set_option maxHeartbeats 1000000 in
theorem ref_12  (xs : List Int) (hn : xs.length ≤ 1000) (v : Value) (w : World) (h : Nums w v xs)  :
    Calls Tryd.prog 10 #[.int .i64 12, v] w fun e w' => e = .returned (.int .i64 7) ∧ w' = w := by
  obtain ⟨A, cap, rfl, hr⟩ := h
  have HR := Lib.hid hr
  clear hr
  go_enter Tryd.func10, Tryd.ntmps10
  go_wp2
  go_loopw [5, 6] (fun b i wr => Hid (wr = w) ∧ ∃ k : Nat, i = .int .i64 (k : Int) ∧ k ≤ xs.length ∧ b = .bool (hasP 1 (xs.take k))) (fun _ i _ => xs.length - (intOf i).toNat)
  case atStart => exact ⟨Lib.hid rfl, 0, rfl, Nat.zero_le _, rfl⟩
  case round =>
    obtain ⟨hw, k, rfl, hk, rfl⟩ := hrel
    obtain rfl := hw.out
    clear hw
    by_cases hlt : k < xs.length
    · have hlt1 : (k : Int) < (xs.length : Int) := by omega
      have HT := Lib.hid (hasP_take 1 xs k hlt)
      obtain ⟨b, off, rfl, hbl, hcs⟩ := HR.out (by omega)
      have hck := hcs k hlt
      clear hcs hbl
      cases hp : hasP 1 (xs.take k) with
      | true =>
        rw [hp] at HT
        go_wp2
        exact ⟨⟨Lib.hid (by simp), k + 1, by go_num, by omega, by rw [HT.out]; rfl⟩, by simp [intOf]; omega⟩
      | false =>
        rw [hp] at HT
        generalize xs.getD k 0 = y at *
        by_cases hy : y = 1
        · have hyb : (y == 1) = true := by simpa using hy
          go_wp2
          exact ⟨⟨Lib.hid (by simp), k + 1, by go_num, by omega, by rw [HT.out, hyb]; rfl⟩, by simp [intOf]; omega⟩
        · have hyb : (y == 1) = false := by simpa using hy
          go_wp2
          exact ⟨⟨Lib.hid (by simp), k + 1, by go_num, by omega, by rw [HT.out, hyb]; rfl⟩, by simp [intOf]; omega⟩
    · obtain rfl : k = xs.length := by omega
      rw [List.take_length]
      go_wp2
      go_ret
      exact ⟨rfl, rfl⟩
set_option maxHeartbeats 1000000 in
theorem ref_11  (xs : List Int) (hn : xs.length ≤ 1000) (v : Value) (w : World) (h : Nums w v xs)  :
    Calls Tryd.prog 10 #[.int .i64 11, v] w fun e w' => e = .returned (.int .i64 8) ∧ w' = w := by
  obtain ⟨A, cap, rfl, hr⟩ := h
  have HR := Lib.hid hr
  clear hr
  go_enter Tryd.func10, Tryd.ntmps10
  go_wp2
  go_loopw [5, 6] (fun b i wr => Hid (wr = w) ∧ ∃ k : Nat, i = .int .i64 (k : Int) ∧ k ≤ xs.length ∧ b = .bool (hasP 1 (xs.take k))) (fun _ i _ => xs.length - (intOf i).toNat)
  case atStart => exact ⟨Lib.hid rfl, 0, rfl, Nat.zero_le _, rfl⟩
  case round =>
    obtain ⟨hw, k, rfl, hk, rfl⟩ := hrel
    obtain rfl := hw.out
    clear hw
    by_cases hlt : k < xs.length
    · have hlt1 : (k : Int) < (xs.length : Int) := by omega
      have HT := Lib.hid (hasP_take 1 xs k hlt)
      obtain ⟨b, off, rfl, hbl, hcs⟩ := HR.out (by omega)
      have hck := hcs k hlt
      clear hcs hbl
      cases hp : hasP 1 (xs.take k) with
      | true =>
        rw [hp] at HT
        go_wp2
        exact ⟨⟨Lib.hid (by simp), k + 1, by go_num, by omega, by rw [HT.out]; rfl⟩, by simp [intOf]; omega⟩
      | false =>
        rw [hp] at HT
        generalize xs.getD k 0 = y at *
        by_cases hy : y = 1
        · have hyb : (y == 1) = true := by simpa using hy
          go_wp2
          exact ⟨⟨Lib.hid (by simp), k + 1, by go_num, by omega, by rw [HT.out, hyb]; rfl⟩, by simp [intOf]; omega⟩
        · have hyb : (y == 1) = false := by simpa using hy
          go_wp2
          exact ⟨⟨Lib.hid (by simp), k + 1, by go_num, by omega, by rw [HT.out, hyb]; rfl⟩, by simp [intOf]; omega⟩
    · obtain rfl : k = xs.length := by omega
      rw [List.take_length]
      go_wp2
      go_ret
      exact ⟨rfl, rfl⟩
set_option maxHeartbeats 1000000 in
theorem ref_13  (xs : List Int) (hn : xs.length ≤ 1000) (v : Value) (w : World) (h : Nums w v xs) (b : Bool) (hp : hasP 1 xs = b) :
    Calls Tryd.prog 10 #[.int .i64 13, v] w fun e w' => e = .returned (.int .i64 (if b then 2 else 3)) ∧ w' = w := by
  obtain ⟨A, cap, rfl, hr⟩ := h
  have HR := Lib.hid hr
  clear hr
  have HP := Lib.hid hp
  clear hp
  go_enter Tryd.func10, Tryd.ntmps10
  go_wp2
  go_loopw [5, 6] (fun b i wr => Hid (wr = w) ∧ ∃ k : Nat, i = .int .i64 (k : Int) ∧ k ≤ xs.length ∧ b = .bool (hasP 1 (xs.take k))) (fun _ i _ => xs.length - (intOf i).toNat)
  case atStart => exact ⟨Lib.hid rfl, 0, rfl, Nat.zero_le _, rfl⟩
  case round =>
    obtain ⟨hw, k, rfl, hk, rfl⟩ := hrel
    obtain rfl := hw.out
    clear hw
    by_cases hlt : k < xs.length
    · have hlt1 : (k : Int) < (xs.length : Int) := by omega
      have HT := Lib.hid (hasP_take 1 xs k hlt)
      obtain ⟨b, off, rfl, hbl, hcs⟩ := HR.out (by omega)
      have hck := hcs k hlt
      clear hcs hbl
      cases hp : hasP 1 (xs.take k) with
      | true =>
        rw [hp] at HT
        go_wp2
        exact ⟨⟨Lib.hid (by simp), k + 1, by go_num, by omega, by rw [HT.out]; rfl⟩, by simp [intOf]; omega⟩
      | false =>
        rw [hp] at HT
        generalize xs.getD k 0 = y at *
        by_cases hy : y = 1
        · have hyb : (y == 1) = true := by simpa using hy
          go_wp2
          exact ⟨⟨Lib.hid (by simp), k + 1, by go_num, by omega, by rw [HT.out, hyb]; rfl⟩, by simp [intOf]; omega⟩
        · have hyb : (y == 1) = false := by simpa using hy
          go_wp2
          exact ⟨⟨Lib.hid (by simp), k + 1, by go_num, by omega, by rw [HT.out, hyb]; rfl⟩, by simp [intOf]; omega⟩
    · obtain rfl : k = xs.length := by omega
      rw [List.take_length]
      rw [HP.out]
      cases b
      · go_wp2
        go_ret
        exact ⟨rfl, rfl⟩
      go_wp2
      go_ret
      exact ⟨rfl, rfl⟩
set_option maxHeartbeats 1000000 in
theorem ref_else (c : Int) (n0 : c ≠ 0) (n13 : c ≠ 13) (n14 : c ≠ 14) (n15 : c ≠ 15) (n16 : c ≠ 16) (n12 : c ≠ 12) (n11 : c ≠ 11) (xs : List Int) (hn : xs.length ≤ 1000) (v : Value) (w : World) (h : Nums w v xs)  :
    Calls Tryd.prog 10 #[.int .i64 c, v] w fun e w' => e = .returned (.int .i64 9) ∧ w' = w := by
  obtain ⟨A, cap, rfl, hr⟩ := h
  have HR := Lib.hid hr
  clear hr
  have f0 : (c == 0) = false := by simpa using n0
  have f13 : (c == 13) = false := by simpa using n13
  have f14 : (c == 14) = false := by simpa using n14
  have f15 : (c == 15) = false := by simpa using n15
  have f16 : (c == 16) = false := by simpa using n16
  have f12 : (c == 12) = false := by simpa using n12
  have f11 : (c == 11) = false := by simpa using n11
  go_enter Tryd.func10, Tryd.ntmps10
  go_wp2
  go_loopw [5, 6] (fun b i wr => Hid (wr = w) ∧ ∃ k : Nat, i = .int .i64 (k : Int) ∧ k ≤ xs.length ∧ b = .bool (hasP 1 (xs.take k))) (fun _ i _ => xs.length - (intOf i).toNat)
  case atStart => exact ⟨Lib.hid rfl, 0, rfl, Nat.zero_le _, rfl⟩
  case round =>
    obtain ⟨hw, k, rfl, hk, rfl⟩ := hrel
    obtain rfl := hw.out
    clear hw
    by_cases hlt : k < xs.length
    · have hlt1 : (k : Int) < (xs.length : Int) := by omega
      have HT := Lib.hid (hasP_take 1 xs k hlt)
      obtain ⟨b, off, rfl, hbl, hcs⟩ := HR.out (by omega)
      have hck := hcs k hlt
      clear hcs hbl
      cases hp : hasP 1 (xs.take k) with
      | true =>
        rw [hp] at HT
        go_wp2
        exact ⟨⟨Lib.hid (by simp), k + 1, by go_num, by omega, by rw [HT.out]; rfl⟩, by simp [intOf]; omega⟩
      | false =>
        rw [hp] at HT
        generalize xs.getD k 0 = y at *
        by_cases hy : y = 1
        · have hyb : (y == 1) = true := by simpa using hy
          go_wp2
          exact ⟨⟨Lib.hid (by simp), k + 1, by go_num, by omega, by rw [HT.out, hyb]; rfl⟩, by simp [intOf]; omega⟩
        · have hyb : (y == 1) = false := by simpa using hy
          go_wp2
          exact ⟨⟨Lib.hid (by simp), k + 1, by go_num, by omega, by rw [HT.out, hyb]; rfl⟩, by simp [intOf]; omega⟩
    · obtain rfl : k = xs.length := by omega
      rw [List.take_length]
      go_wp2
      go_ret
      exact ⟨rfl, rfl⟩
theorem ref_any (c : Int) (xs : List Int) (hn : xs.length ≤ 1000) (v : Value) (w : World) (h : Nums w v xs) :
    Calls Tryd.prog 10 #[.int .i64 c, v] w fun e w' => e = .returned (.int .i64 (outK c (hasP 1 xs))) ∧ w' = w := by
  by_cases n0 : c = 0
  · subst n0; exact ref_0 xs hn v w h
  by_cases n14 : c = 14
  · subst n14; exact ref_14 xs hn v w h
  by_cases n15 : c = 15
  · subst n15; exact ref_15 xs hn v w h
  by_cases n16 : c = 16
  · subst n16; exact ref_16 xs hn v w h
  by_cases n12 : c = 12
  · subst n12; exact ref_12 xs hn v w h
  by_cases n11 : c = 11
  · subst n11; exact ref_11 xs hn v w h
  by_cases n13 : c = 13
  · subst n13; exact ref_13 xs hn v w h _ rfl
  have he : outK c (hasP 1 xs) = 9 := by simp [outK, n0, n13, n14, n15, n16, n12, n11]
  rw [he]
  exact ref_else c n0 n13 n14 n15 n16 n12 n11 xs hn v w h

theorem law_long (c : Int) (A : Option Addr) (n cap : Nat) (h : 40 < n) (w : World) (hg : Hg w) :
    Calls Tryd.prog 3 #[.int .i64 c, .slice A n cap] w fun e w' => e = .returned (.bool true) ∧ Below w.heap.size w w' := by
  have HA := Lib.hid (awake28 w hg)
  have hp : (40 : Int) < (n : Int) := by omega
  clear hg
  go_enter Tryd.func3, Tryd.ntmps3
  go_wp2_with fail
  refine HA.out.mono ?_
  rintro e w1 ⟨rfl, hb⟩
  have HB := Lib.hid hb
  clear hb
  go_wp2
  go_ret
  exact ⟨rfl, HB.out⟩
theorem law_ok (A : Option Addr) (n cap : Nat) (h : ¬ 40 < n) (w : World) (hg : Hg w) :
    Calls Tryd.prog 3 #[.int .i64 0, .slice A n cap] w fun e w' => e = .returned (.bool true) ∧ Below w.heap.size w w' := by
  have HA := Lib.hid (awake28 w hg)
  have hp : ¬ (40 : Int) < (n : Int) := by omega
  clear hg
  go_enter Tryd.func3, Tryd.ntmps3
  go_wp2_with fail
  refine (of_ok _ _).mono ?_
  rintro e w1 ⟨rfl, hw⟩
  obtain rfl := hw.symm
  go_wp2_with fail
  refine (out_nil _).mono ?_
  rintro e w1 ⟨rfl, hw⟩
  obtain rfl := hw.symm
  go_wp2_with fail
  refine HA.out.mono ?_
  rintro e w1 ⟨rfl, hb⟩
  have HB := Lib.hid hb
  clear hb hw
  go_wp2
  go_ret
  exact ⟨rfl, HB.out⟩
set_option maxHeartbeats 1000000 in
theorem law_some (c : Int) (hc : c ≠ 0) (xs : List Int) (v : Value) (h : ¬ 40 < xs.length) (w : World) (hv : Nums w v xs) (hg : Hg w) :
    Calls Tryd.prog 3 #[.int .i64 c, v] w fun e w' => e = .returned (.bool true) ∧ Below w.heap.size w w' := by
  have hp : ¬ (40 : Int) < (xs.length : Int) := by omega
  have HG := Lib.hid hg
  have HV := Lib.hid hv
  have HO := Lib.hid (of_any c hc xs (by omega) v w hv)
  have h0 : (c == 0) = false := by simpa using hc
  have HOut := Lib.hid (show ∀ u w1, Ch w1 xs.reverse (.num c) u → Hg w1 → Calls Tryd.prog 8 #[u] w1 fun e w' => e = .returned (.int .i64 (outK c (hasP 1 xs))) ∧ Below w1.heap.size w1 w' from fun u w1 hch hg1 => by
    have := out_any xs.reverse (.num c) u w1 hch (by simp; omega) hg1 (by intro e; injection e with e; exact hc e)
    rwa [hasP_reverse] at this)
  have HRef := Lib.hid (show ∀ w1, Below w.heap.size w w1 → _ from fun w1 hb => ref_any c xs (by omega) v w1 (hv.below hb))
  generalize outK c (hasP 1 xs) = K at *
  obtain ⟨A, cap, rfl, _⟩ := hv
  have HOp := Lib.hid (op_any K)
  have HOr := Lib.hid (op_ref K)
  have HG1 := Lib.hid (again_any K)
  have HGr := Lib.hid (again_ref K)
  generalize opK K = ok at *
  generalize againK K = ak at *
  clear hg hc
  go_enter Tryd.func3, Tryd.ntmps3
  go_wp2_with fail
  refine HO.out.mono ?_
  rintro e w1 ⟨u, rfl, hch, hb⟩
  have H1 := Lib.hid hb
  have HP := Lib.hid (HOut.out u w1 hch (HG.out.below H1.out HG.out.lt))
  clear hb hch
  go_wp2_with fail
  refine HP.out.mono ?_
  rintro e w2 ⟨rfl, hb⟩
  have H2 := Lib.hid (H1.out.trans (hb.mono H1.out.size))
  clear hb
  have HA := Lib.hid (awake28 w2 (HG.out.below H2.out HG.out.lt))
  go_wp2_with fail
  refine HA.out.mono ?_
  rintro e w3 ⟨rfl, hb⟩
  have H3 := Lib.hid (H2.out.trans (hb.mono H2.out.size))
  clear hb
  have HR := Lib.hid (HRef.out w3 H3.out)
  go_wp2_with fail
  refine HR.out.mono ?_
  rintro e w4 ⟨rfl, hw⟩
  obtain rfl := hw.symm
  clear hw
  go_wp2_with fail
  refine (HOp.out _).mono ?_
  rintro e w4 ⟨rfl, hw⟩
  obtain rfl := hw.symm
  clear hw
  go_wp2_with fail
  refine (HOr.out _).mono ?_
  rintro e w5 ⟨rfl, hb⟩
  have H5 := Lib.hid (H3.out.trans (hb.mono H3.out.size))
  clear hb
  go_wp2_with fail
  refine (HG1.out _).mono ?_
  rintro e w6 ⟨rfl, hw⟩
  obtain rfl := hw.symm
  clear hw
  go_wp2_with fail
  refine (HGr.out _).mono ?_
  rintro e w6 ⟨rfl, hw⟩
  obtain rfl := hw.symm
  clear hw
  go_wp2
  go_ret
  exact ⟨rfl, H5.out⟩


end Go.Proofs.YtidpbinhcfbpmaaDoor.Errs
