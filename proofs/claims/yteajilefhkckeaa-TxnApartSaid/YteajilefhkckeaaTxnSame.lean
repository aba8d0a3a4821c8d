/- Are messages, transactions the same? The code's and the page's answers. -/
import Derived.Test.YteajilefhkckeaaTxnMath
import Derived.Deep.RegionHeld3
import Derived.Deep.RegionWith
namespace Go.Proofs.Yteajilefhkckeaa.Msg
open Go Go.RowKit

theorem neq_run (x y : M7) (w : World) : (binOp .neq 45 (.agg #[.int .i64 x.k, .int .i64 x.c, .int .i64 x.f, .int .u64 x.s, .int .u64 x.t, .string x.d, .string x.a]) (.agg #[.int .i64 y.k, .int .i64 y.c, .int .i64 y.f, .int .u64 y.s, .int .u64 y.t, .string y.d, .string y.a])).run Try.prog w = .ok (.bool (!same x y)) w := by
  unfold same
  go_simp
  repeat' split
  all_goals simp_all

theorem msame_step (xs ys : List M7) (k : Nat) (h1 : k < xs.length) (h2 : k < ys.length) : msame (xs.drop k) (ys.drop k) = (same (xs.getD k m0) (ys.getD k m0) && msame (xs.drop (k + 1)) (ys.drop (k + 1))) := by
  rw [drop_getD xs k h1, drop_getD ys k h2, msame]

set_option maxHeartbeats 2000000 in
theorem sm_any (A B : Option Addr) (n m c d : Nat) (xs ys : List M7) (w : World) (hn : n ≤ 9223372036854775807) (hm : m ≤ 9223372036854775807) (ha : Rd w A n xs) (hb : Rd w B m ys) :
    Calls Try.prog 23 #[.slice A n c, .slice B m d] w fun e w' => e = .returned (.bool (msame xs ys)) ∧ Below w.heap.size w w' := by
  by_cases hnm : n = m
  · subst hnm
    have HA := Lib.hid (And.intro ha hb)
    have hl1 := Lib.hid (And.intro ha.1 hb.1)
    clear ha hb
    go_enter Try.func23, Try.ntmps23
    go_wp2
    go_loopw [5] (fun i wr => ∃ k : Nat, i = .int .i64 (k : Int) ∧ k ≤ n ∧ Hid (msame xs ys = msame (xs.drop k) (ys.drop k)) ∧ ∃ q, wr = w.drewN q) (fun i _ => n - (intOf i).toNat)
    case atStart => exact ⟨0, rfl, Nat.zero_le _, Lib.hid rfl, 0, rfl⟩
    case round =>
      obtain ⟨k, rfl, hk, hp, q, rfl⟩ := hrel
      by_cases hlt : k < n
      · obtain ⟨b, off, hA, _, hc⟩ := HA.out.1.at (Below.refl _ w) (by omega)
        obtain ⟨b', off', hB, _, hc'⟩ := HA.out.2.at (Below.refl _ w) (by omega)
        subst hA hB
        have hck := hc k hlt
        have hck' := hc' k hlt
        have HS := Lib.hid (msame_step xs ys k (by have := hl1.out.1; omega) (by have := hl1.out.2; omega))
        clear hc hc'
        generalize xs.getD k m0 = m at hck HS
        generalize ys.getD k m0 = m' at hck' HS
        obtain ⟨c0, c1, c2, c3, c4, c5, c6⟩ := hck
        obtain ⟨d0, d1, d2, d3, d4, d5, d6⟩ := hck'
        have hne := neq_run m m'
        have hi0 : (0 : Int) ≤ (k : Int) := by omega
        have hi1 : (k : Int) < (n : Int) := by omega
        cases hs : same m m' with
        | true =>
          rw [hs] at hne
          have HS2 := Lib.hid (show msame (xs.drop k) (ys.drop k) = msame (xs.drop (k + 1)) (ys.drop (k + 1)) by rw [HS.out, hs]; rfl)
          clear hs
          go_wp2
          go_quiet (fail)
          go_wp2
          exact ⟨⟨k + 1, by go_num, by omega, Lib.hid (hp.out.trans HS2.out), _, rfl⟩, by simp [intOf]; omega⟩
        | false =>
          rw [hs] at hne
          have HS2 := Lib.hid (show msame xs ys = false by rw [hp.out, HS.out, hs]; rfl)
          clear hs
          go_wp2
          go_quiet (fail)
          go_wp2
          go_ret
          exact ⟨by rw [HS2.out]; rfl, below_drewN (below_drewN (Below.refl _ _) _) _⟩
      · obtain rfl : k = n := by omega
        go_wp2
        go_ret
        refine ⟨?_, below_drewN (Below.refl _ _) _⟩
        have h1 : xs.drop k = [] := List.drop_of_length_le (by have := hl1.out.1; omega)
        have h2 : ys.drop k = [] := List.drop_of_length_le (by have := hl1.out.2; omega)
        rw [hp.out, h1, h2]
        rfl
  · have hnmi : ¬ (n : Int) = (m : Int) := by omega
    have hne : ((n : Int) == (m : Int)) = false := by simpa using hnmi
    have hne2 : ((n : Int) != (m : Int)) = true := by simpa using hnmi
    have HS := Lib.hid (msame_len (xs := xs) (ys := ys) (by rw [ha.1, hb.1]; exact hnm))
    clear ha hb
    go_enter Try.func23, Try.ntmps23
    go_wp2
    go_ret
    exact ⟨by rw [HS.out]; rfl, Below.refl _ _⟩

set_option maxHeartbeats 2000000 in
theorem eq_any (A B : Option Addr) (n m c d : Nat) (xs ys : List M7) (w : World) (hn : n ≤ 9223372036854775807) (hm : m ≤ 9223372036854775807) (ha : Rd w A n xs) (hb : Rd w B m ys) :
    Calls Try.prog 24 #[.slice A n c, .slice B m d] w fun e w' => e = .returned (.bool (msame xs ys)) ∧ Below w.heap.size w w' := by
  by_cases hnm : n = m
  · subst hnm
    have HA := Lib.hid (And.intro ha hb)
    have hl1 := Lib.hid (And.intro ha.1 hb.1)
    clear ha hb
    go_enter Try.func24, Try.ntmps24
    go_wp2
    go_loopw [13] (fun i wr => ∃ k : Nat, i = .int .i64 (k : Int) ∧ k ≤ n ∧ Hid (msame xs ys = msame (xs.drop k) (ys.drop k)) ∧ ∃ q, wr = w.drewN q) (fun i _ => n - (intOf i).toNat)
    case atStart => exact ⟨0, rfl, Nat.zero_le _, Lib.hid rfl, 0, rfl⟩
    case round =>
      obtain ⟨k, rfl, hk, hp, q, rfl⟩ := hrel
      by_cases hlt : k < n
      · obtain ⟨b, off, hA, _, hc⟩ := HA.out.1.at (Below.refl _ w) (by omega)
        obtain ⟨b', off', hB, _, hc'⟩ := HA.out.2.at (Below.refl _ w) (by omega)
        subst hA hB
        have hck := hc k hlt
        have hck' := hc' k hlt
        have HS := Lib.hid (msame_step xs ys k (by have := hl1.out.1; omega) (by have := hl1.out.2; omega))
        clear hc hc'
        generalize xs.getD k m0 = m at hck HS
        generalize ys.getD k m0 = m' at hck' HS
        obtain ⟨c0, c1, c2, c3, c4, c5, c6⟩ := hck
        obtain ⟨d0, d1, d2, d3, d4, d5, d6⟩ := hck'
        have hne := neq_run m m'
        have hi0 : (0 : Int) ≤ (k : Int) := by omega
        have hi1 : (k : Int) < (n : Int) := by omega
        cases hs : same m m' with
        | true =>
          rw [hs] at hne
          have HS2 := Lib.hid (show msame (xs.drop k) (ys.drop k) = msame (xs.drop (k + 1)) (ys.drop (k + 1)) by rw [HS.out, hs]; rfl)
          clear hs
          go_wp2
          go_quiet (fail)
          go_wp2
          exact ⟨⟨k + 1, by go_num, by omega, Lib.hid (hp.out.trans HS2.out), _, rfl⟩, by simp [intOf]; omega⟩
        | false =>
          rw [hs] at hne
          have HS2 := Lib.hid (show msame xs ys = false by rw [hp.out, HS.out, hs]; rfl)
          clear hs
          go_wp2
          go_quiet (fail)
          go_wp2
          go_ret
          exact ⟨by rw [HS2.out]; rfl, below_drewN (below_drewN (Below.refl _ _) _) _⟩
      · obtain rfl : k = n := by omega
        go_wp2
        go_ret
        refine ⟨?_, below_drewN (Below.refl _ _) _⟩
        have h1 : xs.drop k = [] := List.drop_of_length_le (by have := hl1.out.1; omega)
        have h2 : ys.drop k = [] := List.drop_of_length_le (by have := hl1.out.2; omega)
        rw [hp.out, h1, h2]
        rfl
  · have hnmi : ¬ (n : Int) = (m : Int) := by omega
    have hne : ((n : Int) == (m : Int)) = false := by simpa using hnmi
    have hne2 : ((n : Int) != (m : Int)) = true := by simpa using hnmi
    have HS := Lib.hid (msame_len (xs := xs) (ys := ys) (by rw [ha.1, hb.1]; exact hnm))
    clear ha hb
    go_enter Try.func24, Try.ntmps24
    go_wp2
    go_ret
    exact ⟨by rw [HS.out]; rfl, Below.refl _ _⟩

set_option maxRecDepth 100000 in
set_option maxHeartbeats 2000000 in
theorem rsame_any (a b : T4) (w : World) (ha : Rd w a.A a.len a.ms) (hb : Rd w b.A b.len b.ms) (hla : a.len ≤ 9223372036854775807) (hlb : b.len ≤ 9223372036854775807) :
    Calls Try.prog 8 #[.agg #[.int .i64 a.side, .int .i64 a.acc, .int .u64 a.n, .slice a.A a.len a.cap], .agg #[.int .i64 b.side, .int .i64 b.acc, .int .u64 b.n, .slice b.A b.len b.cap]] w fun e w' => e = .returned (.bool (tsame a b)) ∧ Below w.heap.size w w' := by
  have hB : ∀ o o', Below w.heap.size w ((w.alloc o).alloc o') := fun o o' => ((Below.refl _ _).alloc (Nat.le_refl _) _).alloc (by simp) _
  have H1 := Lib.hid fun o o' => ha.below (hB o o')
  have H2 := Lib.hid fun o o' => hb.below (hB o o')
  clear ha hb
  by_cases h0 : a.side = b.side
  · by_cases h1 : a.acc = b.acc
    · by_cases h2 : a.n = b.n
      · have HT := Lib.hid (show tsame a b = msame a.ms b.ms by simp [tsame, h0, h1, h2])
        have e0 : (a.side == b.side) = true := by simpa using h0
        have e1 : (a.acc == b.acc) = true := by simpa using h1
        have e2 : (a.n == b.n) = true := by simpa using h2
        clear h0 h1 h2
        go_enter Try.func8, Try.ntmps8
        go_wp2_with fail
        refine (sm_any a.A b.A a.len b.len a.cap b.cap a.ms b.ms _ hla hlb (H1.out _ _) (H2.out _ _)).mono ?_
        rintro e w1 ⟨rfl, hb⟩
        have HB := Lib.hid ((hB _ _).trans (hb.mono (by simp; omega)))
        clear hb hB
        go_wp2
        go_ret
        exact ⟨by rw [HT.out]; rfl, HB.out⟩
      · have HT := Lib.hid (show tsame a b = false by simp [tsame, h2])
        have e0 : (a.side == b.side) = true := by simpa using h0
        have e1 : (a.acc == b.acc) = true := by simpa using h1
        have e2 : (a.n == b.n) = false := by simpa using h2
        clear h0 h1 h2
        go_enter Try.func8, Try.ntmps8
        go_wp2
        go_ret
        exact ⟨by rw [HT.out]; rfl, hB _ _⟩
    · have HT := Lib.hid (show tsame a b = false by simp [tsame, h1])
      have e0 : (a.side == b.side) = true := by simpa using h0
      have e1 : (a.acc == b.acc) = false := by simpa using h1
      clear h0 h1
      go_enter Try.func8, Try.ntmps8
      go_wp2
      go_ret
      exact ⟨by rw [HT.out]; rfl, hB _ _⟩
  · have HT := Lib.hid (show tsame a b = false by simp [tsame, h0])
    have e0 : (a.side == b.side) = false := by simpa using h0
    clear h0
    go_enter Try.func8, Try.ntmps8
    go_wp2
    go_ret
    exact ⟨by rw [HT.out]; rfl, hB _ _⟩

set_option maxRecDepth 100000 in
set_option maxHeartbeats 2000000 in
theorem psame_any (a b : T4) (w : World) (ha : Rd w a.A a.len a.ms) (hb : Rd w b.A b.len b.ms) (hla : a.len ≤ 9223372036854775807) (hlb : b.len ≤ 9223372036854775807) :
    Calls Try.prog 9 #[.agg #[.int .i64 a.side, .int .i64 a.acc, .int .u64 a.n, .slice a.A a.len a.cap], .agg #[.int .i64 b.side, .int .i64 b.acc, .int .u64 b.n, .slice b.A b.len b.cap]] w fun e w' => e = .returned (.bool (tsame a b)) ∧ Below w.heap.size w w' := by
  have hB : ∀ o o', Below w.heap.size w ((w.alloc o).alloc o') := fun o o' => ((Below.refl _ _).alloc (Nat.le_refl _) _).alloc (by simp) _
  have H1 := Lib.hid fun o o' => ha.below (hB o o')
  have H2 := Lib.hid fun o o' => hb.below (hB o o')
  clear ha hb
  by_cases h0 : a.side = b.side
  · by_cases h1 : a.acc = b.acc
    · by_cases h2 : a.n = b.n
      · have HT := Lib.hid (show tsame a b = msame a.ms b.ms by simp [tsame, h0, h1, h2])
        have e0 : (a.side == b.side) = true := by simpa using h0
        have e1 : (a.acc == b.acc) = true := by simpa using h1
        have e2 : (a.n == b.n) = true := by simpa using h2
        clear h0 h1 h2
        go_enter Try.func9, Try.ntmps9
        go_wp2_with fail
        refine (eq_any a.A b.A a.len b.len a.cap b.cap a.ms b.ms _ hla hlb (H1.out _ _) (H2.out _ _)).mono ?_
        rintro e w1 ⟨rfl, hb⟩
        have HB := Lib.hid ((hB _ _).trans (hb.mono (by simp; omega)))
        clear hb hB
        go_wp2
        go_ret
        exact ⟨by rw [HT.out]; rfl, HB.out⟩
      · have HT := Lib.hid (show tsame a b = false by simp [tsame, h2])
        have e0 : (a.side == b.side) = true := by simpa using h0
        have e1 : (a.acc == b.acc) = true := by simpa using h1
        have e2 : (a.n == b.n) = false := by simpa using h2
        clear h0 h1 h2
        go_enter Try.func9, Try.ntmps9
        go_wp2
        go_ret
        exact ⟨by rw [HT.out]; rfl, hB _ _⟩
    · have HT := Lib.hid (show tsame a b = false by simp [tsame, h1])
      have e0 : (a.side == b.side) = true := by simpa using h0
      have e1 : (a.acc == b.acc) = false := by simpa using h1
      clear h0 h1
      go_enter Try.func9, Try.ntmps9
      go_wp2
      go_ret
      exact ⟨by rw [HT.out]; rfl, hB _ _⟩
  · have HT := Lib.hid (show tsame a b = false by simp [tsame, h0])
    have e0 : (a.side == b.side) = false := by simpa using h0
    clear h0
    go_enter Try.func9, Try.ntmps9
    go_wp2
    go_ret
    exact ⟨by rw [HT.out]; rfl, hB _ _⟩
end Go.Proofs.Yteajilefhkckeaa.Msg
