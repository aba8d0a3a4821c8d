/- The page's Is: whether numbers are an order. -/
import Derived.Test.YteajilefhkckeaaPickRef
namespace Go.Proofs.Yteajilefhkckeaa.Picks
open Go.RowKit picksNext

theorem isL_long {l : List Int} (h : 12 < l.length) : isL l = false := decide_eq_false (fun hh => by omega)
theorem isL_no {l : List Int} {x : Nat} (hx : x < l.length) (hc : l.count (x : Int) ≠ 1) : isL l = false :=
  decide_eq_false (fun hh => hc (hh.2 _ (iota_mem.2 ⟨by omega, by omega⟩)))
theorem isL_yes {l : List Int} (h : l.length ≤ 12) (hc : ∀ y : Nat, y < l.length → l.count (y : Int) = 1) : isL l = true :=
  decide_eq_true ⟨h, fun x hx => by
    obtain ⟨h0, h1⟩ := iota_mem.1 hx
    have := hc x.toNat (by omega)
    rwa [Int.toNat_of_nonneg h0] at this⟩
theorem count_snoc (zs : List Int) (x : Int) (k : Nat) (h : k < zs.length) : (zs.take (k + 1)).count x = (zs.take k).count x + if zs.getD k 0 = x then 1 else 0 := by
  rw [List.take_succ_eq_append_getElem h, List.count_append, List.count_singleton, List.getD_eq_getElem?_getD, List.getElem?_eq_getElem h]
  simp
theorem count_le (zs : List Int) (x : Int) (k : Nat) : (zs.take k).count x ≤ k := Nat.le_trans List.count_le_length (by simp; omega)

set_option maxHeartbeats 1000000 in
theorem is_long (A : Option Addr) (len cap : Nat) (h : 12 < len) (w : World) :
    Calls Try.prog 18 #[.slice A len cap] w fun e w' => e = .returned (.bool false) ∧ w' = w := by
  have hp : (12 : Int) < (len : Int) := by omega
  go_enter Try.func18, Try.ntmps18
  go_wp2
  go_ret
  exact ⟨rfl, rfl⟩

set_option maxRecDepth 100000 in
set_option maxHeartbeats 4000000 in
theorem is_any (A : Option Addr) (n cap : Nat) (zs : List Int) (hz : zs.length = n) (hn : n ≤ 12) (w : World) (hr : Rd w A n zs) :
    Calls Try.prog 18 #[.slice A n cap] w fun e w' => e = .returned (.bool (isL zs)) ∧ Below w.heap.size w w' := by
  have hn12 : (n : Int) ≤ 12 := by omega
  have HR := Lib.hid (And.intro hr hz)
  clear hr hz
  go_enter Try.func18, Try.ntmps18
  go_wp2
  go_loopw [3] (fun i wr => ∃ x : Nat, i = .int .i64 (x : Int) ∧ x ≤ n ∧ Hid (∀ y : Nat, y < x → zs.count (y : Int) = 1) ∧ ∃ q, wr = w.drewN q) (fun i _ => n - (intOf i).toNat)
  case atStart => exact ⟨0, rfl, Nat.zero_le _, Lib.hid (fun y hy => absurd hy (by omega)), 0, rfl⟩
  case round =>
    obtain ⟨x, rfl, hx, hcs, q, rfl⟩ := hrel
    by_cases hlt : x < n
    · have hx0 : (0 : Int) ≤ (x : Int) := by omega
      have hxn : (x : Int) < (n : Int) := by omega
      go_wp2
      go_loopw [4, 5] (fun c j wr => ∃ m k : Nat, c = .int .i64 (m : Int) ∧ j = .int .i64 (k : Int) ∧ k ≤ n ∧ m ≤ k ∧ Hid (m = (zs.take k).count (x : Int)) ∧ ∃ q, wr = w.drewN q) (fun _ j _ => n - (intOf j).toNat)
      case atStart => exact ⟨0, 0, rfl, rfl, Nat.zero_le _, Nat.le_refl _, Lib.hid rfl, _, rfl⟩
      case round =>
        obtain ⟨m, k, rfl, rfl, hk, hmk, hm, q3, rfl⟩ := hrel
        by_cases hkn : k < n
        · obtain ⟨b, off, hA, _, hc⟩ := HR.out.1 (by omega)
          have hck := hc k hkn
          have HC := Lib.hid (count_snoc zs (x : Int) k (by have := HR.out.2; omega))
          obtain ⟨z, hz⟩ : ∃ z, zs.getD k 0 = z := ⟨_, rfl⟩
          rw [hz] at hck HC
          subst hA
          have hk0 : (0 : Int) ≤ (k : Int) := by omega
          have hk1 : (k : Int) < (n : Int) := by omega
          clear hc hz
          by_cases hs : z = (x : Int)
          · have HC2 := Lib.hid (show (zs.take (k + 1)).count (x : Int) = m + 1 by rw [HC.out, if_pos hs, hm.out])
            have hsb : (z == (x : Int)) = true := by simpa using hs
            clear hs
            go_wp2
            exact ⟨⟨m + 1, k + 1, by go_num, by go_num, by omega, by omega, Lib.hid HC2.out.symm, _, rfl⟩, by simp [intOf]; omega⟩
          · have HC2 := Lib.hid (show (zs.take (k + 1)).count (x : Int) = m by rw [HC.out, if_neg hs, hm.out]; rfl)
            have hsb : (z == (x : Int)) = false := by simpa using hs
            clear hs
            go_wp2
            exact ⟨⟨m, k + 1, rfl, by go_num, by omega, by omega, Lib.hid HC2.out.symm, _, rfl⟩, by simp [intOf]; omega⟩
        · obtain rfl : n = k := by omega
          have HM := Lib.hid (show m = zs.count (x : Int) by rw [hm.out, List.take_of_length_le (by have := HR.out.2; omega)])
          by_cases h1 : m = 1
          · subst h1
            go_wp2
            refine ⟨⟨x + 1, by go_num, by omega, Lib.hid (fun y hy => ?_), _, rfl⟩, by simp [intOf]; omega⟩
            by_cases hyx : y = x
            · rw [hyx]; exact HM.out.symm
            · exact hcs.out y (by omega)
          · have h1i : ¬ (m : Int) = 1 := by omega
            have h1b : ((m : Int) == 1) = false := by simpa using h1i
            have h1c : ((m : Int) != 1) = true := by simpa using h1i
            have HF := Lib.hid (isL_no (l := zs) (x := x) (by have := HR.out.2; omega) (by rw [← HM.out]; exact h1))
            clear h1 h1i
            go_wp2
            go_ret
            exact ⟨by rw [HF.out]; rfl, below_drewN (Below.refl _ _) _⟩
    · obtain rfl : n = x := by omega
      have HT := Lib.hid (isL_yes (l := zs) (by have := HR.out.2; omega) (by have h2 := HR.out.2; rw [h2]; exact hcs.out))
      go_wp2
      go_ret
      exact ⟨by rw [HT.out]; rfl, below_drewN (Below.refl _ _) _⟩
end Go.Proofs.Yteajilefhkckeaa.Picks
