/- Dice: a throw, and one below a number (the page's). -/
import Derived.Test.YtfojmjgnndlfnaaDice0
namespace Go.Proofs.Ytfojmjgnndlfnaa.Dice
open Go.RowKit

abbrev TR : Nat := 32
set_option maxHeartbeats 1000000 in
theorem ref_throw_any {w : World} {g : Nat} {st : Int} (h : D TR w g st) : Calls Try.prog 15 #[.pointer (some ⟨g, 0, none⟩)] w fun e w' => e = .returned (.int .u64 (thr st)) ∧ w' = w.setCell ⟨g, 0, none⟩ (.int .u64 (nx st)) := by
  obtain ⟨c, f⟩ := h.facts
  clear h
  go_enter Try.func15, Try.ntmps15
  go_wp2
  simp only [quo_wrap _ 1073741824 (by decide), quo_wrap _ 134217728 (by decide), quo_wrap _ 2147483648 (by decide)]
  go_ret
  exact ⟨rfl, rfl⟩
theorem ref_below_no (p : Option Addr) (n : Int) (h : n < 1) (w : World) : Calls Try.prog 20 #[.pointer p, .int .i64 n] w fun e w' => e = .returned (.int .i64 0) ∧ w' = w := by
  go_enter Try.func20, Try.ntmps20
  go_wp2
  go_ret
  exact ⟨rfl, rfl⟩
set_option maxHeartbeats 1000000 in
theorem ref_below_any {w : World} {g : Nat} {st n : Int} (h : D TR w g st) (h0 : 1 ≤ n) (h1 : n ≤ 9223372036854775807) : Calls Try.prog 20 #[.pointer (some ⟨g, 0, none⟩), .int .i64 n] w fun e w' => e = .returned (.int .i64 (bel st n)) ∧ w' = w.setCell ⟨g, 0, none⟩ (.int .u64 (nx st)) := by
  have HT := Lib.hid (ref_throw_any h)
  have hw : IntKind.u64.wrap n = n := IntWalk.u64_in _ ⟨by omega, by omega⟩
  have hn0 : ¬ n = 0 := by omega
  have hn1 : (n == 0) = false := by simpa using hn0
  have ht0 : 0 ≤ thr st := bits_lo _ _
  clear h
  go_enter Try.func20, Try.ntmps20
  go_wp2_with fail
  refine HT.out.mono ?_
  rintro e w1 ⟨rfl, rfl⟩
  go_wp2
  go_ret
  exact ⟨rfl, rfl⟩
theorem ref_below_z {w : World} {g : Nat} {st n : Int} (h : D TR w g st) (h1 : n ≤ 9223372036854775807) : Calls Try.prog 20 #[.pointer (some ⟨g, 0, none⟩), .int .i64 n] w fun e w' => e = .returned (.int .i64 (belZ st n)) ∧ D TR w' g (nxZ st n) ∧ (∀ k, k ≠ g → w'.heap[k]? = w.heap[k]?) ∧ Below g w w' := by
  unfold belZ nxZ
  by_cases hn : n < 1
  · rw [if_pos hn, if_pos hn]
    exact (ref_below_no _ n hn w).mono fun e w' ⟨he, hw⟩ => by subst hw; exact ⟨he, h, fun _ _ => rfl, Below.refl _ _⟩
  · rw [if_neg hn, if_neg hn]
    exact (ref_below_any h (by omega) h1).mono fun e w' ⟨he, hw⟩ => by
      subst hw
      exact ⟨he, h.set _, fun k hk => Below.heap_setCell _ _ _ _ (by exact hk), (Below.refl _ _).setCell (p := ⟨g, 0, none⟩) (Nat.le_refl _) _⟩
end Go.Proofs.Ytfojmjgnndlfnaa.Dice
