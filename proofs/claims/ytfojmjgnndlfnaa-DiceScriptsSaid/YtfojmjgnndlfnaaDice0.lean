/- Dice: a throw, and one below a number (the program's). -/
import Derived.Test.YtfojmjgnndlfnaaCommon
namespace Go.Proofs.Ytfojmjgnndlfnaa.Dice
open Go.RowKit

abbrev TD : Nat := 48
def D (T : TypeId) (w : World) (g : Nat) (st : Int) : Prop := w.heap[g]? = some (.cells #[.int .u64 st] T (0, 0))
theorem D.facts {T : TypeId} {w : World} {g : Nat} {st : Int} (h : D T w g st) : w.cell? ⟨g, 0, none⟩ = some (.int .u64 st) ∧ w.frozen? ⟨g, 0, none⟩ = false :=
  ⟨cell_of_row w g 0 _ _ (0, 0) h, by unfold D at h; simp [World.frozen?, h]⟩

def nx (st : Int) : Int := IntKind.u64.wrap (st + 11400714819323198485)
def f1 (z : Int) : Int := IntKind.u64.wrap (bits .xor .u64 z (z / 1073741824) * 13787848793156543929)
def f2 (z : Int) : Int := IntKind.u64.wrap (bits .xor .u64 z (z / 134217728) * 10723151780598845931)
def f3 (z : Int) : Int := bits .xor .u64 z (z / 2147483648)
def thr (st : Int) : Int := f3 (f2 (f1 (nx st)))

theorem quo_wrap (x k : Int) (hk : 1 ≤ k) : IntKind.u64.wrap ((IntKind.u64.wrap x).tdiv k) = IntKind.u64.wrap x / k := by
  have h0 : 0 ≤ IntKind.u64.wrap x := by rw [IntKind.wrap_u64]; omega
  have h1 : IntKind.u64.wrap x < 18446744073709551616 := by rw [IntKind.wrap_u64]; omega
  rw [Int.tdiv_eq_ediv_of_nonneg h0]
  have h2 : 0 ≤ IntKind.u64.wrap x / k := Int.ediv_nonneg h0 (by omega)
  have h3 : IntKind.u64.wrap x / k ≤ IntKind.u64.wrap x := Int.ediv_le_self _ h0
  exact IntWalk.u64_in _ ⟨by omega, by omega⟩

set_option maxHeartbeats 1000000 in
theorem throw_any {w : World} {g : Nat} {st : Int} (h : D TD w g st) : Calls Try.prog 14 #[.pointer (some ⟨g, 0, none⟩)] w fun e w' => e = .returned (.int .u64 (thr st)) ∧ w' = w.setCell ⟨g, 0, none⟩ (.int .u64 (nx st)) := by
  obtain ⟨c, f⟩ := h.facts
  clear h
  go_enter Try.func14, Try.ntmps14
  go_wp2
  go_ret
  exact ⟨rfl, rfl⟩
theorem throw_none (w : World) : Calls Try.prog 14 #[.pointer none] w fun e w' => e = .returned (.int .u64 0) ∧ w' = w := by
  go_enter Try.func14, Try.ntmps14
  go_wp2
  go_ret
  exact ⟨rfl, rfl⟩

theorem below_no (p : Option Addr) (n : Int) (h : n < 1) (w : World) : Calls Try.prog 19 #[.pointer p, .int .i64 n] w fun e w' => e = .returned (.int .i64 0) ∧ w' = w := by
  go_enter Try.func19, Try.ntmps19
  go_wp2
  go_ret
  exact ⟨rfl, rfl⟩
theorem below_none (w : World) : Calls Try.prog 19 #[.pointer none, .int .i64 7] w fun e w' => e = .returned (.int .i64 0) ∧ w' = w := by
  go_enter Try.func19, Try.ntmps19
  go_wp2_with fail
  refine (throw_none _).mono ?_
  rintro e w1 ⟨rfl, rfl⟩
  go_wp2
  go_ret
  exact ⟨rfl, rfl⟩

theorem bits_hi (a b : Int) : bits .xor .u64 a b < 18446744073709551616 := by
  unfold bits; rw [IntKind.wrap_u64]; omega
theorem bits_lo (a b : Int) : 0 ≤ bits .xor .u64 a b := by
  unfold bits; rw [IntKind.wrap_u64]; omega
def bel (st n : Int) : Int := wrap64 (thr st % n)
set_option maxHeartbeats 1000000 in
theorem below_any {w : World} {g : Nat} {st n : Int} (h : D TD w g st) (h0 : 1 ≤ n) (h1 : n ≤ 9223372036854775807) : Calls Try.prog 19 #[.pointer (some ⟨g, 0, none⟩), .int .i64 n] w fun e w' => e = .returned (.int .i64 (bel st n)) ∧ w' = w.setCell ⟨g, 0, none⟩ (.int .u64 (nx st)) := by
  have HT := Lib.hid (throw_any h)
  have hw : IntKind.u64.wrap n = n := IntWalk.u64_in _ ⟨by omega, by omega⟩
  have hn0 : ¬ n = 0 := by omega
  have hn1 : (n == 0) = false := by simpa using hn0
  have ht0 : 0 ≤ thr st := bits_lo _ _
  clear h
  go_enter Try.func19, Try.ntmps19
  go_wp2_with fail
  refine HT.out.mono ?_
  rintro e w1 ⟨rfl, rfl⟩
  go_wp2
  go_ret
  exact ⟨rfl, rfl⟩
theorem bel_lo {st n : Int} (h : 1 ≤ n) (h1 : n ≤ 9223372036854775807) : 0 ≤ bel st n ∧ bel st n < n := by
  have h0 : 0 ≤ thr st % n := Int.emod_nonneg _ (by omega)
  have h2 : thr st % n < n := Int.emod_lt_of_pos _ (by omega)
  unfold bel
  rw [IntWalk.wrap64_in _ ⟨by omega, by omega⟩]
  exact ⟨h0, h2⟩
/-- What both dice make of a number, whatever it is. -/
def belZ (st n : Int) : Int := if n < 1 then 0 else bel st n
def nxZ (st n : Int) : Int := if n < 1 then st else nx st
theorem D.set {T : TypeId} {w : World} {g : Nat} {st : Int} (h : D T w g st) (x : Int) : D T (w.setCell ⟨g, 0, none⟩ (.int .u64 x)) g x := by
  unfold D at *; simp [World.setCell, Array.getElem?_modify, h]
theorem below_z {w : World} {g : Nat} {st n : Int} (h : D TD w g st) (h1 : n ≤ 9223372036854775807) : Calls Try.prog 19 #[.pointer (some ⟨g, 0, none⟩), .int .i64 n] w fun e w' => e = .returned (.int .i64 (belZ st n)) ∧ D TD w' g (nxZ st n) ∧ (∀ k, k ≠ g → w'.heap[k]? = w.heap[k]?) ∧ Below g w w' := by
  unfold belZ nxZ
  by_cases hn : n < 1
  · rw [if_pos hn, if_pos hn]
    exact (below_no _ n hn w).mono fun e w' ⟨he, hw⟩ => by subst hw; exact ⟨he, h, fun _ _ => rfl, Below.refl _ _⟩
  · rw [if_neg hn, if_neg hn]
    exact (below_any h (by omega) h1).mono fun e w' ⟨he, hw⟩ => by
      subst hw
      exact ⟨he, h.set _, fun k hk => Below.heap_setCell _ _ _ _ (by exact hk), (Below.refl _ _).setCell (p := ⟨g, 0, none⟩) (Nat.le_refl _) _⟩
theorem new_any (st : Int) (w : World) : Calls Try.prog 6 #[.int .u64 st] w fun e w' => e = .returned (.pointer (some ⟨w.heap.size, 0, none⟩)) ∧ D TD w' w.heap.size st ∧ Below w.heap.size w w' ∧ w'.heap.size = w.heap.size + 1 := by
  go_enter Try.func6, Try.ntmps6
  go_wp2
  go_ret
  exact ⟨rfl, heap_alloc_new w _, (Below.refl _ _).alloc (Nat.le_refl _) _, by simp⟩
end Go.Proofs.Ytfojmjgnndlfnaa.Dice
