/- picks.Next; the page's example of picks. -/
import Derived.Test.YtnopmeadliaiiaaPicks
import Derived.Test.YtnopmeadliaiiaaSame
import Derived.OpenShut
import Derived.ProofKit
import Derived.ChangeSlices
namespace Go.Proofs.Ytnopmeadliaiiaa.picksNext
open Go.RowKit Picks Go.ChangeShapes Go.WideShapes

/-- A slice that reads as numbers. -/
def Rd (w : World) (A : Option Addr) (len : Nat) (zs : List Int) : Prop :=
  0 < len → ∃ b off, A = some ⟨b, off, none⟩ ∧ b < w.heap.size ∧ ∀ i, i < len → w.cell? ⟨b, off + i, none⟩ = some (.int .i64 (zs.getD i 0))
theorem Rd.below {w w' : World} {A : Option Addr} {len : Nat} {zs : List Int} (h : Rd w A len zs) (hb : Below w.heap.size w w') : Rd w' A len zs := fun hl => by
  obtain ⟨b, off, rfl, hbl, hc⟩ := h hl
  exact ⟨b, off, rfl, Nat.lt_of_lt_of_le hbl hb.size, fun i hi => (hb.cell (p := ⟨b, _, none⟩) hbl).trans (hc i hi)⟩

theorem next_none (A : Option Addr) (len cap : Nat) (n : Int) (h : n < 0 ∨ len = 0) (w : World) :
    Calls Try.prog 18 #[.slice A len cap, .int .i64 n] w fun e w' => e = .returned (.int .i64 (-1)) ∧ w' = w := by
  by_cases h0 : n < 0
  · go_enter Try.func18, Try.ntmps18
    go_wp2
    go_ret
    exact ⟨rfl, rfl⟩
  · obtain rfl : len = 0 := by omega
    go_enter Try.func18, Try.ntmps18
    go_wp2
    go_ret
    exact ⟨rfl, rfl⟩

theorem mod_facts (n : Int) (len : Nat) (h0 : 0 ≤ n) (hl : 0 < len) (hm : len ≤ 100) : wrap64 (n.tmod (len : Int)) = n % (len : Int) ∧ 0 ≤ n % (len : Int) ∧ n % (len : Int) < (len : Int) ∧ ∃ k : Nat, n % (len : Int) = (k : Int) ∧ k < len := by
  have h1 : 0 ≤ n % (len : Int) := Int.emod_nonneg _ (by omega)
  have h2 : n % (len : Int) < (len : Int) := Int.emod_lt_of_pos _ (by omega)
  refine ⟨by rw [Int.tmod_eq_emod_of_nonneg h0]; exact IntWalk.wrap64_in _ ⟨by omega, by omega⟩, h1, h2, (n % (len : Int)).toNat, by omega, by omega⟩

set_option maxHeartbeats 1000000 in
theorem next_some (A : Option Addr) (len cap : Nat) (zs : List Int) (n : Int) (k : Nat) (h0 : 0 ≤ n) (hl : 0 < len) (hm : len ≤ 100) (hk : n % (len : Int) = (k : Int)) (hkl : k < len) (w : World) (hr : Rd w A len zs) :
    Calls Try.prog 18 #[.slice A len cap, .int .i64 n] w fun e w' => e = .returned (.int .i64 (zs.getD k 0)) ∧ ∃ q, w' = w.drewN q := by
  obtain ⟨b, off, rfl, hbl, hc⟩ := hr hl
  have hc := hc k hkl
  have hp : ¬ (len : Int) = 0 := by omega
  have hpb : ((len : Int) == 0) = false := by simpa using hp
  have hk0 : (0 : Int) ≤ (k : Int) := by omega
  have hk1 : (k : Int) < (len : Int) := by omega
  clear hr
  go_enter Try.func18, Try.ntmps18
  go_wp2
  go_ret
  exact ⟨rfl, 0, rfl⟩

set_option maxHeartbeats 1000000 in
theorem awake_any (w : World) : Calls Try.prog 6 #[] w fun e w' => e = .returned (.bool true) ∧ Below w.heap.size w w' := by
  have hr : Rd (w.alloc (.cells #[.int .i64 4, .int .i64 7, .int .i64 9] 3)) (some ⟨w.heap.size, 0, none⟩) 3 [4, 7, 9] := fun _ => ⟨_, _, rfl, by simp, fun i hi => by
    rw [Nat.zero_add]
    match i, hi with
    | 0, _ => simp
    | 1, _ => simp
    | 2, _ => simp⟩
  have HR := Lib.hid hr
  clear hr
  go_enter Try.func6, Try.ntmps6
  go_wp2_with fail
  refine (next_some _ 3 3 [4, 7, 9] 5 2 (by decide) (by decide) (by decide) (by decide) (by decide) _ HR.out).mono ?_
  rintro e w1 ⟨rfl, q, rfl⟩
  go_wp2_with fail
  refine (order33 _).mono ?_
  rintro e w2 ⟨A, c, rfl, hown, hb⟩
  obtain ⟨u, rfl, hu⟩ := own_at hown (by decide)
  have hbw : Below w.heap.size w w2 := (below_drewN ((Below.refl _ _).alloc (Nat.le_refl _) _) q).trans (hb.mono (by simp))
  have a0 : w2.cell? ⟨u, 0, none⟩ = some (.int .i64 1) := hown.cellAt 0 (by decide)
  have a1 : w2.cell? ⟨u, 1, none⟩ = some (.int .i64 2) := hown.cellAt 1 (by decide)
  have a2 : w2.cell? ⟨u, 2, none⟩ = some (.int .i64 0) := hown.cellAt 2 (by decide)
  have hul := World.block_lt_of_cell? w2 _ a0
  clear hown hb HR
  have hs := same_eq (some ⟨u, 0, none⟩) (some ⟨w2.heap.size, 0, none⟩) 3 c 3 [1, 2, 0] (by decide) (w2.alloc (.cells #[.int .i64 1, .int .i64 2, .int .i64 0] 3)) (fun _ => ⟨_, _, rfl, fun i hi => by
      rw [Nat.zero_add, World.cell?_alloc_lt w2 _ _ (by exact hul)]
      match i, hi with
      | 0, _ => exact a0
      | 1, _ => exact a1
      | 2, _ => exact a2⟩) (fun _ => ⟨_, _, rfl, fun i hi => by
      rw [Nat.zero_add]
      match i, hi with
      | 0, _ => simp
      | 1, _ => simp
      | 2, _ => simp⟩)
  have HS := Lib.hid hs
  clear hs a0 a1 a2
  go_wp2_with fail
  refine HS.out.mono ?_
  rintro e w3 ⟨rfl, q3, rfl⟩
  go_wp2
  go_ret
  exact ⟨rfl, below_drewN (hbw.alloc hbw.size _) q3⟩
end Go.Proofs.Ytnopmeadliaiiaa.picksNext
