/- 'DiceThrows' holds for every input, with no condition: the walk over what came in. -/
import Derived.Test.YticcobciafbleaaDiceThrows
import Derived.OpenShut
import Derived.ProofKit
import Derived.ChangeSlices
namespace Go.Proofs.Yticcobciafbleaa.diceThrows
open Go.RowKit Dice Go.ChangeShapes Go.WideShapes

set_option maxHeartbeats 1000000 in
theorem walk_long (seed : Int) (A : Option Addr) (len cap : Nat) (h : 60 < len) (w : World) :
    Calls Try.prog 14 #[.int .u64 seed, .slice A len cap] w fun e w' => e = .returned (.bool true) ∧ Below w.heap.size w w' := by
  have hp : (60 : Int) < (len : Int) := by omega
  go_enter Try.func14, Try.ntmps14
  go_wp2_with fail
  refine (awake_any _).mono ?_
  rintro e w1 ⟨rfl, hb⟩
  go_wp2
  go_ret
  exact ⟨rfl, hb⟩

set_option maxRecDepth 100000 in
theorem cells_int : Try.prog.cellsOf 3 = 1 := by kernel_rfl
theorem add_addr (b off k : Nat) : (⟨b, off, none⟩ : Addr).add k = ⟨b, off + k, none⟩ := by unfold Addr.add; by_cases h : k = 0 <;> simp [h]

set_option maxRecDepth 100000 in
theorem open_nums {H : Type} {enc : TypeId × Value → H} {spare : Nat → Bool} {held : Bool} {w : World} {base b0 : Nat} {r : Reach} {v : Value} {d : DataW H} {p : List MemPlace}
    (ok : Value.okWide Try.prog w r b0 45 v) (h : DataW.Trod enc Try.prog w base spare held 45 v d p) : ∃ A len cap zs, v = .slice A len cap ∧ len ≤ maxLen ∧ Rd w A len zs := by
  obtain ⟨a0, len, cap, rfl⟩ := okWide_slice Try.underlying45 ok
  obtain ⟨fuel, hf⟩ := h
  rcases open_ints Try.underlying45 Try.underlying3 cells_int hf with ⟨hcs, _⟩ | ⟨a, len', cap', zs, hcs, hb, hl, hm, hzl, hwf, hc, hx⟩
  · simp [Value.cells] at hcs
    obtain ⟨rfl, rfl, rfl⟩ := hcs
    exact ⟨none, 0, 0, [], rfl, by decide, fun h => absurd h (by omega)⟩
  · simp [Value.cells] at hcs
    obtain ⟨rfl, rfl, rfl⟩ := hcs
    have hlz : len ≤ zs.length := by rw [hzl]; split <;> omega
    refine ⟨some a, len, cap, zs, rfl, by omega, fun hlen => ?_⟩
    obtain ⟨b, off, spot⟩ := a
    have hspot : spot = none := by
      have h1 := hc 0 (by omega)
      simpa [Addr.add] using World.cell?_spot h1
    subst hspot
    refine ⟨b, off, rfl, ?_, fun i hi => ⟨?_, ?_⟩⟩
    · have := World.block_lt_of_cell? w _ (hc 0 (by omega))
      simpa [Addr.add] using this
    · have := hc i (by omega)
      rw [add_addr] at this
      exact this
    · have hi' : i < zs.length := by omega
      have hmem : zs.getD i 0 ∈ zs := by
        rw [List.getD_eq_getElem?_getD, List.getElem?_eq_getElem hi']
        exact List.getElem_mem hi'
      exact (bounds_i64 (hx _ hmem)).2

set_option maxRecDepth 100000 in
theorem walk {H : Type} {enc : TypeId × Value → H} {spare : Nat → Bool} {held : Bool} {w : World} {base : Nat} {v : Value} {d : DataW H} {p : List MemPlace} (seed : Int) (_ : (Lit.int .u64 seed).wf = true)
    (ok : Value.okWide Try.prog w .any base 45 v) (h : DataW.Trod enc Try.prog w 0 spare held 45 v d p) :
    Calls Try.prog 14 #[.int .u64 seed, v] w fun e w' => e = .returned (.bool true) ∧ Below w.heap.size w w' := by
  obtain ⟨A, len, cap, zs, rfl, hl, hr⟩ := open_nums ok h
  by_cases hc : 60 < len
  · exact walk_long seed A len cap hc w
  · exact walk_few seed A len cap zs (by omega) w hr
end Go.Proofs.Yticcobciafbleaa.diceThrows
