/- Numbers that came in: rows of uint64. -/
import Derived.Test.YtlgbendncgboiaaNumsRb
import Derived.OpenShut
import Derived.ProofKit
import Derived.ChangeSlices
namespace Go.Proofs.Ytlgbendncgboiaa.Gp
open Go Go.RowKit Go.ChangeShapes Go.WideShapes

set_option maxRecDepth 100000 in
theorem cells_u64 : Try.prog.cellsOf 30 = 1 := by kernel_rfl
set_option maxRecDepth 100000 in
theorem open_u64s {H : Type} {enc : TypeId × Value → H} {spare : Nat → Bool} {held : Bool} {w : World} {base b0 : Nat} {r : Reach} {v : Value} {d : DataW H} {p : List MemPlace}
    (ok : Value.okWide Try.prog w r b0 27 v) (h : DataW.Trod enc Try.prog w base spare held 27 v d p) : ∃ A len cap zs, v = .slice A len cap ∧ len ≤ maxLen ∧ RbK .u64 w A len zs ∧ ∀ i, 0 ≤ zs.getD i 0 ∧ zs.getD i 0 ≤ 18446744073709551615 := by
  obtain ⟨a0, len, cap, rfl⟩ := okWide_slice Try.underlying27 ok
  obtain ⟨fuel, hf⟩ := h
  rcases open_ints Try.underlying27 Try.underlying30 cells_u64 hf with ⟨hcs, _⟩ | ⟨a, len', cap', zs, hcs, hb, hl, hm, hzl, _, hc, hwf⟩
  · simp [Value.cells] at hcs
    obtain ⟨rfl, rfl, rfl⟩ := hcs
    exact ⟨none, 0, 0, [], rfl, by decide, fun h => absurd h (by omega), fun i => by simp⟩
  · simp [Value.cells] at hcs
    obtain ⟨rfl, rfl, rfl⟩ := hcs
    have hlz : len ≤ zs.length := by rw [hzl]; split <;> omega
    refine ⟨some a, len, cap, zs, rfl, by omega, fun hlen => ?_, fun i => ?_⟩
    · obtain ⟨b, off, spot⟩ := a
      have hspot : spot = none := by
        have h1 := hc 0 (by omega)
        simpa [Addr.add] using World.cell?_spot h1
      subst hspot
      refine ⟨b, off, rfl, ?_, fun i hi => ?_⟩
      · have := World.block_lt_of_cell? w _ (hc 0 (by omega))
        simpa [Addr.add] using this
      · have := hc i (by omega)
        rw [Addr.add_lit] at this
        exact this
    · by_cases hi : i < zs.length
      · have h2 := hwf zs[i] (List.getElem_mem hi)
        simp [Lit.wf, IntKind.min, IntKind.max, IntKind.signed, IntKind.bits] at h2
        have e : zs.getD i 0 = zs[i] := by simp [List.getD_eq_getElem?_getD, hi]
        rw [e]
        omega
      · have e : zs.getD i 0 = 0 := by simp [List.getD_eq_getElem?_getD, hi]
        rw [e]
        omega
end Go.Proofs.Ytlgbendncgboiaa.Gp
