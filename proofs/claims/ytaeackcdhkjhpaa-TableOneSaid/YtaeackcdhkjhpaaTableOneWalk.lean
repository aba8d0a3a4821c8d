/- 'TableOne' holds for every input, with no condition: the walk over what came in. -/
import Derived.Test.YtaeackcdhkjhpaaTableOne
import Derived.Test.YtaeackcdhkjhpaaKeyOpenM
import Derived.OpenShut
import Derived.ProofKit
import Derived.ChangeSlices
namespace Go.Proofs.Ytaeackcdhkjhpaa.tableOne
open Go.RowKit Go.ChangeShapes Go.WideShapes

set_option maxRecDepth 100000 in
theorem cells_int : Try.prog.cellsOf 3 = 1 := by kernel_rfl
theorem add_addr (b off k : Nat) : (⟨b, off, none⟩ : Addr).add k = ⟨b, off + k, none⟩ := by unfold Addr.add; by_cases h : k = 0 <;> simp [h]

set_option maxRecDepth 100000 in
theorem open_nums {H : Type} {enc : TypeId × Value → H} {spare : Nat → Bool} {held : Bool} {w : World} {base b0 : Nat} {r : Reach} {v : Value} {d : DataW H} {p : List MemPlace}
    (ok : Value.okWide Try.prog w r b0 25 v) (h : DataW.Trod enc Try.prog w base spare held 25 v d p) : ∃ (A : Option Addr) (len cap : Nat) (zs : List Int), v = .slice A len cap ∧ len ≤ maxLen ∧ (0 < len → ∃ b off, A = some ⟨b, off, none⟩ ∧ b < w.heap.size ∧ ∀ i, i < len → w.cell? ⟨b, off + i, none⟩ = some (.int .i64 (zs.getD i 0))) := by
  obtain ⟨a0, len, cap, rfl⟩ := okWide_slice Try.underlying25 ok
  obtain ⟨fuel, hf⟩ := h
  rcases open_ints Try.underlying25 Try.underlying3 cells_int hf with ⟨hcs, _⟩ | ⟨a, len', cap', zs, hcs, hb, hl, hm, hzl, hwf, hc, hx⟩
  · simp [Value.cells] at hcs
    obtain ⟨rfl, rfl, rfl⟩ := hcs
    exact ⟨none, 0, 0, [], rfl, by decide, fun h => absurd h (by omega)⟩
  · simp [Value.cells] at hcs
    obtain ⟨rfl, rfl, rfl⟩ := hcs
    have hlz : len ≤ zs.length := by rw [hzl]; split <;> omega
    refine ⟨some a, len, cap, zs, rfl, by omega, fun hlen => ?_⟩
    obtain ⟨b, off, spot⟩ := a
    have hspot : spot = none := by
      have h1 := hc 0 (by omega)
      simpa [Addr.add] using World.cell?_spot h1
    subst hspot
    refine ⟨b, off, rfl, ?_, fun i hi => ?_⟩
    · have := World.block_lt_of_cell? w _ (hc 0 (by omega))
      simpa [Addr.add] using this
    · have := hc i (by omega)
      rw [add_addr] at this
      exact this

set_option maxRecDepth 100000 in
theorem walk {H : Type} {enc : TypeId × Value → H} {spare : Nat → Bool} {held : Bool} {w : World} {base : Nat} {v u : Value} {d d' : DataW H} {p p' : List MemPlace}
    (ok : Value.okWide Try.prog w .any base 24 v) (h : DataW.Trod enc Try.prog w 0 spare held 24 v d p)
    (ok' : Value.okWide Try.prog w .any base 25 u) (h' : DataW.Trod enc Try.prog w 0 spare held 25 u d' p') (a : Int) (wf : (Lit.int .u8 a).wf = true) :
    Calls Try.prog 3 #[v, u, .int .u8 a] w fun e w' => e = .returned (.bool true) ∧ Below w.heap.size w w' := by
  obtain ⟨A, len, cap, zs, rfl, hl, hr⟩ := open_nums ok' h'
  obtain ⟨cs, rfl, _⟩ := okWide_struct Try.underlying24 ok
  obtain ⟨fuel, hf⟩ := h
  obtain ⟨k, hk, hcs⟩ := Mk.open_key (cs := cs.toList) hf
  obtain rfl : cs = #[.int .i64 k.c, .int .i64 k.f, .int .u64 k.s] := Array.toList_inj.1 hcs
  simp [Lit.wf, IntKind.min, IntKind.max, IntKind.bits, IntKind.signed] at wf
  by_cases hc : 40 < len
  · exact Mk.law_long k A len cap a hc w
  · exact Mk.law0 k ⟨hk.2.2.1, by have := hk.2.2.2; omega⟩ A len cap zs a (by omega) (by omega) (by omega) w hr
end Go.Proofs.Ytaeackcdhkjhpaa.tableOne
