/- Pairs of uint64 that came in. -/
import Derived.Test.YtlgbendncgboiaaPairsRb
import Derived.OpenShut
import Derived.ProofKit
import Derived.Deep.Slices
import Derived.ChangeArms
namespace Go.Proofs.Ytlgbendncgboiaa.Gp
open Go Go.RowKit Go.Deep Go.WideShapes

theorem add_addr (b off k : Nat) : (⟨b, off, none⟩ : Addr).add k = ⟨b, off + k, none⟩ := by unfold Addr.add; by_cases h : k = 0 <;> simp [h]
set_option maxRecDepth 100000 in
theorem cells_pair : Try.prog.cellsOf 31 = 2 := by kernel_rfl
set_option maxRecDepth 100000 in
theorem cells_u64p : Try.prog.cellsOf 30 = 1 := by kernel_rfl

section
variable {H : Type} {enc : TypeId × Value → H} {w : World} {base : Nat} {spare : Nat → Bool} {held : Bool}
set_option maxRecDepth 100000 in
theorem open_pair {fuel : Nat} {cs : List Value} {x : DataW H × List MemPlace} (h : DataW.trod enc Try.prog w base spare held fuel 31 cs = some x) :
    ∃ q : Int × Int, cs = [.int .u64 q.1, .int .u64 q.2] ∧ Pb q := by
  obtain ⟨xs, m, _, _, hcl, hlen, hf⟩ := DataW.trod_array Try.underlying31 h
  rw [cells_pair] at hcl
  rw [cells_u64p] at hf
  have g0 := (hf 0 (by decide)).trans (List.getElem?_eq_getElem (by omega))
  have g1 := (hf 1 (by decide)).trans (List.getElem?_eq_getElem (by omega))
  obtain ⟨a0, e0, _, w0⟩ := DataW.trod_int Try.underlying30 g0
  obtain ⟨a1, e1, _, w1⟩ := DataW.trod_int Try.underlying30 g1
  refine ⟨(a0, a1), ?_, ?_⟩
  · match cs, hcl, e0, e1 with
    | [b0, b1], _, e0, e1 => simp at e0 e1; subst e0 e1; rfl
  · simp [Lit.wf, IntKind.min, IntKind.max, IntKind.signed, IntKind.bits] at w0 w1
    unfold Pb
    dsimp only
    omega

set_option maxRecDepth 100000 in
theorem open_pairs {r : Reach} {b0 : Nat} {v : Value} {d : DataW H} {p : List MemPlace} (ok : Value.okWide Try.prog w r b0 22 v) (h : DataW.Trod enc Try.prog w base spare held 22 v d p) :
    ∃ A len cap zs, v = .slice A len cap ∧ len ≤ maxLen ∧ RpU w A len zs ∧ ∀ i, Pb (zs.getD i (0, 0)) := by
  obtain ⟨a0, len, cap, rfl⟩ := okWide_slice Try.underlying22 ok
  obtain ⟨fuel, hf⟩ := h
  rcases open_slice Try.underlying22 hf with ⟨hcs, _⟩ | ⟨a, len', cap', m, n, D, Pl, hcs, hb, hl, hm, hmm, hx, hi⟩
  · simp [Value.cells] at hcs
    obtain ⟨rfl, rfl, rfl⟩ := hcs
    exact ⟨none, 0, 0, [], rfl, by decide, fun h => absurd h (by omega), fun i => by simp [Pb]⟩
  · simp [Value.cells] at hcs
    obtain ⟨rfl, rfl, rfl⟩ := hcs
    have hml : len ≤ m := by rw [hmm]; split <;> omega
    have hex : ∀ i : Nat, ∃ q : Int × Int, Pb q ∧ (i < len → w.cells? base (a.add (i * 2)) 2 = some [.int .u64 q.1, .int .u64 q.2]) := fun i => by
      by_cases hil : i < len
      · obtain ⟨cs', hc, ht⟩ := hi i (by omega)
        rw [cells_pair] at hc
        obtain ⟨q, hq, hp⟩ := open_pair ht
        exact ⟨q, hp, fun _ => hq ▸ hc⟩
      · exact ⟨(0, 0), by simp [Pb], fun h => absurd h hil⟩
    obtain ⟨Q, hQ0⟩ := Classical.axiomOfChoice hex
    have hQ := fun i => (hQ0 i).2
    refine ⟨some a, len, cap, (List.range len).map Q, rfl, by omega, fun hlen => ?_, fun i => ?_⟩
    rotate_left
    · by_cases hil : i < len
      · have h2 : ((List.range len).map Q).getD i (0, 0) = Q i := by simp [hil]
        rw [h2]; exact (hQ0 i).1
      · have h2 : ((List.range len).map Q).getD i (0, 0) = (0, 0) := by simp [hil]
        rw [h2]; simp [Pb]
    obtain ⟨b, off, spot⟩ := a
    have hspot : spot = none := by
      have h1 := (World.cells?_some (hQ 0 hlen)).2.2 0 (by decide)
      simpa [Addr.add] using World.cell?_spot (h1.trans rfl)
    subst hspot
    have h0 := (World.cells?_some (hQ 0 hlen)).2.2 0 (by decide)
    refine ⟨b, off, rfl, ?_, fun i hil => ?_⟩
    · have := World.block_lt_of_cell? w _ (h0.trans rfl)
      simpa [Addr.add] using this
    · have h2 : ((List.range len).map Q).getD i (0, 0) = Q i := by simp [hil]
      rw [h2]
      have h1 := (World.cells?_some (hQ i hil)).2.2 0 (by decide)
      have h3 := (World.cells?_some (hQ i hil)).2.2 1 (by decide)
      rw [add_addr, add_addr] at h1 h3
      exact ⟨h1, h3⟩
end
end Go.Proofs.Ytlgbendncgboiaa.Gp
