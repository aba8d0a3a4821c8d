/- Events that came in as a slice: opened. -/
import Derived.Test.YthamemaomedldaaEvOpen
import Derived.Test.YthamemaomedldaaEvRows2
import Derived.ChangeSlices
namespace Go.Proofs.Ythamemaomedldaa.Ev
open Go Go.RowKit Go.Deep Go.WideShapes

section
variable {H : Type} {enc : TypeId × Value → H} {w : World} {base : Nat} {spare : Nat → Bool} {held : Bool}
theorem add_addr8 (b off k : Nat) : (⟨b, off, none⟩ : Addr).add k = ⟨b, off + k, none⟩ := by unfold Addr.add; by_cases h : k = 0 <;> simp [h]
set_option maxRecDepth 100000 in
theorem open_evs {r : Reach} {b0 : Nat} {v : Value} {d : DataW H} {p : List MemPlace} (ok : Value.okWide Try.prog w r b0 22 v) (h : DataW.Trod enc Try.prog w base spare held 22 v d p) :
    ∃ A len cap qs, v = .slice A len cap ∧ len ≤ maxLen ∧ Rd w A len qs ∧ ∀ q ∈ qs, q.wf := by
  obtain ⟨a0, len, cap, rfl⟩ := okWide_slice Try.underlying22 ok
  obtain ⟨fuel, hf⟩ := h
  rcases open_slice Try.underlying22 hf with ⟨hcs, _⟩ | ⟨a, len', cap', m, n, D, Pl, hcs, hb, hl, hm, hmm, hx, hi⟩
  · simp [Value.cells] at hcs
    obtain ⟨rfl, rfl, rfl⟩ := hcs
    exact ⟨none, 0, 0, [], rfl, by decide, ⟨rfl, fun h => absurd h (by omega)⟩, fun q hq => by simp at hq⟩
  · simp [Value.cells] at hcs
    obtain ⟨rfl, rfl, rfl⟩ := hcs
    have hml : len ≤ m := by rw [hmm]; split <;> omega
    have hex : ∀ i : Nat, ∃ q : E8, q.wf ∧ (i < len → w.cells? base (a.add (i * 8)) 8 = some q.cells.toList) := fun i => by
      by_cases hil : i < len
      · obtain ⟨cs', hc, ht⟩ := hi i (by omega)
        rw [cells_event] at hc
        obtain ⟨q, hq, hok⟩ := open_event ht
        exact ⟨q, hok, fun _ => hq ▸ hc⟩
      · exact ⟨⟨0, 0, 0, 0, 0, 0, .empty, .empty⟩, ⟨⟨by decide, by decide⟩, by decide, by decide, by decide, by decide, by decide⟩, fun h => absurd h hil⟩
    obtain ⟨Q, hQ⟩ := Classical.axiomOfChoice hex
    refine ⟨some a, len, cap, (List.range len).map Q, rfl, by omega, ⟨by simp, fun hlen => ?_⟩, fun q hq => ?_⟩
    · obtain ⟨b, off, spot⟩ := a
      have hspot : spot = none := by
        have h1 := (World.cells?_some ((hQ 0).2 hlen)).2.2 0 (by decide)
        simpa [Addr.add] using World.cell?_spot (h1.trans rfl)
      subst hspot
      have h0 := (World.cells?_some ((hQ 0).2 hlen)).2.2 0 (by decide)
      refine ⟨b, off, rfl, ?_, fun i hi' j v hv => ?_⟩
      · have := World.block_lt_of_cell? w _ (h0.trans rfl)
        simpa [Addr.add] using this
      · have hil : i < len := hi'
        have h2 : ((List.range len).map Q).getD i e0 = Q i := by
          rw [List.getD_eq_getElem?_getD, List.getElem?_eq_getElem (by simpa using hil)]; simp
        rw [h2] at hv
        have hj : j < 8 := by
          have := (Array.getElem?_eq_some_iff.1 hv).1
          simpa [E8.cells] using this
        have h1 := (World.cells?_some ((hQ i).2 hil)).2.2 j hj
        rw [Array.getElem?_toList, hv] at h1
        rw [add_addr8, add_addr8] at h1
        exact h1
    · obtain ⟨i, _, rfl⟩ := List.mem_map.1 hq
      exact (hQ i).1
end
end Go.Proofs.Ythamemaomedldaa.Ev
