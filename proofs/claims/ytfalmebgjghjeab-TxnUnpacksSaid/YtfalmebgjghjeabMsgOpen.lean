/- Messages that came in: opened to their fields. -/
import Derived.Test.YtfalmebgjghjeabMsgOpen1
namespace Go.Proofs.Ytfalmebgjghjeab.Msg
open Go.RowKit Go.Deep Go.WideShapes

section
variable {H : Type} {enc : TypeId × Value → H} {w : World} {base : Nat} {spare : Nat → Bool} {held : Bool}
set_option maxRecDepth 100000 in
theorem open_msgs2 {r : Reach} {b0 : Nat} {v : Value} {d : DataW H} {p : List MemPlace} (ok : Value.okWide Try.prog w r b0 32 v) (h : DataW.Trod enc Try.prog w base spare held 32 v d p) :
    ∃ A len cap ms, v = .slice A len cap ∧ len ≤ cap ∧ cap ≤ maxLen ∧ Rd w A len ms := by
  obtain ⟨a0, len, cap, rfl⟩ := okWide_slice Try.underlying32 ok
  obtain ⟨fuel, hf⟩ := h
  rcases open_slice Try.underlying32 hf with ⟨hcs, _⟩ | ⟨a, len', cap', m, n, D, Pl, hcs, hb, hl, hm, hmm, hx, hi⟩
  · simp [Value.cells] at hcs
    obtain ⟨rfl, rfl, rfl⟩ := hcs
    exact ⟨none, 0, 0, [], rfl, by decide, by decide, rfl, fun h => absurd h (by omega)⟩
  · simp [Value.cells] at hcs
    obtain ⟨rfl, rfl, rfl⟩ := hcs
    have hml : len ≤ m := by rw [hmm]; split <;> omega
    have hex : ∀ i : Nat, ∃ q : M7, i < len → w.cells? base (a.add (i * 7)) 7 = some q.cells.toList := fun i => by
      by_cases hil : i < len
      · obtain ⟨cs', hc, ht⟩ := hi i (by omega)
        rw [cells_msg] at hc
        obtain ⟨q, hq, _⟩ := open_msg ht
        exact ⟨q, fun _ => hq ▸ hc⟩
      · exact ⟨⟨0, 0, 0, 0, 0, .empty, .empty⟩, fun h => absurd h hil⟩
    obtain ⟨Q, hQ⟩ := Classical.axiomOfChoice hex
    refine ⟨some a, len, cap, (List.range len).map Q, rfl, hl, hm, by simp, fun hlen => ?_⟩
    obtain ⟨b, off, spot⟩ := a
    have hspot : spot = none := by
      have h1 := (World.cells?_some (hQ 0 hlen)).2.2 0 (by decide)
      simpa [Addr.add] using World.cell?_spot (h1.trans rfl)
    subst hspot
    have h0 := (World.cells?_some (hQ 0 hlen)).2.2 0 (by decide)
    refine ⟨b, off, rfl, ?_, fun i hil j v hv => ?_⟩
    · have := World.block_lt_of_cell? w _ (h0.trans rfl)
      simpa [Addr.add] using this
    · have hj : j < 7 := (Array.getElem?_eq_some_iff.1 hv).1
      have h1 := (World.cells?_some (hQ i hil)).2.2 j hj
      have h2 : ((List.range len).map Q).getD i ⟨0, 0, 0, 0, 0, .empty, .empty⟩ = Q i := by simp [hil]
      rw [h2] at hv
      rw [Array.getElem?_toList, hv] at h1
      rw [add_addr, add_addr] at h1
      exact h1
set_option maxRecDepth 100000 in
theorem open_msgs {r : Reach} {b0 : Nat} {v : Value} {d : DataW H} {p : List MemPlace} (ok : Value.okWide Try.prog w r b0 32 v) (h : DataW.Trod enc Try.prog w base spare held 32 v d p) :
    ∃ A len cap ms, v = .slice A len cap ∧ len ≤ maxLen ∧ Rd w A len ms := by
  obtain ⟨A, len, cap, ms, hv, h1, h2, hr⟩ := open_msgs2 ok h
  exact ⟨A, len, cap, ms, hv, Nat.le_trans h1 h2, hr⟩
end
end Go.Proofs.Ytfalmebgjghjeab.Msg
