/- 'PoolOrder': its arguments opened. -/
import Derived.Test.YtjjomlideieofaaPoolOrder
import Derived.ChangeSlices
namespace Go.Proofs.Ytjjomlideieofaa.Msg
open Go.RowKit Go.Deep Go.WideShapes
section
variable {H : Type} {enc : TypeId × Value → H} {w : World} {base : Nat} {spare : Nat → Bool} {held : Bool}

theorem q0_ok (w : World) : (⟨0, 0, 0, none, 0, 0, []⟩ : T4).ok w := ⟨Nat.le_refl _, by decide, ⟨rfl, fun h => absurd h (Nat.lt_irrefl 0)⟩, by decide, by decide⟩

set_option maxRecDepth 100000 in
theorem open_txs {r : Reach} {b0 : Nat} {v : Value} {d : DataW H} {p : List MemPlace} (ok : Value.okWide Try.prog w r b0 34 v) (h : DataW.Trod enc Try.prog w base spare held 34 v d p) :
    ∃ A len cap qs, v = .slice A len cap ∧ len ≤ maxLen ∧ RdX w A len qs ∧ ∀ q ∈ qs, q.ok w := by
  obtain ⟨a0, len, cap, rfl⟩ := okWide_slice Try.underlying34 ok
  obtain ⟨fuel, hf⟩ := h
  rcases open_slice Try.underlying34 hf with ⟨hcs, _⟩ | ⟨a, len', cap', m, n, D, Pl, hcs, hb, hl, hm, hmm, hx, hi⟩
  · simp [Value.cells] at hcs
    obtain ⟨rfl, rfl, rfl⟩ := hcs
    exact ⟨none, 0, 0, [], rfl, by decide, ⟨rfl, fun h => absurd h (by omega)⟩, fun q hq => by simp at hq⟩
  · simp [Value.cells] at hcs
    obtain ⟨rfl, rfl, rfl⟩ := hcs
    have hml : len ≤ m := by rw [hmm]; split <;> omega
    have hex : ∀ i : Nat, ∃ q : T4, q.ok w ∧ (i < len → w.cells? base (a.add (i * 4)) 4 = some q.cells.toList) := fun i => by
      by_cases hil : i < len
      · obtain ⟨cs', hc, ht⟩ := hi i (by omega)
        rw [cells_tx] at hc
        obtain ⟨q, hq, hok⟩ := open_tx ht
        exact ⟨q, hok, fun _ => hq ▸ hc⟩
      · exact ⟨_, q0_ok w, fun h => absurd h hil⟩
    obtain ⟨Q, hQ⟩ := Classical.axiomOfChoice hex
    refine ⟨some a, len, cap, (List.range len).map Q, rfl, by omega, ⟨by simp, fun hlen => ?_⟩, fun q hq => ?_⟩
    · obtain ⟨b, off, spot⟩ := a
      have hspot : spot = none := by
        have h1 := (World.cells?_some ((hQ 0).2 hlen)).2.2 0 (by decide)
        simpa [Addr.add] using World.cell?_spot (h1.trans rfl)
      subst hspot
      have h0 := (World.cells?_some ((hQ 0).2 hlen)).2.2 0 (by decide)
      refine ⟨b, off, rfl, ?_, fun i hi' j v hv => ?_⟩
      · have := World.block_lt_of_cell? w _ (h0.trans rfl)
        simpa [Addr.add] using this
      · have hil : i < len := by simpa using hi'
        have hj : j < 4 := by
          have := (Array.getElem?_eq_some_iff.1 hv).1
          simpa [T4.cells] using this
        have h1 := (World.cells?_some ((hQ i).2 hil)).2.2 j hj
        have h2 : ((List.range len).map Q)[i] = Q i := by simp
        rw [h2] at hv
        rw [Array.getElem?_toList, hv] at h1
        rw [add_addr, add_addr] at h1
        exact h1
    · obtain ⟨i, _, rfl⟩ := List.mem_map.1 hq
      exact (hQ i).1
end
end Go.Proofs.Ytjjomlideieofaa.Msg
namespace Go.Proofs.Ytjjomlideieofaa.poolOrder
open Go Go.RowKit Go.Deep Go.WideShapes Go.ChangeShapes Msg

set_option maxRecDepth 100000 in
theorem open_nums {H : Type} {enc : TypeId × Value → H} {spare : Nat → Bool} {held : Bool} {w : World} {base b0 : Nat} {r : Reach} {v : Value} {d : DataW H} {p : List MemPlace}
    (ok : Value.okWide Try.prog w r b0 51 v) (h : DataW.Trod enc Try.prog w base spare held 51 v d p) : ∃ A len cap zs, v = .slice A len cap ∧ len ≤ maxLen ∧ Ri w A len zs := by
  obtain ⟨a0, len, cap, rfl⟩ := okWide_slice Try.underlying51 ok
  obtain ⟨fuel, hf⟩ := h
  rcases open_ints Try.underlying51 Try.underlying3 cells_int hf with ⟨hcs, _⟩ | ⟨a, len', cap', zs, hcs, hb, hl, hm, hzl, hwf, hc, hx⟩
  · simp [Value.cells] at hcs
    obtain ⟨rfl, rfl, rfl⟩ := hcs
    exact ⟨none, 0, 0, [], rfl, by decide, fun h => absurd h (by omega)⟩
  · simp [Value.cells] at hcs
    obtain ⟨rfl, rfl, rfl⟩ := hcs
    have hlz : len ≤ zs.length := by rw [hzl]; split <;> omega
    refine ⟨some a, len, cap, zs, rfl, by omega, fun hlen => ?_⟩
    obtain ⟨b, off, spot⟩ := a
    have hspot : spot = none := by
      have h1 := hc 0 (by omega)
      simpa [Addr.add] using World.cell?_spot h1
    subst hspot
    refine ⟨b, off, rfl, ?_, fun i hi => ?_⟩
    · have := World.block_lt_of_cell? w _ (hc 0 (by omega))
      simpa [Addr.add] using this
    · have := hc i (by omega)
      rw [add_addr] at this
      exact this

set_option maxRecDepth 100000 in
theorem walk {H : Type} {enc : TypeId × Value → H} {spare spare' : Nat → Bool} {held held' : Bool} {w : World} {base base' : Nat} {v v' : Value} {d d' : DataW H} {p p' : List MemPlace}
    (ok : Value.okWide Try.prog w .any base 34 v) (h : DataW.Trod enc Try.prog w 0 spare held 34 v d p)
    (ok' : Value.okWide Try.prog w .any base' 51 v') (h' : DataW.Trod enc Try.prog w 0 spare' held' 51 v' d' p') :
    Calls Try.prog 4 #[v, v'] w fun e w' => e = .returned (.bool true) ∧ Below w.heap.size w w' := by
  obtain ⟨A, len, cap, qs, rfl, hl, hr, hq⟩ := open_txs ok h
  obtain ⟨B, n, c, zs, rfl, hn, hz⟩ := open_nums ok' h'
  unfold maxLen at hl hn
  by_cases hb : 30 < len ∨ 40 < n
  · exact law_long A B len cap n c w hb (by omega) (by omega)
  · exact law_main A B len cap n c qs zs w hr hq hz (by omega) (by omega)
end Go.Proofs.Ytjjomlideieofaa.poolOrder
