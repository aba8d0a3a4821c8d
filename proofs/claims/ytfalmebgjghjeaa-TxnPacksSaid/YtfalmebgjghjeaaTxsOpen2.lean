/- Transactions that came in as a slice: opened, with the bounds of their messages' numbers. -/
import Derived.Test.YtfalmebgjghjeaaTxOpen2
import Derived.Test.YtfalmebgjghjeaaSameAll
import Derived.ChangeSlices
namespace Go.Proofs.Ytfalmebgjghjeaa.Msg
open Go Go.RowKit Go.Deep Go.WideShapes

section
variable {H : Type} {enc : TypeId × Value → H} {w : World} {base : Nat} {spare : Nat → Bool} {held : Bool}
theorem q0_okT (w : World) : (⟨0, 0, 0, none, 0, 0, []⟩ : T4).ok w := ⟨Nat.le_refl _, by decide, ⟨rfl, fun h => absurd h (Nat.lt_irrefl 0)⟩, by decide, by decide⟩
set_option maxRecDepth 100000 in
theorem open_tx_wfl {fuel : Nat} {cs : List Value} {x : DataW H × List MemPlace} (h : DataW.trod enc Try.prog w base spare held fuel 29 cs = some x) : ∃ t : T4, cs = t.cells.toList ∧ t.ok w ∧ ∀ m ∈ t.ms, m.wf := by
  obtain ⟨xs, n, _, _, hcl, hlen, hf⟩ := DataW.trod_struct Try.underlying29 h
  rw [cells_tx] at hcl
  obtain ⟨y0, h0⟩ := field_at hlen hf 0 _ rfl rfl
  obtain ⟨y1, h1⟩ := field_at hlen hf 1 _ rfl rfl
  obtain ⟨y2, h2⟩ := field_at hlen hf 2 _ rfl rfl
  obtain ⟨y3, h3⟩ := field_at hlen hf 3 _ rfl rfl
  obtain ⟨a0, e0, _, w0⟩ := DataW.trod_int Try.underlying3 h0
  obtain ⟨a1, e1, _, w1⟩ := DataW.trod_int Try.underlying3 h1
  obtain ⟨a2, e2, _, w2⟩ := DataW.trod_int Try.underlying26 h2
  obtain ⟨A, len, cap, ms, e3, q1, q2, q3, q4⟩ := open_msgs_wf h3
  have w2' : 0 ≤ a2 ∧ a2 < 18446744073709551616 := by
    simp [Lit.wf, IntKind.min, IntKind.max, IntKind.bits, IntKind.signed] at w2
    omega
  refine ⟨⟨a0, a1, a2, A, len, cap, ms⟩, ?_, ⟨q1, q2, q3, w2'.1, w2'.2⟩, q4⟩
  have e0' : (cs.drop 0).take 1 = [.int .i64 a0] := e0
  have e1' : (cs.drop 1).take 1 = [.int .i64 a1] := e1
  have e2' : (cs.drop 2).take 1 = [.int .u64 a2] := e2
  have e3' : (cs.drop 3).take 1 = [.slice A len cap] := e3
  clear h hf
  match cs, hcl with
  | [b0, b1, b2, b3], _ =>
    simp at e0' e1' e2' e3'
    subst e0' e1' e2' e3'
    rfl
set_option maxRecDepth 100000 in
theorem open_txs_wf {r : Reach} {b0 : Nat} {v : Value} {d : DataW H} {p : List MemPlace} (ok : Value.okWide Try.prog w r b0 22 v) (h : DataW.Trod enc Try.prog w base spare held 22 v d p) :
    ∃ A len cap qs, v = .slice A len cap ∧ len ≤ maxLen ∧ RdX w A len qs ∧ ∀ q ∈ qs, q.ok w ∧ ∀ m ∈ q.ms, m.wf := by
  obtain ⟨a0, len, cap, rfl⟩ := okWide_slice Try.underlying22 ok
  obtain ⟨fuel, hf⟩ := h
  rcases open_slice Try.underlying22 hf with ⟨hcs, _⟩ | ⟨a, len', cap', m, n, D, Pl, hcs, hb, hl, hm, hmm, hx, hi⟩
  · simp [Value.cells] at hcs
    obtain ⟨rfl, rfl, rfl⟩ := hcs
    exact ⟨none, 0, 0, [], rfl, by decide, ⟨rfl, fun h => absurd h (by omega)⟩, fun q hq => by simp at hq⟩
  · simp [Value.cells] at hcs
    obtain ⟨rfl, rfl, rfl⟩ := hcs
    have hml : len ≤ m := by rw [hmm]; split <;> omega
    have hex : ∀ i : Nat, ∃ q : T4, (q.ok w ∧ ∀ m ∈ q.ms, m.wf) ∧ (i < len → w.cells? base (a.add (i * 4)) 4 = some q.cells.toList) := fun i => by
      by_cases hil : i < len
      · obtain ⟨cs', hc, ht⟩ := hi i (by omega)
        rw [cells_tx] at hc
        obtain ⟨q, hq, hok⟩ := open_tx_wfl ht
        exact ⟨q, hok, fun _ => hq ▸ hc⟩
      · exact ⟨⟨0, 0, 0, none, 0, 0, []⟩, ⟨q0_okT w, fun m hm => by simp at hm⟩, fun h => absurd h hil⟩
    obtain ⟨Q, hQ⟩ := Classical.axiomOfChoice hex
    refine ⟨some a, len, cap, (List.range len).map Q, rfl, by omega, ⟨by simp, fun hlen => ?_⟩, fun q hq => ?_⟩
    · obtain ⟨b, off, spot⟩ := a
      have hspot : spot = none := by
        have h1 := (World.cells?_some ((hQ 0).2 hlen)).2.2 0 (by decide)
        simpa [Addr.add] using World.cell?_spot (h1.trans rfl)
      subst hspot
      have h0 := (World.cells?_some ((hQ 0).2 hlen)).2.2 0 (by decide)
      refine ⟨b, off, rfl, ?_, fun i hi' j v hv => ?_⟩
      · have := World.block_lt_of_cell? w _ (h0.trans rfl)
        simpa [Addr.add] using this
      · have hil : i < len := by simpa using hi'
        have hj : j < 4 := by
          have := (Array.getElem?_eq_some_iff.1 hv).1
          simpa [T4.cells] using this
        have h1 := (World.cells?_some ((hQ i).2 hil)).2.2 j hj
        have h2 : ((List.range len).map Q)[i] = Q i := by simp
        rw [h2] at hv
        rw [Array.getElem?_toList, hv] at h1
        rw [add_addr, add_addr] at h1
        exact h1
    · obtain ⟨i, _, rfl⟩ := List.mem_map.1 hq
      exact (hQ i).1
end
end Go.Proofs.Ytfalmebgjghjeaa.Msg
