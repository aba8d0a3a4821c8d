/- Transactions that came in: opened to their fields. -/
import Derived.Test.YtfalmebgjghjeabMsgOpen
import Derived.Test.YtfalmebgjghjeabMsgRows0
namespace Go.Proofs.Ytfalmebgjghjeab.Msg
open Go Go.RowKit Go.Deep Go.WideShapes

theorem cells_msgs : Try.prog.cellsOf 32 = 1 := by kernel_rfl
theorem cells_tx : Try.prog.cellsOf 34 = 4 := by kernel_rfl

section
variable {H : Type} {enc : TypeId × Value → H} {w : World} {base : Nat} {spare : Nat → Bool} {held : Bool}
set_option maxRecDepth 100000 in
theorem open_msgs_trod {fuel : Nat} {cs : List Value} {x : DataW H × List MemPlace} (hf : DataW.trod enc Try.prog w base spare held fuel 32 cs = some x) :
    ∃ A len cap ms, cs = [.slice A len cap] ∧ len ≤ cap ∧ cap ≤ maxLen ∧ Rd w A len ms := by
  rcases open_slice Try.underlying32 hf with ⟨hcs, _⟩ | ⟨a, len', cap', m, n, D, Pl, hcs, hb, hl, hm, hmm, hx, hi⟩
  · exact ⟨none, 0, 0, [], hcs, by decide, by decide, rfl, fun h => absurd h (by omega)⟩
  · have hml : len' ≤ m := by rw [hmm]; split <;> omega
    have hex : ∀ i : Nat, ∃ q : M7, i < len' → w.cells? base (a.add (i * 7)) 7 = some q.cells.toList := fun i => by
      by_cases hil : i < len'
      · obtain ⟨cs', hc, ht⟩ := hi i (by omega)
        rw [cells_msg] at hc
        obtain ⟨q, hq, _⟩ := open_msg ht
        exact ⟨q, fun _ => hq ▸ hc⟩
      · exact ⟨⟨0, 0, 0, 0, 0, .empty, .empty⟩, fun h => absurd h hil⟩
    obtain ⟨Q, hQ⟩ := Classical.axiomOfChoice hex
    refine ⟨some a, len', cap', (List.range len').map Q, hcs, hl, hm, by simp, fun hlen => ?_⟩
    obtain ⟨b, off, spot⟩ := a
    have hspot : spot = none := by
      have h1 := (World.cells?_some (hQ 0 hlen)).2.2 0 (by decide)
      simpa [Addr.add] using World.cell?_spot (h1.trans rfl)
    subst hspot
    have h0 := (World.cells?_some (hQ 0 hlen)).2.2 0 (by decide)
    refine ⟨b, off, rfl, ?_, fun i hil j v hv => ?_⟩
    · have := World.block_lt_of_cell? w _ (h0.trans rfl)
      simpa [Addr.add] using this
    · have hj : j < 7 := (Array.getElem?_eq_some_iff.1 hv).1
      have h1 := (World.cells?_some (hQ i hil)).2.2 j hj
      have h2 : ((List.range len').map Q).getD i ⟨0, 0, 0, 0, 0, .empty, .empty⟩ = Q i := by simp [hil]
      rw [h2] at hv
      rw [Array.getElem?_toList, hv] at h1
      rw [add_addr, add_addr] at h1
      exact h1

/-- A transaction's cells, its messages. -/
structure T4 where
  side : Int
  acc : Int
  n : Int
  A : Option Addr
  len : Nat
  cap : Nat
  ms : List M7
def T4.cells (t : T4) : Array Value := #[.int .i64 t.side, .int .i64 t.acc, .int .u64 t.n, .slice t.A t.len t.cap]
/-- What a transaction that came in is. -/
def T4.ok (t : T4) (w : World) : Prop := t.len ≤ t.cap ∧ t.cap ≤ maxLen ∧ Rd w t.A t.len t.ms ∧ 0 ≤ t.n ∧ t.n < 18446744073709551616

set_option maxRecDepth 100000 in
theorem open_tx {fuel : Nat} {cs : List Value} {x : DataW H × List MemPlace} (h : DataW.trod enc Try.prog w base spare held fuel 34 cs = some x) : ∃ t : T4, cs = t.cells.toList ∧ t.ok w := by
  obtain ⟨xs, n, _, _, hcl, hlen, hf⟩ := DataW.trod_struct Try.underlying34 h
  rw [cells_tx] at hcl
  obtain ⟨y0, h0⟩ := field_at hlen hf 0 _ rfl rfl
  obtain ⟨y1, h1⟩ := field_at hlen hf 1 _ rfl rfl
  obtain ⟨y2, h2⟩ := field_at hlen hf 2 _ rfl rfl
  obtain ⟨y3, h3⟩ := field_at hlen hf 3 _ rfl rfl
  obtain ⟨a0, e0, _, w0⟩ := DataW.trod_int Try.underlying3 h0
  obtain ⟨a1, e1, _, w1⟩ := DataW.trod_int Try.underlying3 h1
  obtain ⟨a2, e2, _, w2⟩ := DataW.trod_int Try.underlying31 h2
  obtain ⟨A, len, cap, ms, e3, q1, q2, q3⟩ := open_msgs_trod h3
  have w2' : 0 ≤ a2 ∧ a2 < 18446744073709551616 := by
    simp [Lit.wf, IntKind.min, IntKind.max, IntKind.bits, IntKind.signed] at w2
    omega
  refine ⟨⟨a0, a1, a2, A, len, cap, ms⟩, ?_, q1, q2, q3, w2'.1, w2'.2⟩
  have e0' : (cs.drop 0).take 1 = [.int .i64 a0] := e0
  have e1' : (cs.drop 1).take 1 = [.int .i64 a1] := e1
  have e2' : (cs.drop 2).take 1 = [.int .u64 a2] := e2
  have e3' : (cs.drop 3).take 1 = [.slice A len cap] := e3
  match cs, hcl with
  | [b0, b1, b2, b3], _ =>
    simp at e0' e1' e2' e3'
    subst e0' e1' e2' e3'
    rfl

set_option maxRecDepth 100000 in
theorem open_tx_val {r : Reach} {b0 : Nat} {v : Value} {d : DataW H} {p : List MemPlace} (ok : Value.okWide Try.prog w r b0 34 v) (h : DataW.Trod enc Try.prog w base spare held 34 v d p) : ∃ t : T4, v = .agg t.cells ∧ t.ok w := by
  obtain ⟨cs, rfl, _⟩ := okWide_struct Try.underlying34 ok
  obtain ⟨fuel, hf⟩ := h
  obtain ⟨t, hm, hl⟩ := open_tx (cs := cs.toList) hf
  exact ⟨t, by rw [← Array.toList_inj.1 hm], hl⟩
end

end Go.Proofs.Ytfalmebgjghjeab.Msg
