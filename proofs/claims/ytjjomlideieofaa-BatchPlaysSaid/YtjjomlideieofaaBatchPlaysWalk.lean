/- 'BatchPlays': its arguments opened. -/
import Derived.Test.YtjjomlideieofaaBatchPlays
import Derived.Test.YtjjomlideieofaaMsgOpen
namespace Go.Proofs.Ytjjomlideieofaa.Msg
open Go.RowKit Go.Deep Go.WideShapes

theorem cells_u8 : Try.prog.cellsOf 5 = 1 := by kernel_rfl
theorem cells_act : Try.prog.cellsOf 63 = 9 := by kernel_rfl
section
variable {H : Type} {enc : TypeId × Value → H} {w : World} {base : Nat} {spare : Nat → Bool} {held : Bool}

def A9.ok (a : A9) : Prop := 0 ≤ a.kd ∧ a.kd < 256 ∧ 0 ≤ a.now ∧ a.now < 18446744073709551616

set_option maxRecDepth 100000 in
theorem open_act {fuel : Nat} {cs : List Value} {x : DataW H × List MemPlace} (h : DataW.trod enc Try.prog w base spare held fuel 63 cs = some x) : ∃ a : A9, cs = a.cells.toList ∧ a.ok := by
  obtain ⟨xs, n, _, _, hcl, hlen, hf⟩ := DataW.trod_struct Try.underlying63 h
  rw [cells_act] at hcl
  obtain ⟨y0, h0⟩ := field_at hlen hf 0 _ rfl rfl
  obtain ⟨y1, h1⟩ := field_at hlen hf 1 _ rfl rfl
  obtain ⟨y2, h2⟩ := field_at hlen hf 2 _ rfl rfl
  obtain ⟨a0, e0, _, w0⟩ := DataW.trod_int Try.underlying5 h0
  obtain ⟨m, e1, _, _⟩ := open_msg h1
  obtain ⟨a2, e2, _, w2⟩ := DataW.trod_int Try.underlying23 h2
  have w0' : 0 ≤ a0 ∧ a0 < 256 := by
    simp [Lit.wf, IntKind.min, IntKind.max, IntKind.bits, IntKind.signed] at w0
    omega
  have w2' : 0 ≤ a2 ∧ a2 < 18446744073709551616 := by
    simp [Lit.wf, IntKind.min, IntKind.max, IntKind.bits, IntKind.signed] at w2
    omega
  refine ⟨⟨a0, m, a2⟩, ?_, w0'.1, w0'.2, w2'.1, w2'.2⟩
  have e0' : (cs.drop 0).take 1 = [.int .u8 a0] := e0
  have e1' : (cs.drop 1).take 7 = m.cells.toList := e1
  have e2' : (cs.drop 8).take 1 = [.int .u64 a2] := e2
  match cs, hcl with
  | [b0, b1, b2, b3, b4, b5, b6, b7, b8], _ =>
    simp [M7.cells] at e0' e1' e2'
    obtain ⟨rfl, rfl, rfl, rfl, rfl, rfl, rfl⟩ := e1'
    subst e0' e2'
    rfl

set_option maxRecDepth 100000 in
theorem open_acts {r : Reach} {b0 : Nat} {v : Value} {d : DataW H} {p : List MemPlace} (ok : Value.okWide Try.prog w r b0 54 v) (h : DataW.Trod enc Try.prog w base spare held 54 v d p) :
    ∃ A len cap qs, v = .slice A len cap ∧ len ≤ maxLen ∧ RdA w A len qs := by
  obtain ⟨a0, len, cap, rfl⟩ := okWide_slice Try.underlying54 ok
  obtain ⟨fuel, hf⟩ := h
  rcases open_slice Try.underlying54 hf with ⟨hcs, _⟩ | ⟨a, len', cap', m, n, D, Pl, hcs, hb, hl, hm, hmm, hx, hi⟩
  · simp [Value.cells] at hcs
    obtain ⟨rfl, rfl, rfl⟩ := hcs
    exact ⟨none, 0, 0, [], rfl, by decide, rfl, fun a ha => by simp at ha, fun h => absurd h (by omega)⟩
  · simp [Value.cells] at hcs
    obtain ⟨rfl, rfl, rfl⟩ := hcs
    have hml : len ≤ m := by rw [hmm]; split <;> omega
    have hex : ∀ i : Nat, ∃ q : A9, q.ok ∧ (i < len → w.cells? base (a.add (i * 9)) 9 = some q.cells.toList) := fun i => by
      by_cases hil : i < len
      · obtain ⟨cs', hc, ht⟩ := hi i (by omega)
        rw [cells_act] at hc
        obtain ⟨q, hq, hok⟩ := open_act ht
        exact ⟨q, hok, fun _ => hq ▸ hc⟩
      · exact ⟨a90, ⟨by decide, by decide, by decide, by decide⟩, fun h => absurd h hil⟩
    obtain ⟨Q, hQ⟩ := Classical.axiomOfChoice hex
    refine ⟨some a, len, cap, (List.range len).map Q, rfl, by omega, by simp, fun q hq => ?_, fun hlen => ?_⟩
    · obtain ⟨i, _, rfl⟩ := List.mem_map.1 hq
      exact (hQ i).1
    obtain ⟨b, off, spot⟩ := a
    have hspot : spot = none := by
      have h1 := (World.cells?_some ((hQ 0).2 hlen)).2.2 0 (by decide)
      simpa [Addr.add] using World.cell?_spot (h1.trans rfl)
    subst hspot
    have h0 := (World.cells?_some ((hQ 0).2 hlen)).2.2 0 (by decide)
    refine ⟨b, off, rfl, ?_, fun i hil j v hv => ?_⟩
    · have := World.block_lt_of_cell? w _ (h0.trans rfl)
      simpa [Addr.add] using this
    · have hj : j < 9 := (Array.getElem?_eq_some_iff.1 hv).1
      have h1 := (World.cells?_some ((hQ i).2 hil)).2.2 j hj
      have h2 : ((List.range len).map Q).getD i a90 = Q i := by simp [hil]
      rw [h2] at hv
      rw [Array.getElem?_toList, hv] at h1
      rw [add_addr, add_addr] at h1
      exact h1
end
end Go.Proofs.Ytjjomlideieofaa.Msg
namespace Go.Proofs.Ytjjomlideieofaa.batchPlays
open Go Go.RowKit Msg

set_option maxRecDepth 100000 in
theorem walk {H : Type} {enc : TypeId × Value → H} {spare : Nat → Bool} {held : Bool} {w : World} {base : Nat} {v : Value} {d : DataW H} {p : List MemPlace} (sz : Int) (_ : (Lit.int .i64 sz).wf = true) (wt : Int) (_ : (Lit.int .i64 wt).wf = true)
    (ok : Value.okWide Try.prog w .any base 54 v) (h : DataW.Trod enc Try.prog w 0 spare held 54 v d p) :
    Calls Try.prog 6 #[.int .i64 sz, .int .i64 wt, v] w fun e w' => e = .returned (.bool true) ∧ Below w.heap.size w w' := by
  obtain ⟨A, len, cap, qs, rfl, hl, hr⟩ := open_acts ok h
  unfold maxLen at hl
  by_cases hb : sz < 1 ∨ 32 < sz ∨ wt < 0 ∨ 8 < wt
  · exact law_bad A len cap sz wt w hb
  · by_cases hc : 60 < len
    · exact law_long A len cap sz wt w (by omega) (by omega) (by omega) (by omega) hc (by omega)
    · exact law_main A len cap qs sz wt w hr (by omega) (by omega) (by omega) (by omega) (by omega)
end Go.Proofs.Ytjjomlideieofaa.batchPlays
