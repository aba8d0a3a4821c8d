/- Marks and Booleans that came in. -/
import Derived.Test.YtfojmjgnndlfnabTrLaw0
import Derived.OpenShut
import Derived.ProofKit
import Derived.Deep.Slices
import Derived.ChangeArms
namespace Go.Proofs.Ytfojmjgnndlfnab.Tr
open Go Go.RowKit Go.Deep Go.WideShapes
set_option linter.unusedVariables false

theorem add_addr (b off k : Nat) : (⟨b, off, none⟩ : Addr).add k = ⟨b, off + k, none⟩ := by unfold Addr.add; by_cases h : k = 0 <;> simp [h]
theorem cells_int : Try.prog.cellsOf 3 = 1 := by kernel_rfl
theorem cells_u64 : Try.prog.cellsOf 29 = 1 := by kernel_rfl
theorem cells_string : Try.prog.cellsOf 9 = 1 := by kernel_rfl
theorem cells_packet : Try.prog.cellsOf 31 = 5 := by kernel_rfl
theorem cells_event : Try.prog.cellsOf 33 = 8 := by kernel_rfl
theorem cells_mark : Try.prog.cellsOf 35 = 9 := by kernel_rfl
theorem cells_bool : Try.prog.cellsOf 4 = 1 := by kernel_rfl

section
variable {H : Type} {enc : TypeId × Value → H} {w : World} {base : Nat} {spare : Nat → Bool} {held : Bool}

/-- What a struct's reading says of one field. -/
theorem field_at {t : TypeId} {fs : Array Field} {n : Nat} {cs : List Value} {xs : List (DataW H × List MemPlace)} (hlen : xs.length = fs.size)
    (h : ∀ (i : Nat) (f : Field), fs[i]? = some f → DataW.trod enc Try.prog w base spare held n f.type ((cs.drop f.offset).take (Try.prog.cellsOf f.type)) = xs[i]?)
    (i : Nat) (f : Field) (hf : fs[i]? = some f) (_ht : f.type = t) : ∃ y, DataW.trod enc Try.prog w base spare held n f.type ((cs.drop f.offset).take (Try.prog.cellsOf f.type)) = some y := by
  have hi : i < fs.size := (Array.getElem?_eq_some_iff.1 hf).1
  exact ⟨xs[i]'(by omega), (h i f hf).trans (List.getElem?_eq_getElem (by omega))⟩

set_option maxRecDepth 100000 in
theorem open_packet {fuel : Nat} {cs : List Value} {x : DataW H × List MemPlace} (h : DataW.trod enc Try.prog w base spare held fuel 31 cs = some x) :
    ∃ (c f s t : Int) (d : ByteArray), cs = [.int .i64 c, .int .i64 f, .int .u64 s, .int .u64 t, .string d] ∧ (Lit.int .i64 c).wf = true ∧ (Lit.int .i64 f).wf = true ∧ (Lit.int .u64 s).wf = true ∧ (Lit.int .u64 t).wf = true ∧ d.size ≤ maxLen := by
  obtain ⟨xs, n, _, _, hcl, hlen, hf⟩ := DataW.trod_struct Try.underlying31 h
  rw [cells_packet] at hcl
  obtain ⟨y0, h0⟩ := field_at hlen hf 0 _ rfl rfl
  obtain ⟨y1, h1⟩ := field_at hlen hf 1 _ rfl rfl
  obtain ⟨y2, h2⟩ := field_at hlen hf 2 _ rfl rfl
  obtain ⟨y3, h3⟩ := field_at hlen hf 3 _ rfl rfl
  obtain ⟨y4, h4⟩ := field_at hlen hf 4 _ rfl rfl
  obtain ⟨a0, e0, _, w0⟩ := DataW.trod_int Try.underlying3 h0
  obtain ⟨a1, e1, _, w1⟩ := DataW.trod_int Try.underlying3 h1
  obtain ⟨a2, e2, _, w2⟩ := DataW.trod_int Try.underlying29 h2
  obtain ⟨a3, e3, _, w3⟩ := DataW.trod_int Try.underlying29 h3
  obtain ⟨a4, e4, _, w4⟩ := DataW.trod_string Try.underlying9 h4
  refine ⟨a0, a1, a2, a3, a4, ?_, w0, w1, w2, w3, w4⟩
  have e0' : (cs.drop 0).take 1 = [.int .i64 a0] := e0
  have e1' : (cs.drop 1).take 1 = [.int .i64 a1] := e1
  have e2' : (cs.drop 2).take 1 = [.int .u64 a2] := e2
  have e3' : (cs.drop 3).take 1 = [.int .u64 a3] := e3
  have e4' : (cs.drop 4).take 1 = [.string a4] := e4
  match cs, hcl with
  | [b0, b1, b2, b3, b4], _ => simp at e0' e1' e2' e3' e4'; subst e0' e1' e2' e3' e4'; rfl

set_option maxRecDepth 100000 in
theorem open_event {fuel : Nat} {cs : List Value} {x : DataW H × List MemPlace} (h : DataW.trod enc Try.prog w base spare held fuel 33 cs = some x) :
    ∃ (k h c f s t : Int) (d a : ByteArray), cs = [.int .i64 k, .int .u64 h, .int .i64 c, .int .i64 f, .int .u64 s, .int .u64 t, .string d, .string a] ∧ 0 ≤ t := by
  obtain ⟨xs, n, _, _, hcl, hlen, hf⟩ := DataW.trod_struct Try.underlying33 h
  rw [cells_event] at hcl
  obtain ⟨y0, h0⟩ := field_at hlen hf 0 _ rfl rfl
  obtain ⟨y1, h1⟩ := field_at hlen hf 1 _ rfl rfl
  obtain ⟨y2, h2⟩ := field_at hlen hf 2 _ rfl rfl
  obtain ⟨y3, h3⟩ := field_at hlen hf 3 _ rfl rfl
  obtain ⟨a0, e0, _, w0⟩ := DataW.trod_int Try.underlying3 h0
  obtain ⟨a1, e1, _, w1⟩ := DataW.trod_int Try.underlying29 h1
  obtain ⟨c, f, s, t, d, e2, wc, wf, ws, wt, wd⟩ := open_packet h2
  obtain ⟨a3, e3, _, w3⟩ := DataW.trod_string Try.underlying9 h3
  refine ⟨a0, a1, c, f, s, t, d, a3, ?_, by simp [Lit.wf, IntKind.min, IntKind.max, IntKind.bits, IntKind.signed] at wt; omega⟩
  have e0' : (cs.drop 0).take 1 = [.int .i64 a0] := e0
  have e1' : (cs.drop 1).take 1 = [.int .u64 a1] := e1
  have e2' : (cs.drop 2).take 5 = [.int .i64 c, .int .i64 f, .int .u64 s, .int .u64 t, .string d] := e2
  have e3' : (cs.drop 7).take 1 = [.string a3] := e3
  match cs, hcl with
  | [b0, b1, b2, b3, b4, b5, b6, b7], _ =>
    simp at e0' e1' e2' e3'
    obtain ⟨rfl, rfl, rfl, rfl, rfl⟩ := e2'
    subst e0' e1' e3'
    rfl

set_option maxRecDepth 100000 in
theorem open_mark {fuel : Nat} {cs : List Value} {x : DataW H × List MemPlace} (h : DataW.trod enc Try.prog w base spare held fuel 35 cs = some x) :
    ∃ m : Mk, cs = m.cells.toList ∧ 0 ≤ m.t := by
  obtain ⟨xs, n, _, _, hcl, hlen, hf⟩ := DataW.trod_struct Try.underlying35 h
  rw [cells_mark] at hcl
  obtain ⟨y0, h0⟩ := field_at hlen hf 0 _ rfl rfl
  obtain ⟨y1, h1⟩ := field_at hlen hf 1 _ rfl rfl
  obtain ⟨a0, e0, _, w0⟩ := DataW.trod_int Try.underlying3 h0
  obtain ⟨k, hh, c, f, s, t, d, a, e1, ht⟩ := open_event h1
  refine ⟨⟨a0, k, hh, c, f, s, t, d, a⟩, ?_, ht⟩
  have e0' : (cs.drop 0).take 1 = [.int .i64 a0] := e0
  have e1' : (cs.drop 1).take 8 = [.int .i64 k, .int .u64 hh, .int .i64 c, .int .i64 f, .int .u64 s, .int .u64 t, .string d, .string a] := e1
  match cs, hcl with
  | [b0, b1, b2, b3, b4, b5, b6, b7, b8], _ =>
    simp at e0' e1'
    obtain ⟨rfl, rfl, rfl, rfl, rfl, rfl, rfl, rfl⟩ := e1'
    subst e0'
    rfl
set_option maxRecDepth 100000 in
theorem open_bs {r : Reach} {b0 : Nat} {v : Value} {d : DataW H} {p : List MemPlace} (ok : Value.okWide Try.prog w r b0 22 v) (h : DataW.Trod enc Try.prog w base spare held 22 v d p) :
    ∃ A len cap zs, v = .slice A len cap ∧ len ≤ maxLen ∧ Bo w A len zs := by
  obtain ⟨a0, len, cap, rfl⟩ := okWide_slice Try.underlying22 ok
  obtain ⟨fuel, hf⟩ := h
  rcases open_slice Try.underlying22 hf with ⟨hcs, _⟩ | ⟨a, len', cap', m, n, D, Pl, hcs, hb, hl, hm, hmm, hx, hi⟩
  · simp [Value.cells] at hcs
    obtain ⟨rfl, rfl, rfl⟩ := hcs
    exact ⟨none, 0, 0, fun _ => false, rfl, by decide, fun h => absurd h (by omega)⟩
  · simp [Value.cells] at hcs
    obtain ⟨rfl, rfl, rfl⟩ := hcs
    have hml : len ≤ m := by rw [hmm]; split <;> omega
    have hex : ∀ i : Nat, ∃ q : Bool, i < len → w.cells? base (a.add (i * 1)) 1 = some [.bool q] := fun i => by
      by_cases hil : i < len
      · obtain ⟨cs', hc, ht⟩ := hi i (by omega)
        rw [cells_bool] at hc
        obtain ⟨q, hq, _⟩ := DataW.trod_bool Try.underlying4 ht
        exact ⟨q, fun _ => hq ▸ hc⟩
      · exact ⟨false, fun h => absurd h hil⟩
    obtain ⟨Q, hQ⟩ := Classical.axiomOfChoice hex
    refine ⟨some a, len, cap, Q, rfl, by omega, fun hlen => ?_⟩
    obtain ⟨b, off, spot⟩ := a
    have hspot : spot = none := by
      have h1 := (World.cells?_some (hQ 0 hlen)).2.2 0 (by decide)
      simpa [Addr.add] using World.cell?_spot (h1.trans rfl)
    subst hspot
    have h0 := (World.cells?_some (hQ 0 hlen)).2.2 0 (by decide)
    refine ⟨b, off, rfl, ?_, fun i hil => ?_⟩
    · have := World.block_lt_of_cell? w _ (h0.trans rfl)
      simpa [Addr.add] using this
    · have h1 := (World.cells?_some (hQ i hil)).2.2 0 (by decide)
      rw [add_addr, add_addr, Nat.mul_one] at h1
      exact h1
set_option maxRecDepth 100000 in
theorem open_marks {r : Reach} {b0 : Nat} {v : Value} {d : DataW H} {p : List MemPlace} (ok : Value.okWide Try.prog w r b0 23 v) (h : DataW.Trod enc Try.prog w base spare held 23 v d p) :
    ∃ A len cap f, v = .slice A len cap ∧ len ≤ maxLen ∧ len ≤ cap ∧ cap ≤ 9223372036854775807 ∧ Rd w A len f ∧ (∀ i, 0 ≤ (f i).t) ∧ ((A = none ∧ len = 0 ∧ cap = 0) ∨ ∃ a, A = some a) := by
  obtain ⟨a0, len, cap, rfl⟩ := okWide_slice Try.underlying23 ok
  obtain ⟨fuel, hf⟩ := h
  rcases open_slice Try.underlying23 hf with ⟨hcs, _⟩ | ⟨a, len', cap', m, n, D, Pl, hcs, hb, hl, hm, hmm, hx, hi⟩
  · simp [Value.cells] at hcs
    obtain ⟨rfl, rfl, rfl⟩ := hcs
    exact ⟨none, 0, 0, fun _ => x0, rfl, by decide, by decide, by decide, fun h => absurd h (by omega), fun _ => Int.le_refl 0, Or.inl ⟨rfl, rfl, rfl⟩⟩
  · simp [Value.cells] at hcs
    obtain ⟨rfl, rfl, rfl⟩ := hcs
    have hml : len ≤ m := by rw [hmm]; split <;> omega
    have hex : ∀ i : Nat, ∃ q : Mk, (i < len → w.cells? base (a.add (i * 9)) 9 = some q.cells.toList) ∧ 0 ≤ q.t := fun i => by
      by_cases hil : i < len
      · obtain ⟨cs', hc, ht⟩ := hi i (by omega)
        rw [cells_mark] at hc
        obtain ⟨q, hq, hq2⟩ := open_mark ht
        exact ⟨q, fun _ => hq ▸ hc, hq2⟩
      · exact ⟨x0, fun h => absurd h hil, Int.le_refl 0⟩
    obtain ⟨Q, hQ⟩ := Classical.axiomOfChoice hex
    refine ⟨some a, len, cap, Q, rfl, by omega, by omega, by unfold maxLen at *; omega, fun hlen => ?_, fun i => (hQ i).2, Or.inr ⟨a, rfl⟩⟩
    obtain ⟨b, off, spot⟩ := a
    have hspot : spot = none := by
      have h1 := (World.cells?_some ((hQ 0).1 hlen)).2.2 0 (by decide)
      simpa [Addr.add] using World.cell?_spot (h1.trans rfl)
    subst hspot
    have h0 := (World.cells?_some ((hQ 0).1 hlen)).2.2 0 (by decide)
    refine ⟨b, off, rfl, ?_, fun i hil => ?_⟩
    · have := World.block_lt_of_cell? w _ (h0.trans rfl)
      simpa [Addr.add] using this
    · have h1 : ∀ j v, j < 9 → ((Q i).cells)[j]? = some v → w.cell? ⟨b, off + i * 9 + j, none⟩ = some v := fun j v hj hv => by
        have h2 := (World.cells?_some ((hQ i).1 hil)).2.2 j (by simpa [Mk.cells] using hj)
        rw [add_addr, add_addr] at h2
        rw [h2, Array.getElem?_toList]
        exact hv
      exact ⟨h1 0 _ (by decide) rfl, h1 1 _ (by decide) rfl, h1 2 _ (by decide) rfl, h1 3 _ (by decide) rfl, h1 4 _ (by decide) rfl, h1 5 _ (by decide) rfl, h1 6 _ (by decide) rfl, h1 7 _ (by decide) rfl, h1 8 _ (by decide) rfl⟩
end
end Go.Proofs.Ytfojmjgnndlfnab.Tr
