/- 'EventFinds': the walk over logs and keys as they come in. -/
import Derived.Test.YtnidafgjbocfcaaEventFinds
import Derived.Deep.Slices
import Derived.ChangeArms
namespace Go.Proofs.Ytnidafgjbocfcaa.Ev
open Go Go.RowKit Go.Deep Go.WideShapes

theorem add_addr (b off k : Nat) : (⟨b, off, none⟩ : Addr).add k = ⟨b, off + k, none⟩ := by unfold Addr.add; by_cases h : k = 0 <;> simp [h]
theorem cells_int : Try.prog.cellsOf 3 = 1 := by kernel_rfl
theorem cells_u64 : Try.prog.cellsOf 22 = 1 := by kernel_rfl
theorem cells_string : Try.prog.cellsOf 9 = 1 := by kernel_rfl
theorem cells_packet : Try.prog.cellsOf 38 = 5 := by kernel_rfl
theorem cells_event : Try.prog.cellsOf 40 = 8 := by kernel_rfl
theorem cells_key : Try.prog.cellsOf 30 = 3 := by kernel_rfl

section
variable {H : Type} {enc : TypeId × Value → H} {w : World} {base : Nat} {spare : Nat → Bool} {held : Bool}

/-- What a struct's reading says of one field. -/
theorem field_at {t : TypeId} {fs : Array Field} {n : Nat} {cs : List Value} {xs : List (DataW H × List MemPlace)} (hlen : xs.length = fs.size)
    (h : ∀ (i : Nat) (f : Field), fs[i]? = some f → DataW.trod enc Try.prog w base spare held n f.type ((cs.drop f.offset).take (Try.prog.cellsOf f.type)) = xs[i]?)
    (i : Nat) (f : Field) (hf : fs[i]? = some f) (_ht : f.type = t) : ∃ y, DataW.trod enc Try.prog w base spare held n f.type ((cs.drop f.offset).take (Try.prog.cellsOf f.type)) = some y := by
  have hi : i < fs.size := (Array.getElem?_eq_some_iff.1 hf).1
  exact ⟨xs[i]'(by omega), (h i f hf).trans (List.getElem?_eq_getElem (by omega))⟩

set_option maxRecDepth 100000 in
theorem open_packet {fuel : Nat} {cs : List Value} {x : DataW H × List MemPlace} (h : DataW.trod enc Try.prog w base spare held fuel 38 cs = some x) :
    ∃ (c f s t : Int) (d : ByteArray), cs = [.int .i64 c, .int .i64 f, .int .u64 s, .int .u64 t, .string d] ∧ (Lit.int .i64 c).wf = true ∧ (Lit.int .i64 f).wf = true ∧ (Lit.int .u64 s).wf = true ∧ (Lit.int .u64 t).wf = true ∧ d.size ≤ maxLen := by
  obtain ⟨xs, n, _, _, hcl, hlen, hf⟩ := DataW.trod_struct Try.underlying38 h
  rw [cells_packet] at hcl
  obtain ⟨y0, h0⟩ := field_at hlen hf 0 _ rfl rfl
  obtain ⟨y1, h1⟩ := field_at hlen hf 1 _ rfl rfl
  obtain ⟨y2, h2⟩ := field_at hlen hf 2 _ rfl rfl
  obtain ⟨y3, h3⟩ := field_at hlen hf 3 _ rfl rfl
  obtain ⟨y4, h4⟩ := field_at hlen hf 4 _ rfl rfl
  obtain ⟨a0, e0, _, w0⟩ := DataW.trod_int Try.underlying3 h0
  obtain ⟨a1, e1, _, w1⟩ := DataW.trod_int Try.underlying3 h1
  obtain ⟨a2, e2, _, w2⟩ := DataW.trod_int Try.underlying22 h2
  obtain ⟨a3, e3, _, w3⟩ := DataW.trod_int Try.underlying22 h3
  obtain ⟨a4, e4, _, w4⟩ := DataW.trod_string Try.underlying9 h4
  refine ⟨a0, a1, a2, a3, a4, ?_, w0, w1, w2, w3, w4⟩
  have e0' : (cs.drop 0).take 1 = [.int .i64 a0] := e0
  have e1' : (cs.drop 1).take 1 = [.int .i64 a1] := e1
  have e2' : (cs.drop 2).take 1 = [.int .u64 a2] := e2
  have e3' : (cs.drop 3).take 1 = [.int .u64 a3] := e3
  have e4' : (cs.drop 4).take 1 = [.string a4] := e4
  match cs, hcl with
  | [b0, b1, b2, b3, b4], _ => simp at e0' e1' e2' e3' e4'; subst e0' e1' e2' e3' e4'; rfl

set_option maxRecDepth 100000 in
theorem open_event {fuel : Nat} {cs : List Value} {x : DataW H × List MemPlace} (h : DataW.trod enc Try.prog w base spare held fuel 40 cs = some x) :
    ∃ m : E8, cs = m.cells.toList := by
  obtain ⟨xs, n, _, _, hcl, hlen, hf⟩ := DataW.trod_struct Try.underlying40 h
  rw [cells_event] at hcl
  obtain ⟨y0, h0⟩ := field_at hlen hf 0 _ rfl rfl
  obtain ⟨y1, h1⟩ := field_at hlen hf 1 _ rfl rfl
  obtain ⟨y2, h2⟩ := field_at hlen hf 2 _ rfl rfl
  obtain ⟨y3, h3⟩ := field_at hlen hf 3 _ rfl rfl
  obtain ⟨a0, e0, _, w0⟩ := DataW.trod_int Try.underlying3 h0
  obtain ⟨a1, e1, _, w1⟩ := DataW.trod_int Try.underlying22 h1
  obtain ⟨c, f, s, t, d, e2, wc, wf, ws, wt, wd⟩ := open_packet h2
  obtain ⟨a3, e3, _, w3⟩ := DataW.trod_string Try.underlying9 h3
  refine ⟨⟨a0, a1, c, f, s, t, d, a3⟩, ?_⟩
  have e0' : (cs.drop 0).take 1 = [.int .i64 a0] := e0
  have e1' : (cs.drop 1).take 1 = [.int .u64 a1] := e1
  have e2' : (cs.drop 2).take 5 = [.int .i64 c, .int .i64 f, .int .u64 s, .int .u64 t, .string d] := e2
  have e3' : (cs.drop 7).take 1 = [.string a3] := e3
  match cs, hcl with
  | [b0, b1, b2, b3, b4, b5, b6, b7], _ =>
    simp at e0' e1' e2' e3'
    obtain ⟨rfl, rfl, rfl, rfl, rfl⟩ := e2'
    subst e0' e1' e3'
    rfl

set_option maxRecDepth 100000 in
theorem open_key_val {r : Reach} {b0 : Nat} {v : Value} {d : DataW H} {p : List MemPlace} (ok : Value.okWide Try.prog w r b0 30 v) (h : DataW.Trod enc Try.prog w base spare held 30 v d p) :
    ∃ c f s : Int, v = .agg #[.int .i64 c, .int .i64 f, .int .u64 s] := by
  obtain ⟨cs, rfl, _⟩ := okWide_struct Try.underlying30 ok
  obtain ⟨fuel, hf⟩ := h
  replace hf : DataW.trod enc Try.prog w base spare held fuel 30 cs.toList = some (d, p) := hf
  obtain ⟨xs, n, _, _, hcl, hlen, hf⟩ := DataW.trod_struct Try.underlying30 hf
  rw [cells_key] at hcl
  obtain ⟨y0, h0⟩ := field_at hlen hf 0 _ rfl rfl
  obtain ⟨y1, h1⟩ := field_at hlen hf 1 _ rfl rfl
  obtain ⟨y2, h2⟩ := field_at hlen hf 2 _ rfl rfl
  obtain ⟨a0, e0, _, w0⟩ := DataW.trod_int Try.underlying3 h0
  obtain ⟨a1, e1, _, w1⟩ := DataW.trod_int Try.underlying3 h1
  obtain ⟨a2, e2, _, w2⟩ := DataW.trod_int Try.underlying22 h2
  have e0' : (cs.toList.drop 0).take 1 = [.int .i64 a0] := e0
  have e1' : (cs.toList.drop 1).take 1 = [.int .i64 a1] := e1
  have e2' : (cs.toList.drop 2).take 1 = [.int .u64 a2] := e2
  refine ⟨a0, a1, a2, congrArg Value.agg (Array.toList_inj.1 ?_)⟩
  match hq : cs.toList, hcl with
  | [b0, b1, b2], _ =>
    rw [hq] at e0' e1' e2'
    simp at e0' e1' e2'
    subst e0' e1' e2'
    rfl

set_option maxRecDepth 100000 in
theorem open_events {r : Reach} {b0 : Nat} {v : Value} {d : DataW H} {p : List MemPlace} (ok : Value.okWide Try.prog w r b0 36 v) (h : DataW.Trod enc Try.prog w base spare held 36 v d p) :
    ∃ A len cap ms, v = .slice A len cap ∧ len ≤ maxLen ∧ Rd w A len ms := by
  obtain ⟨a0, len, cap, rfl⟩ := okWide_slice Try.underlying36 ok
  obtain ⟨fuel, hf⟩ := h
  rcases open_slice Try.underlying36 hf with ⟨hcs, _⟩ | ⟨a, len', cap', m, n, D, Pl, hcs, hb, hl, hm, hmm, hx, hi⟩
  · simp [Value.cells] at hcs
    obtain ⟨rfl, rfl, rfl⟩ := hcs
    exact ⟨none, 0, 0, [], rfl, by decide, rfl, fun h => absurd h (by omega)⟩
  · simp [Value.cells] at hcs
    obtain ⟨rfl, rfl, rfl⟩ := hcs
    have hml : len ≤ m := by rw [hmm]; split <;> omega
    have hex : ∀ i : Nat, ∃ q : E8, i < len → w.cells? base (a.add (i * 8)) 8 = some q.cells.toList := fun i => by
      by_cases hil : i < len
      · obtain ⟨cs', hc, ht⟩ := hi i (by omega)
        rw [cells_event] at hc
        obtain ⟨q, hq⟩ := open_event ht
        exact ⟨q, fun _ => hq ▸ hc⟩
      · exact ⟨e0, fun h => absurd h hil⟩
    obtain ⟨Q, hQ⟩ := Classical.axiomOfChoice hex
    refine ⟨some a, len, cap, (List.range len).map Q, rfl, by omega, by simp, fun hlen => ?_⟩
    obtain ⟨b, off, spot⟩ := a
    have hspot : spot = none := by
      have h1 := (World.cells?_some (hQ 0 hlen)).2.2 0 (by decide)
      simpa [Addr.add] using World.cell?_spot (h1.trans rfl)
    subst hspot
    have h0 := (World.cells?_some (hQ 0 hlen)).2.2 0 (by decide)
    refine ⟨b, off, rfl, ?_, fun i hil j v hv => ?_⟩
    · have := World.block_lt_of_cell? w _ (h0.trans rfl)
      simpa [Addr.add] using this
    · have hj : j < 8 := (Array.getElem?_eq_some_iff.1 hv).1
      have h1 := (World.cells?_some (hQ i hil)).2.2 j hj
      have h2 : ((List.range len).map Q).getD i e0 = Q i := by simp [hil]
      rw [h2] at hv
      rw [Array.getElem?_toList, hv] at h1
      rw [add_addr, add_addr] at h1
      exact h1
end
end Go.Proofs.Ytnidafgjbocfcaa.Ev
namespace Go.Proofs.Ytnidafgjbocfcaa.eventFinds
open Go Go.RowKit Ev
set_option maxRecDepth 100000 in
theorem walk {H : Type} {enc : TypeId × Value → H} {spare spare' : Nat → Bool} {held held' : Bool} {w : World} {base base' : Nat} {v v' : Value} {d d' : DataW H} {p p' : List MemPlace}
    (ok : Value.okWide Try.prog w .any base 36 v) (h : DataW.Trod enc Try.prog w 0 spare held 36 v d p) (kind : Int) (_ : (Lit.int .i64 kind).wf = true)
    (ok' : Value.okWide Try.prog w .any base' 30 v') (h' : DataW.Trod enc Try.prog w 0 spare' held' 30 v' d' p') :
    Calls Try.prog 4 #[v, .int .i64 kind, v'] w fun e w' => e = .returned (.bool true) ∧ Below w.heap.size w w' := by
  obtain ⟨A, len, cap, ms, rfl, hl, hr⟩ := open_events ok h
  obtain ⟨c, f, s, rfl⟩ := open_key_val ok' h'
  unfold maxLen at hl
  by_cases hc : 60 < len
  · exact walk_long A len cap kind c f s w hc (by omega)
  · exact walk_short A len cap ms kind c f s w hr (by omega)
end Go.Proofs.Ytnidafgjbocfcaa.eventFinds
