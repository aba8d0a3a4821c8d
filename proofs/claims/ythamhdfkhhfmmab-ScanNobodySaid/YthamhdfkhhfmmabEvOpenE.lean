/- An event that came in: opened to its fields, with the bounds of its numbers. -/
import Derived.Test.YthamhdfkhhfmmabCommon
import Derived.OpenShut
import Derived.ProofKit
import Derived.Deep.Slices
import Derived.ChangeArms
namespace Go.Proofs.Ythamhdfkhhfmmab.EvO
open Go.RowKit Go.Deep Go.WideShapes

structure E8 where
  k : Int
  h : Int
  c : Int
  f : Int
  s : Int
  t : Int
  d : ByteArray
  a : ByteArray

def E8.cells (m : E8) : Array Value := #[.int .i64 m.k, .int .u64 m.h, .int .i64 m.c, .int .i64 m.f, .int .u64 m.s, .int .u64 m.t, .string m.d, .string m.a]
def E8.wf (m : E8) : Prop := (0 ≤ m.h ∧ m.h < 18446744073709551616) ∧ 0 ≤ m.s ∧ m.s < 18446744073709551616 ∧ 0 ≤ m.t ∧ m.t < 18446744073709551616 ∧ m.d.size ≤ maxLen

theorem cells_int : Try.prog.cellsOf 3 = 1 := by kernel_rfl
theorem cells_u64 : Try.prog.cellsOf 22 = 1 := by kernel_rfl
theorem cells_string : Try.prog.cellsOf 9 = 1 := by kernel_rfl
theorem cells_packet : Try.prog.cellsOf 24 = 5 := by kernel_rfl
theorem cells_event : Try.prog.cellsOf 26 = 8 := by kernel_rfl

section
variable {H : Type} {enc : TypeId × Value → H} {w : World} {base : Nat} {spare : Nat → Bool} {held : Bool}

/-- What a struct's reading says of one field. -/
theorem field_at {t : TypeId} {fs : Array Field} {n : Nat} {cs : List Value} {xs : List (DataW H × List MemPlace)} (hlen : xs.length = fs.size)
    (h : ∀ (i : Nat) (f : Field), fs[i]? = some f → DataW.trod enc Try.prog w base spare held n f.type ((cs.drop f.offset).take (Try.prog.cellsOf f.type)) = xs[i]?)
    (i : Nat) (f : Field) (hf : fs[i]? = some f) (_ht : f.type = t) : ∃ y, DataW.trod enc Try.prog w base spare held n f.type ((cs.drop f.offset).take (Try.prog.cellsOf f.type)) = some y := by
  have hi : i < fs.size := (Array.getElem?_eq_some_iff.1 hf).1
  exact ⟨xs[i]'(by omega), (h i f hf).trans (List.getElem?_eq_getElem (by omega))⟩

set_option maxRecDepth 100000 in
theorem open_packet {fuel : Nat} {cs : List Value} {x : DataW H × List MemPlace} (h : DataW.trod enc Try.prog w base spare held fuel 24 cs = some x) :
    ∃ (c f s t : Int) (d : ByteArray), cs = [.int .i64 c, .int .i64 f, .int .u64 s, .int .u64 t, .string d] ∧ (Lit.int .i64 c).wf = true ∧ (Lit.int .i64 f).wf = true ∧ (Lit.int .u64 s).wf = true ∧ (Lit.int .u64 t).wf = true ∧ d.size ≤ maxLen := by
  obtain ⟨xs, n, _, _, hcl, hlen, hf⟩ := DataW.trod_struct Try.underlying24 h
  rw [cells_packet] at hcl
  obtain ⟨y0, h0⟩ := field_at hlen hf 0 _ rfl rfl
  obtain ⟨y1, h1⟩ := field_at hlen hf 1 _ rfl rfl
  obtain ⟨y2, h2⟩ := field_at hlen hf 2 _ rfl rfl
  obtain ⟨y3, h3⟩ := field_at hlen hf 3 _ rfl rfl
  obtain ⟨y4, h4⟩ := field_at hlen hf 4 _ rfl rfl
  obtain ⟨a0, e0, _, w0⟩ := DataW.trod_int Try.underlying3 h0
  obtain ⟨a1, e1, _, w1⟩ := DataW.trod_int Try.underlying3 h1
  obtain ⟨a2, e2, _, w2⟩ := DataW.trod_int Try.underlying22 h2
  obtain ⟨a3, e3, _, w3⟩ := DataW.trod_int Try.underlying22 h3
  obtain ⟨a4, e4, _, w4⟩ := DataW.trod_string Try.underlying9 h4
  refine ⟨a0, a1, a2, a3, a4, ?_, w0, w1, w2, w3, w4⟩
  have e0' : (cs.drop 0).take 1 = [.int .i64 a0] := e0
  have e1' : (cs.drop 1).take 1 = [.int .i64 a1] := e1
  have e2' : (cs.drop 2).take 1 = [.int .u64 a2] := e2
  have e3' : (cs.drop 3).take 1 = [.int .u64 a3] := e3
  have e4' : (cs.drop 4).take 1 = [.string a4] := e4
  match cs, hcl with
  | [b0, b1, b2, b3, b4], _ => simp at e0' e1' e2' e3' e4'; subst e0' e1' e2' e3' e4'; rfl

set_option maxRecDepth 100000 in
theorem open_event {fuel : Nat} {cs : List Value} {x : DataW H × List MemPlace} (h : DataW.trod enc Try.prog w base spare held fuel 26 cs = some x) :
    ∃ m : E8, cs = m.cells.toList ∧ m.wf := by
  obtain ⟨xs, n, _, _, hcl, hlen, hf⟩ := DataW.trod_struct Try.underlying26 h
  rw [cells_event] at hcl
  obtain ⟨y0, h0⟩ := field_at hlen hf 0 _ rfl rfl
  obtain ⟨y1, h1⟩ := field_at hlen hf 1 _ rfl rfl
  obtain ⟨y2, h2⟩ := field_at hlen hf 2 _ rfl rfl
  obtain ⟨y3, h3⟩ := field_at hlen hf 3 _ rfl rfl
  obtain ⟨a0, e0, _, w0⟩ := DataW.trod_int Try.underlying3 h0
  obtain ⟨a1, e1, _, w1⟩ := DataW.trod_int Try.underlying22 h1
  obtain ⟨c, f, s, t, d, e2, wc, wf, ws, wt, wd⟩ := open_packet h2
  obtain ⟨a3, e3, _, w3⟩ := DataW.trod_string Try.underlying9 h3
  have b64 : ∀ {x : Int}, (Lit.int .u64 x).wf = true → 0 ≤ x ∧ x < 18446744073709551616 := fun {x} h => by
    simp [Lit.wf, IntKind.min, IntKind.max, IntKind.bits, IntKind.signed] at h
    omega
  refine ⟨⟨a0, a1, c, f, s, t, d, a3⟩, ?_, b64 w1, (b64 ws).1, (b64 ws).2, (b64 wt).1, (b64 wt).2, wd⟩
  have e0' : (cs.drop 0).take 1 = [.int .i64 a0] := e0
  have e1' : (cs.drop 1).take 1 = [.int .u64 a1] := e1
  have e2' : (cs.drop 2).take 5 = [.int .i64 c, .int .i64 f, .int .u64 s, .int .u64 t, .string d] := e2
  have e3' : (cs.drop 7).take 1 = [.string a3] := e3
  match cs, hcl with
  | [b0, b1, b2, b3, b4, b5, b6, b7], _ =>
    simp at e0' e1' e2' e3'
    obtain ⟨rfl, rfl, rfl, rfl, rfl⟩ := e2'
    subst e0' e1' e3'
    rfl


set_option maxRecDepth 100000 in
theorem open_event_val {r : Reach} {b0 : Nat} {v : Value} {d : DataW H} {p : List MemPlace} (ok : Value.okWide Try.prog w r b0 26 v) (h : DataW.Trod enc Try.prog w base spare held 26 v d p) : ∃ m : E8, v = .agg m.cells ∧ m.wf := by
  obtain ⟨cs, rfl, _⟩ := okWide_struct Try.underlying26 ok
  obtain ⟨fuel, hf⟩ := h
  obtain ⟨m, hm, hw⟩ := open_event (cs := cs.toList) hf
  exact ⟨m, congrArg Value.agg (Array.toList_inj.1 hm), hw⟩
end
end Go.Proofs.Ythamhdfkhhfmmab.EvO
