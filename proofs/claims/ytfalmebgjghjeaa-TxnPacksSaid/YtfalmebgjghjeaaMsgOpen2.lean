/- A message that came in: opened to its fields, with the bounds of its numbers. -/
import Derived.Test.YtfalmebgjghjeaaMsgMath
import Derived.Test.YtfalmebgjghjeaaMsgOpen1
namespace Go.Proofs.Ytfalmebgjghjeaa.Msg
open Go Go.RowKit Go.Deep Go.WideShapes

section
variable {H : Type} {enc : TypeId × Value → H} {w : World} {base : Nat} {spare : Nat → Bool} {held : Bool}
set_option maxRecDepth 100000 in
theorem open_msg_wf {fuel : Nat} {cs : List Value} {x : DataW H × List MemPlace} (h : DataW.trod enc Try.prog w base spare held fuel 43 cs = some x) :
    ∃ m : M7, cs = m.cells.toList ∧ m.wf := by
  obtain ⟨xs, n, _, _, hcl, hlen, hf⟩ := DataW.trod_struct Try.underlying43 h
  rw [cells_msg] at hcl
  obtain ⟨y0, h0⟩ := field_at hlen hf 0 _ rfl rfl
  obtain ⟨y1, h1⟩ := field_at hlen hf 1 _ rfl rfl
  obtain ⟨y2, h2⟩ := field_at hlen hf 2 _ rfl rfl
  obtain ⟨a0, e0, _, w0⟩ := DataW.trod_int Try.underlying3 h0
  obtain ⟨c, f, s, t, d, e1, wc, wf, ws, wt, wd⟩ := open_packet h1
  obtain ⟨a2, e2, _, w2⟩ := DataW.trod_string Try.underlying9 h2
  have ws' : 0 ≤ s ∧ s < 18446744073709551616 := by
    simp [Lit.wf, IntKind.min, IntKind.max, IntKind.bits, IntKind.signed] at ws
    omega
  have wt' : 0 ≤ t ∧ t < 18446744073709551616 := by
    simp [Lit.wf, IntKind.min, IntKind.max, IntKind.bits, IntKind.signed] at wt
    omega
  refine ⟨⟨a0, c, f, s, t, d, a2⟩, ?_, ws'.1, ws'.2, wt'.1, wt'.2, wd⟩
  have e0' : (cs.drop 0).take 1 = [.int .i64 a0] := e0
  have e1' : (cs.drop 1).take 5 = [.int .i64 c, .int .i64 f, .int .u64 s, .int .u64 t, .string d] := e1
  have e2' : (cs.drop 6).take 1 = [.string a2] := e2
  match cs, hcl with
  | [b0, b1, b2, b3, b4, b5, b6], _ =>
    simp at e0' e1' e2'
    obtain ⟨rfl, rfl, rfl, rfl, rfl⟩ := e1'
    subst e0' e2'
    rfl


set_option maxRecDepth 100000 in
theorem open_msg_wf_val {r : Reach} {b0 : Nat} {v : Value} {d : DataW H} {p : List MemPlace} (ok : Value.okWide Try.prog w r b0 43 v) (h : DataW.Trod enc Try.prog w base spare held 43 v d p) : ∃ m : M7, v = .agg m.cells ∧ m.wf := by
  obtain ⟨cs, rfl, _⟩ := okWide_struct Try.underlying43 ok
  obtain ⟨fuel, hf⟩ := h
  obtain ⟨m, hm, hw⟩ := open_msg_wf (cs := cs.toList) hf
  exact ⟨m, congrArg Value.agg (Array.toList_inj.1 hm), hw⟩
end
end Go.Proofs.Ytfalmebgjghjeaa.Msg
