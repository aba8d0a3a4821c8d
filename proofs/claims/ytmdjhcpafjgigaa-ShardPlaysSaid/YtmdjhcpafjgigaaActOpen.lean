/- Acts that came in, opened. -/
import Derived.Test.YtmdjhcpafjgigaaKeyOpenM
namespace Go.Proofs.Ytmdjhcpafjgigaa.Mk
open Go Go.ChangeShapes Go.WideShapes Go.RowKit Go.Deep

/-- an act's value -/
def actV (kd who : Int) (k : K3) : Value := .agg #[.int .u8 kd, .int .i64 who, .int .i64 k.c, .int .i64 k.f, .int .u64 k.s]
theorem cells_act : Try.prog.cellsOf 37 = 5 := by kernel_rfl
section
variable {H : Type} {enc : TypeId × Value → H} {w : World} {base : Nat} {spare : Nat → Bool} {held : Bool}
set_option maxRecDepth 100000 in
theorem open_act {fuel : Nat} {cs : List Value} {x : DataW H × List MemPlace} (h : DataW.trod enc Try.prog w base spare held fuel 37 cs = some x) :
    ∃ kd who k, 0 ≤ kd ∧ kd ≤ 255 ∧ (-9223372036854775808 ≤ who ∧ who ≤ 9223372036854775807) ∧ K3.ok k ∧ cs = [.int .u8 kd, .int .i64 who, .int .i64 k.c, .int .i64 k.f, .int .u64 k.s] := by
  obtain ⟨xs, n, _, _, hcl, hlen, hf⟩ := DataW.trod_struct Try.underlying37 h
  rw [cells_act] at hcl
  obtain ⟨y0, h0⟩ := field_at hlen hf 0 _ rfl rfl
  obtain ⟨y1, h1⟩ := field_at hlen hf 1 _ rfl rfl
  obtain ⟨y2, h2⟩ := field_at hlen hf 2 _ rfl rfl
  obtain ⟨a0, e0, _, w0⟩ := DataW.trod_int Try.underlying5 h0
  obtain ⟨a1, e1, _, w1⟩ := DataW.trod_int Try.underlying3 h1
  obtain ⟨q, ok2, e2⟩ := open_key h2
  simp [Lit.wf, IntKind.min, IntKind.max, IntKind.bits, IntKind.signed] at w0 w1
  refine ⟨a0, a1, q, by omega, by omega, by omega, ok2, ?_⟩
  have e0' : (cs.drop 0).take 1 = [.int .u8 a0] := e0
  have e1' : (cs.drop 1).take 1 = [.int .i64 a1] := e1
  have e2' : (cs.drop 2).take 3 = [.int .i64 q.c, .int .i64 q.f, .int .u64 q.s] := e2
  match cs, hcl with
  | [b0, b1, b2, b3, b4], _ =>
    simp at e0' e1' e2'
    obtain ⟨z0, z1, z2⟩ := e2'
    subst e0' e1' z0 z1 z2; rfl

set_option maxRecDepth 100000 in
theorem open_act_val {r : Reach} {b0 : Nat} {v : Value} {d : DataW H} {p : List MemPlace} (ok : Value.okWide Try.prog w r b0 37 v) (h : DataW.Trod enc Try.prog w base spare held 37 v d p) : ∃ kd who k, 0 ≤ kd ∧ kd ≤ 255 ∧ (-9223372036854775808 ≤ who ∧ who ≤ 9223372036854775807) ∧ K3.ok k ∧ v = actV kd who k := by
  obtain ⟨cs, rfl, _⟩ := okWide_struct Try.underlying37 ok
  obtain ⟨fuel, hf⟩ := h
  obtain ⟨kd, who, k, h0, h1, h2, h3, hm⟩ := open_act (cs := cs.toList) hf
  exact ⟨kd, who, k, h0, h1, h2, h3, congrArg Value.agg (Array.toList_inj.1 hm)⟩
end
end Go.Proofs.Ytmdjhcpafjgigaa.Mk
