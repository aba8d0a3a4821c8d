/- Operations that came in, opened. -/
import Derived.Test.YtjkebabkacnmpaaGreatKeyOpenM
import Derived.Test.YtjkebabkacnmpaaGreatTableNil3
namespace Go.Proofs.YtjkebabkacnmpaaGreat.Mk
open Go Go.ChangeShapes Go.WideShapes Go.RowKit Go.Deep

theorem cells_op : Tryz.prog.cellsOf 26 = 9 := by kernel_rfl
section
variable {H : Type} {enc : TypeId × Value → H} {w : World} {base : Nat} {spare : Nat → Bool} {held : Bool}
set_option maxRecDepth 100000 in
theorem open_op {fuel : Nat} {cs : List Value} {x : DataW H × List MemPlace} (h : DataW.trod enc Tryz.prog w base spare held fuel 26 cs = some x) :
    ∃ kd who k sd ac ep nn, cs = [.int .i64 kd, .int .i64 who, .int .i64 (K3.c k), .int .i64 (K3.f k), .int .u64 (K3.s k), .int .i64 sd, .int .i64 ac, .int .u64 ep, .int .u64 nn] := by
  obtain ⟨xs, n, _, _, hcl, hlen, hf⟩ := DataW.trod_struct Tryz.underlying26 h
  rw [cells_op] at hcl
  obtain ⟨y0, h0⟩ := field_at hlen hf 0 _ rfl rfl
  obtain ⟨y1, h1⟩ := field_at hlen hf 1 _ rfl rfl
  obtain ⟨y2, h2⟩ := field_at hlen hf 2 _ rfl rfl
  obtain ⟨y3, h3⟩ := field_at hlen hf 3 _ rfl rfl
  obtain ⟨y4, h4⟩ := field_at hlen hf 4 _ rfl rfl
  obtain ⟨y5, h5⟩ := field_at hlen hf 5 _ rfl rfl
  obtain ⟨y6, h6⟩ := field_at hlen hf 6 _ rfl rfl
  obtain ⟨a0, e0, _, -⟩ := DataW.trod_int Tryz.underlying3 h0
  obtain ⟨a1, e1, _, -⟩ := DataW.trod_int Tryz.underlying3 h1
  obtain ⟨q, -, e2⟩ := open_key h2
  obtain ⟨a3, e3, _, -⟩ := DataW.trod_int Tryz.underlying3 h3
  obtain ⟨a4, e4, _, -⟩ := DataW.trod_int Tryz.underlying3 h4
  obtain ⟨a5, e5, _, -⟩ := DataW.trod_int Tryz.underlying22 h5
  obtain ⟨a6, e6, _, -⟩ := DataW.trod_int Tryz.underlying22 h6
  refine ⟨a0, a1, q, a3, a4, a5, a6, ?_⟩
  have e0' : (cs.drop 0).take 1 = [.int .i64 a0] := e0
  have e1' : (cs.drop 1).take 1 = [.int .i64 a1] := e1
  have e2' : (cs.drop 2).take 3 = [.int .i64 q.c, .int .i64 q.f, .int .u64 q.s] := e2
  have e3' : (cs.drop 5).take 1 = [.int .i64 a3] := e3
  have e4' : (cs.drop 6).take 1 = [.int .i64 a4] := e4
  have e5' : (cs.drop 7).take 1 = [.int .u64 a5] := e5
  have e6' : (cs.drop 8).take 1 = [.int .u64 a6] := e6
  match cs, hcl with
  | [b0, b1, b2, b3, b4, b5, b6, b7, b8], _ =>
    simp at e0' e1' e2' e3' e4' e5' e6'
    obtain ⟨z0, z1, z2⟩ := e2'
    subst e0' e1' z0 z1 z2 e3' e4' e5' e6'; rfl
set_option maxRecDepth 100000 in
theorem open_op_val {r : Reach} {b0 : Nat} {v : Value} {d : DataW H} {p : List MemPlace} (ok : Value.okWide Tryz.prog w r b0 26 v) (h : DataW.Trod enc Tryz.prog w base spare held 26 v d p) : ∃ kd who k sd ac ep nn, v = opV kd who k sd ac ep nn := by
  obtain ⟨cs, rfl, _⟩ := okWide_struct Tryz.underlying26 ok
  obtain ⟨fuel, hf⟩ := h
  obtain ⟨kd, who, k, sd, ac, ep, nn, hm⟩ := open_op (cs := cs.toList) hf
  exact ⟨kd, who, k, sd, ac, ep, nn, congrArg Value.agg (Array.toList_inj.1 hm)⟩
end
end Go.Proofs.YtjkebabkacnmpaaGreat.Mk
