/- Operations, what they told, entries that came in: opened. -/
import Derived.Test.YtpakefgbjncdiadDoorRepBox
import Derived.Test.YtpakefgbjncdiadDoorKeyOpen
namespace Go.Proofs.YtpakefgbjncdiadDoor.Rep
open Go Go.ChangeShapes Go.WideShapes Go.RowKit Go.Deep Dec packetKeys
section
variable {H : Type} {enc : TypeId × Value → H} {w : World} {base : Nat} {spare : Nat → Bool} {held : Bool}
theorem cells_op : Tryd.prog.cellsOf 26 = 9 := by kernel_rfl
set_option maxRecDepth 100000 in
theorem open_op {fuel : Nat} {cs : List Value} {x : DataW H × List MemPlace} (h : DataW.trod enc Tryd.prog w base spare held fuel 26 cs = some x) :
    ∃ q : O9, q.ok ∧ cs = (q.cells).toList := by
  obtain ⟨xs, m, _, _, hcl, hlen, hf⟩ := DataW.trod_struct Tryd.underlying26 h
  rw [cells_op] at hcl
  obtain ⟨y0, h0⟩ := field_at hlen hf 0 _ rfl rfl
  obtain ⟨y1, h1⟩ := field_at hlen hf 1 _ rfl rfl
  obtain ⟨y2, h2⟩ := field_at hlen hf 2 _ rfl rfl
  obtain ⟨y3, h3⟩ := field_at hlen hf 3 _ rfl rfl
  obtain ⟨y4, h4⟩ := field_at hlen hf 4 _ rfl rfl
  obtain ⟨y5, h5⟩ := field_at hlen hf 5 _ rfl rfl
  obtain ⟨y6, h6⟩ := field_at hlen hf 6 _ rfl rfl
  obtain ⟨a0, e0, _, w0⟩ := DataW.trod_int Tryd.underlying3 h0
  simp [Lit.wf, IntKind.min, IntKind.max, IntKind.bits, IntKind.signed] at w0
  obtain ⟨a1, e1, _, w1⟩ := DataW.trod_int Tryd.underlying3 h1
  simp [Lit.wf, IntKind.min, IntKind.max, IntKind.bits, IntKind.signed] at w1
  obtain ⟨q2, ok2, e2⟩ := open_key h2
  obtain ⟨a3, e3, _, w3⟩ := DataW.trod_int Tryd.underlying3 h3
  simp [Lit.wf, IntKind.min, IntKind.max, IntKind.bits, IntKind.signed] at w3
  obtain ⟨a4, e4, _, w4⟩ := DataW.trod_int Tryd.underlying3 h4
  simp [Lit.wf, IntKind.min, IntKind.max, IntKind.bits, IntKind.signed] at w4
  obtain ⟨a5, e5, _, w5⟩ := DataW.trod_int Tryd.underlying22 h5
  simp [Lit.wf, IntKind.min, IntKind.max, IntKind.bits, IntKind.signed] at w5
  obtain ⟨a6, e6, _, w6⟩ := DataW.trod_int Tryd.underlying22 h6
  simp [Lit.wf, IntKind.min, IntKind.max, IntKind.bits, IntKind.signed] at w6
  refine ⟨⟨a0, a1, q2, a3, a4, a5.toNat, a6.toNat⟩, ?_, ?_⟩
  · exact ⟨by dsimp only; omega, ok2, by dsimp only; omega, by dsimp only; omega, by dsimp only; omega⟩
  have e0' : (cs.drop 0).take 1 = [.int .i64 a0] := e0
  have e1' : (cs.drop 1).take 1 = [.int .i64 a1] := e1
  have e2' : (cs.drop 2).take 3 = [.int .i64 q2.c, .int .i64 q2.f, .int .u64 (q2.s : Int)] := e2
  have e3' : (cs.drop 5).take 1 = [.int .i64 a3] := e3
  have e4' : (cs.drop 6).take 1 = [.int .i64 a4] := e4
  have e5' : (cs.drop 7).take 1 = [.int .u64 a5] := e5
  have c5 : ((a5.toNat : Nat) : Int) = a5 := by omega
  have e6' : (cs.drop 8).take 1 = [.int .u64 a6] := e6
  have c6 : ((a6.toNat : Nat) : Int) = a6 := by omega
  clear h hf h0 e0 h1 e1 h2 e2 h3 e3 h4 e4 h5 e5 h6 e6
  match cs, hcl with
  | [b0, b1, b2, b3, b4, b5, b6, b7, b8], _ =>
    simp at e0' e1' e2' e3' e4' e5' e6'
    subst e0'
    subst e1'
    obtain ⟨z20, z21, z22⟩ := e2'
    subst z20 z21 z22
    subst e3'
    subst e4'
    subst e5'
    subst e6'
    simp only [O9.cells, c5, c6]
set_option maxRecDepth 100000 in
theorem open_op_val {r : Reach} {b0 : Nat} {v : Value} {d : DataW H} {p : List MemPlace} (ok : Value.okWide Tryd.prog w r b0 26 v) (h : DataW.Trod enc Tryd.prog w base spare held 26 v d p) : ∃ q : O9, q.ok ∧ v = .agg (q.cells) := by
  obtain ⟨cs, rfl, _⟩ := okWide_struct Tryd.underlying26 ok
  obtain ⟨fuel, hf⟩ := h
  obtain ⟨q, ho, hm⟩ := open_op (cs := cs.toList) hf
  exact ⟨q, ho, congrArg Value.agg (Array.toList_inj.1 hm)⟩
theorem cells_ret : Tryd.prog.cellsOf 29 = 4 := by kernel_rfl
set_option maxRecDepth 100000 in
theorem open_ret {fuel : Nat} {cs : List Value} {x : DataW H × List MemPlace} (h : DataW.trod enc Tryd.prog w base spare held fuel 29 cs = some x) :
    ∃ q : R4, q.ok ∧ cs = (q.cells).toList := by
  obtain ⟨xs, m, _, _, hcl, hlen, hf⟩ := DataW.trod_struct Tryd.underlying29 h
  rw [cells_ret] at hcl
  obtain ⟨y0, h0⟩ := field_at hlen hf 0 _ rfl rfl
  obtain ⟨y1, h1⟩ := field_at hlen hf 1 _ rfl rfl
  obtain ⟨y2, h2⟩ := field_at hlen hf 2 _ rfl rfl
  obtain ⟨y3, h3⟩ := field_at hlen hf 3 _ rfl rfl
  obtain ⟨a0, e0, _, w0⟩ := DataW.trod_int Tryd.underlying27 h0
  simp [Lit.wf, IntKind.min, IntKind.max, IntKind.bits, IntKind.signed] at w0
  obtain ⟨a1, e1, _, w1⟩ := DataW.trod_int Tryd.underlying22 h1
  simp [Lit.wf, IntKind.min, IntKind.max, IntKind.bits, IntKind.signed] at w1
  obtain ⟨a2, e2, _, w2⟩ := DataW.trod_int Tryd.underlying22 h2
  simp [Lit.wf, IntKind.min, IntKind.max, IntKind.bits, IntKind.signed] at w2
  obtain ⟨a3, e3, _, w3⟩ := DataW.trod_int Tryd.underlying22 h3
  simp [Lit.wf, IntKind.min, IntKind.max, IntKind.bits, IntKind.signed] at w3
  refine ⟨⟨a0, a1.toNat, a2.toNat, a3.toNat⟩, ?_, ?_⟩
  · exact ⟨by dsimp only; omega, by dsimp only; omega, by dsimp only; omega⟩
  have e0' : (cs.drop 0).take 1 = [.int .i64 a0] := e0
  have e1' : (cs.drop 1).take 1 = [.int .u64 a1] := e1
  have c1 : ((a1.toNat : Nat) : Int) = a1 := by omega
  have e2' : (cs.drop 2).take 1 = [.int .u64 a2] := e2
  have c2 : ((a2.toNat : Nat) : Int) = a2 := by omega
  have e3' : (cs.drop 3).take 1 = [.int .u64 a3] := e3
  have c3 : ((a3.toNat : Nat) : Int) = a3 := by omega
  clear h hf h0 e0 h1 e1 h2 e2 h3 e3
  match cs, hcl with
  | [b0, b1, b2, b3], _ =>
    simp at e0' e1' e2' e3'
    subst e0'
    subst e1'
    subst e2'
    subst e3'
    simp only [R4.cells, c1, c2, c3]
set_option maxRecDepth 100000 in
theorem open_ret_val {r : Reach} {b0 : Nat} {v : Value} {d : DataW H} {p : List MemPlace} (ok : Value.okWide Tryd.prog w r b0 29 v) (h : DataW.Trod enc Tryd.prog w base spare held 29 v d p) : ∃ q : R4, q.ok ∧ v = .agg (q.cells) := by
  obtain ⟨cs, rfl, _⟩ := okWide_struct Tryd.underlying29 ok
  obtain ⟨fuel, hf⟩ := h
  obtain ⟨q, ho, hm⟩ := open_ret (cs := cs.toList) hf
  exact ⟨q, ho, congrArg Value.agg (Array.toList_inj.1 hm)⟩
theorem cells_entry : Tryd.prog.cellsOf 31 = 5 := by kernel_rfl
set_option maxRecDepth 100000 in
theorem open_entry {fuel : Nat} {cs : List Value} {x : DataW H × List MemPlace} (h : DataW.trod enc Tryd.prog w base spare held fuel 31 cs = some x) :
    ∃ q : K3 × Int × Int, (q.1.ok ∧ -9223372036854775808 ≤ q.2.2 ∧ q.2.2 ≤ 9223372036854775807) ∧ cs = (#[.int .i64 q.1.c, .int .i64 q.1.f, .int .u64 (q.1.s : Int), .int .i64 q.2.1, .int .i64 q.2.2]).toList := by
  obtain ⟨xs, m, _, _, hcl, hlen, hf⟩ := DataW.trod_struct Tryd.underlying31 h
  rw [cells_entry] at hcl
  obtain ⟨y0, h0⟩ := field_at hlen hf 0 _ rfl rfl
  obtain ⟨y1, h1⟩ := field_at hlen hf 1 _ rfl rfl
  obtain ⟨y2, h2⟩ := field_at hlen hf 2 _ rfl rfl
  obtain ⟨q0, ok0, e0⟩ := open_key h0
  obtain ⟨a1, e1, _, w1⟩ := DataW.trod_int Tryd.underlying3 h1
  simp [Lit.wf, IntKind.min, IntKind.max, IntKind.bits, IntKind.signed] at w1
  obtain ⟨a2, e2, _, w2⟩ := DataW.trod_int Tryd.underlying3 h2
  simp [Lit.wf, IntKind.min, IntKind.max, IntKind.bits, IntKind.signed] at w2
  refine ⟨(q0, a1, a2), ?_, ?_⟩
  · exact ⟨ok0, by dsimp only; omega, by dsimp only; omega⟩
  have e0' : (cs.drop 0).take 3 = [.int .i64 q0.c, .int .i64 q0.f, .int .u64 (q0.s : Int)] := e0
  have e1' : (cs.drop 3).take 1 = [.int .i64 a1] := e1
  have e2' : (cs.drop 4).take 1 = [.int .i64 a2] := e2
  clear h hf h0 e0 h1 e1 h2 e2
  match cs, hcl with
  | [b0, b1, b2, b3, b4], _ =>
    simp at e0' e1' e2'
    obtain ⟨z00, z01, z02⟩ := e0'
    subst z00 z01 z02
    subst e1'
    subst e2'
    rfl
set_option maxRecDepth 100000 in
theorem open_entry_val {r : Reach} {b0 : Nat} {v : Value} {d : DataW H} {p : List MemPlace} (ok : Value.okWide Tryd.prog w r b0 31 v) (h : DataW.Trod enc Tryd.prog w base spare held 31 v d p) : ∃ q : K3 × Int × Int, (q.1.ok ∧ -9223372036854775808 ≤ q.2.2 ∧ q.2.2 ≤ 9223372036854775807) ∧ v = .agg (#[.int .i64 q.1.c, .int .i64 q.1.f, .int .u64 (q.1.s : Int), .int .i64 q.2.1, .int .i64 q.2.2]) := by
  obtain ⟨cs, rfl, _⟩ := okWide_struct Tryd.underlying31 ok
  obtain ⟨fuel, hf⟩ := h
  obtain ⟨q, ho, hm⟩ := open_entry (cs := cs.toList) hf
  exact ⟨q, ho, congrArg Value.agg (Array.toList_inj.1 hm)⟩
end
end Go.Proofs.YtpakefgbjncdiadDoor.Rep
