import Derived.Test.YtlpnecmcncekcaaGreatMapK
import Derived.OpenShut
import Derived.ProofKit
import Derived.ChangeSame
import Derived.ChangeVars
import Derived.JoinedOf
import Derived.LaidLaws
import Derived.LaidHandle
import Derived.MakeChecks
import Derived.Stop.Joined
import Derived.Lib.LaidTab
import Derived.Lib.LaidIn
import Derived.Deep.Slices
import Derived.ChangeArms
import Derived.Test.YtlpnecmcncekcaaGreatTableBase
import Derived.Test.YtlpnecmcncekcaaGreatTabWhole
/- Keys that came in, opened (as K3 of the maps). -/
namespace Go.Proofs.YtlpnecmcncekcaaGreat.Mk
open Go Go.ChangeShapes Go.WideShapes Go.RowKit Go.Deep

theorem cells_key : Tryz.prog.cellsOf 41 = 3 := by kernel_rfl
section
variable {H : Type} {enc : TypeId × Value → H} {w : World} {base : Nat} {spare : Nat → Bool} {held : Bool}
theorem field_at {t : TypeId} {fs : Array Field} {n : Nat} {cs : List Value} {xs : List (DataW H × List MemPlace)} (hlen : xs.length = fs.size)
    (h : ∀ (i : Nat) (f : Field), fs[i]? = some f → DataW.trod enc Tryz.prog w base spare held n f.type ((cs.drop f.offset).take (Tryz.prog.cellsOf f.type)) = xs[i]?)
    (i : Nat) (f : Field) (hf : fs[i]? = some f) (_ht : f.type = t) : ∃ y, DataW.trod enc Tryz.prog w base spare held n f.type ((cs.drop f.offset).take (Tryz.prog.cellsOf f.type)) = some y := by
  have hi : i < fs.size := (Array.getElem?_eq_some_iff.1 hf).1
  exact ⟨xs[i]'(by omega), (h i f hf).trans (List.getElem?_eq_getElem (by omega))⟩

def K3.ok (k : K3) : Prop := (-9223372036854775808 ≤ k.c ∧ k.c ≤ 9223372036854775807) ∧ (-9223372036854775808 ≤ k.f ∧ k.f ≤ 9223372036854775807) ∧ (0 ≤ k.s ∧ k.s ≤ 18446744073709551615)
set_option maxRecDepth 100000 in
theorem open_key {fuel : Nat} {cs : List Value} {x : DataW H × List MemPlace} (h : DataW.trod enc Tryz.prog w base spare held fuel 41 cs = some x) :
    ∃ q : K3, q.ok ∧ cs = [.int .i64 q.c, .int .i64 q.f, .int .u64 q.s] := by
  obtain ⟨xs, n, _, _, hcl, hlen, hf⟩ := DataW.trod_struct Tryz.underlying41 h
  rw [cells_key] at hcl
  obtain ⟨y0, h0⟩ := field_at hlen hf 0 _ rfl rfl
  obtain ⟨y1, h1⟩ := field_at hlen hf 1 _ rfl rfl
  obtain ⟨y2, h2⟩ := field_at hlen hf 2 _ rfl rfl
  obtain ⟨a0, e0, _, w0⟩ := DataW.trod_int Tryz.underlying3 h0
  obtain ⟨a1, e1, _, w1⟩ := DataW.trod_int Tryz.underlying3 h1
  obtain ⟨a2, e2, _, w2⟩ := DataW.trod_int Tryz.underlying23 h2
  simp [Lit.wf, IntKind.min, IntKind.max, IntKind.bits, IntKind.signed] at w0 w1 w2
  refine ⟨⟨a0, a1, a2⟩, ⟨⟨by simp only; omega, by simp only; omega⟩, ⟨by simp only; omega, by simp only; omega⟩, ⟨by simp only; omega, by simp only; omega⟩⟩, ?_⟩
  have e0' : (cs.drop 0).take 1 = [.int .i64 a0] := e0
  have e1' : (cs.drop 1).take 1 = [.int .i64 a1] := e1
  have e2' : (cs.drop 2).take 1 = [.int .u64 a2] := e2
  match cs, hcl with
  | [b0, b1, b2], _ => simp at e0' e1' e2'; subst e0' e1' e2'; rfl
end
end Go.Proofs.YtlpnecmcncekcaaGreat.Mk
/- Operations that came in, opened. -/
namespace Go.Proofs.YtlpnecmcncekcaaGreat.Mk
open Go Go.ChangeShapes Go.WideShapes Go.RowKit Go.Deep

theorem cells_op : Tryz.prog.cellsOf 43 = 9 := by kernel_rfl
section
variable {H : Type} {enc : TypeId × Value → H} {w : World} {base : Nat} {spare : Nat → Bool} {held : Bool}
set_option maxRecDepth 100000 in
theorem open_op {fuel : Nat} {cs : List Value} {x : DataW H × List MemPlace} (h : DataW.trod enc Tryz.prog w base spare held fuel 43 cs = some x) :
    ∃ kd who k sd ac ep nn, K3.ok k ∧ cs = [.int .i64 kd, .int .i64 who, .int .i64 (K3.c k), .int .i64 (K3.f k), .int .u64 (K3.s k), .int .i64 sd, .int .i64 ac, .int .u64 ep, .int .u64 nn] := by
  obtain ⟨xs, n, _, _, hcl, hlen, hf⟩ := DataW.trod_struct Tryz.underlying43 h
  rw [cells_op] at hcl
  obtain ⟨y0, h0⟩ := field_at hlen hf 0 _ rfl rfl
  obtain ⟨y1, h1⟩ := field_at hlen hf 1 _ rfl rfl
  obtain ⟨y2, h2⟩ := field_at hlen hf 2 _ rfl rfl
  obtain ⟨y3, h3⟩ := field_at hlen hf 3 _ rfl rfl
  obtain ⟨y4, h4⟩ := field_at hlen hf 4 _ rfl rfl
  obtain ⟨y5, h5⟩ := field_at hlen hf 5 _ rfl rfl
  obtain ⟨y6, h6⟩ := field_at hlen hf 6 _ rfl rfl
  obtain ⟨a0, e0, _, -⟩ := DataW.trod_int Tryz.underlying3 h0
  obtain ⟨a1, e1, _, -⟩ := DataW.trod_int Tryz.underlying3 h1
  obtain ⟨q, hq, e2⟩ := open_key h2
  obtain ⟨a3, e3, _, -⟩ := DataW.trod_int Tryz.underlying3 h3
  obtain ⟨a4, e4, _, -⟩ := DataW.trod_int Tryz.underlying3 h4
  obtain ⟨a5, e5, _, -⟩ := DataW.trod_int Tryz.underlying23 h5
  obtain ⟨a6, e6, _, -⟩ := DataW.trod_int Tryz.underlying23 h6
  refine ⟨a0, a1, q, a3, a4, a5, a6, hq, ?_⟩
  have e0' : (cs.drop 0).take 1 = [.int .i64 a0] := e0
  have e1' : (cs.drop 1).take 1 = [.int .i64 a1] := e1
  have e2' : (cs.drop 2).take 3 = [.int .i64 q.c, .int .i64 q.f, .int .u64 q.s] := e2
  have e3' : (cs.drop 5).take 1 = [.int .i64 a3] := e3
  have e4' : (cs.drop 6).take 1 = [.int .i64 a4] := e4
  have e5' : (cs.drop 7).take 1 = [.int .u64 a5] := e5
  have e6' : (cs.drop 8).take 1 = [.int .u64 a6] := e6
  match cs, hcl with
  | [b0, b1, b2, b3, b4, b5, b6, b7, b8], _ =>
    simp at e0' e1' e2' e3' e4' e5' e6'
    obtain ⟨z0, z1, z2⟩ := e2'
    subst e0' e1' z0 z1 z2 e3' e4' e5' e6'; rfl
set_option maxRecDepth 100000 in
theorem open_op_val {r : Reach} {b0 : Nat} {v : Value} {d : DataW H} {p : List MemPlace} (ok : Value.okWide Tryz.prog w r b0 43 v) (h : DataW.Trod enc Tryz.prog w base spare held 43 v d p) : ∃ kd who k sd ac ep nn, v = opV kd who k sd ac ep nn := by
  obtain ⟨cs, rfl, _⟩ := okWide_struct Tryz.underlying43 ok
  obtain ⟨fuel, hf⟩ := h
  obtain ⟨kd, who, k, sd, ac, ep, nn, -, hm⟩ := open_op (cs := cs.toList) hf
  exact ⟨kd, who, k, sd, ac, ep, nn, congrArg Value.agg (Array.toList_inj.1 hm)⟩
end
end Go.Proofs.YtlpnecmcncekcaaGreat.Mk
/- Many operations that came in, opened. -/
namespace Go.Proofs.YtlpnecmcncekcaaGreat.Mk
open Go Go.ChangeShapes Go.WideShapes Go.RowKit Go.Deep

def Op9.cells (o : Op9) : Array Value := #[.int .i64 o.kd, .int .i64 o.who, .int .i64 o.k.c, .int .i64 o.k.f, .int .u64 o.k.s, .int .i64 o.sd, .int .i64 o.ac, .int .u64 o.ep, .int .u64 o.nn]
/-- the operation in the place i of a row of them -/
def OpAt (V : World) (b off i : Nat) (o : Op9) : Prop := ∀ j : Nat, j < 9 → V.cell? ⟨b, off + i * 9 + j, none⟩ = o.cells[j]?
/-- operations that are read -/
structure RdO (V : World) (A : Option Addr) (len : Nat) (qs : List Op9) : Prop where
  many : qs.length = len
  keys : ∀ o ∈ qs, o.ok
  cells : 0 < len → ∃ b off, A = some ⟨b, off, none⟩ ∧ b < V.heap.size ∧ ∀ i (h : i < qs.length), OpAt V b off i qs[i]
theorem add_addrO (b o i : Nat) : (⟨b, o, none⟩ : Addr).add i = ⟨b, o + i, none⟩ := by simp [Addr.add]
theorem OpAt.keep {V V' : World} {b off i : Nat} {o : Op9} (h : OpAt V b off i o) (hb : V'.heap[b]? = V.heap[b]?) : OpAt V' b off i o := fun j hj =>
  (World.cell?_of_block (a := ⟨b, off + i * 9 + j, none⟩) hb).trans (h j hj)
section
variable {H : Type} {enc : TypeId × Value → H} {w : World} {base : Nat} {spare : Nat → Bool} {held : Bool}
set_option maxRecDepth 100000 in
theorem open_ops {r : Reach} {b0 : Nat} {v : Value} {d : DataW H} {p : List MemPlace} (ok : Value.okWide Tryz.prog w r b0 26 v) (h : DataW.Trod enc Tryz.prog w base spare held 26 v d p) :
    ∃ A len cap qs, v = .slice A len cap ∧ len ≤ maxLen ∧ RdO w A len qs := by
  obtain ⟨a0, len, cap, rfl⟩ := okWide_slice Tryz.underlying26 ok
  obtain ⟨fuel, hf⟩ := h
  rcases open_slice Tryz.underlying26 hf with ⟨hcs, _⟩ | ⟨a, len', cap', m, n, D, Pl, hcs, hb, hl, hm, hmm, hx, hi⟩
  · simp [Value.cells] at hcs
    obtain ⟨rfl, rfl, rfl⟩ := hcs
    exact ⟨none, 0, 0, [], rfl, by decide, rfl, fun a ha => by simp at ha, fun h => absurd h (by omega)⟩
  · simp [Value.cells] at hcs
    obtain ⟨rfl, rfl, rfl⟩ := hcs
    have hml : len ≤ m := by rw [hmm]; split <;> omega
    have hex : ∀ i : Nat, ∃ q : Op9, q.ok ∧ (i < len → w.cells? base (a.add (i * 9)) 9 = some q.cells.toList) := fun i => by
      by_cases hil : i < len
      · obtain ⟨cs', hc, ht⟩ := hi i (by omega)
        rw [cells_op] at hc
        obtain ⟨kd, who, k, sd, ac, ep, nn, h3, hm⟩ := open_op ht
        exact ⟨⟨kd, who, k, sd, ac, ep, nn⟩, ⟨h3.2.2.1, by have := h3.2.2.2; show k.s < _; omega⟩, fun _ => by rw [hc, hm]; rfl⟩
      · exact ⟨⟨0, 0, ⟨0, 0, 0⟩, 0, 0, 0, 0⟩, ⟨by decide, by decide⟩, fun h => absurd h hil⟩
    obtain ⟨Q, hQ⟩ := Classical.axiomOfChoice hex
    refine ⟨some a, len, cap, (List.range len).map Q, rfl, by omega, by simp, fun q hq => ?_, fun hlen => ?_⟩
    · obtain ⟨i, _, rfl⟩ := List.mem_map.1 hq
      exact (hQ i).1
    obtain ⟨b, off, spot⟩ := a
    have hspot : spot = none := by
      have h1 := (World.cells?_some ((hQ 0).2 hlen)).2.2 0 (by decide)
      simpa [Addr.add] using World.cell?_spot (h1.trans rfl)
    subst hspot
    have h0 := (World.cells?_some ((hQ 0).2 hlen)).2.2 0 (by decide)
    refine ⟨b, off, rfl, ?_, fun i hi' => ?_⟩
    · have := World.block_lt_of_cell? w _ (h0.trans rfl)
      simpa [Addr.add] using this
    · have hil : i < len := by simpa using hi'
      have h1 := (World.cells?_some ((hQ i).2 hil)).2.2
      have h2 : ((List.range len).map Q)[i] = Q i := by simp
      rw [h2]
      intro j hj
      have := h1 j hj
      rw [add_addrO, add_addrO] at this
      rw [this, Array.getElem?_toList]
end
end Go.Proofs.YtlpnecmcncekcaaGreat.Mk
