import Derived.Test.YtpkkomifenlkaaaGreatNumA
import Derived.OpenShut
import Derived.ProofKit
import Derived.ChangeSame
import Derived.ChangeVars
import Derived.JoinedOf
import Derived.LaidLaws
import Derived.LaidHandle
import Derived.MakeChecks
import Derived.Stop.Joined
import Derived.Lib.LaidTab
import Derived.Lib.LaidIn
import Derived.Deep.Slices
import Derived.ChangeArms
/- Operations that came in, opened (as Oq). -/
namespace Go.Proofs.YtpkkomifenlkaaaGreat.Au
open Go Go.ChangeShapes Go.WideShapes Go.RowKit Go.Deep

theorem cells_key : Tryz.prog.cellsOf 24 = 3 := by kernel_rfl
theorem cells_op : Tryz.prog.cellsOf TOp = 9 := by kernel_rfl
/-- an operation's bounds, as far as they are wanted -/
structure Oq.ok (o : Oq) : Prop where
  ep : 0 ≤ o.ep ∧ o.ep ≤ 18446744073709551615
  nn : 0 ≤ o.nn ∧ o.nn ≤ 18446744073709551615
section
variable {H : Type} {enc : TypeId × Value → H} {w : World} {base : Nat} {spare : Nat → Bool} {held : Bool}
theorem field_atU {t : TypeId} {fs : Array Field} {n : Nat} {cs : List Value} {xs : List (DataW H × List MemPlace)} (hlen : xs.length = fs.size)
    (h : ∀ (i : Nat) (f : Field), fs[i]? = some f → DataW.trod enc Tryz.prog w base spare held n f.type ((cs.drop f.offset).take (Tryz.prog.cellsOf f.type)) = xs[i]?)
    (i : Nat) (f : Field) (hf : fs[i]? = some f) (_ht : f.type = t) : ∃ y, DataW.trod enc Tryz.prog w base spare held n f.type ((cs.drop f.offset).take (Tryz.prog.cellsOf f.type)) = some y := by
  have hi : i < fs.size := (Array.getElem?_eq_some_iff.1 hf).1
  exact ⟨xs[i]'(by omega), (h i f hf).trans (List.getElem?_eq_getElem (by omega))⟩
set_option maxRecDepth 100000 in
theorem open_keyU {fuel : Nat} {cs : List Value} {x : DataW H × List MemPlace} (h : DataW.trod enc Tryz.prog w base spare held fuel 24 cs = some x) :
    ∃ a c s, cs = [.int .i64 a, .int .i64 c, .int .u64 s] := by
  obtain ⟨xs, n, _, _, hcl, hlen, hf⟩ := DataW.trod_struct Tryz.underlying24 h
  rw [cells_key] at hcl
  obtain ⟨y0, h0⟩ := field_atU hlen hf 0 _ rfl rfl
  obtain ⟨y1, h1⟩ := field_atU hlen hf 1 _ rfl rfl
  obtain ⟨y2, h2⟩ := field_atU hlen hf 2 _ rfl rfl
  obtain ⟨a0, e0, _, -⟩ := DataW.trod_int Tryz.underlying3 h0
  obtain ⟨a1, e1, _, -⟩ := DataW.trod_int Tryz.underlying3 h1
  obtain ⟨a2, e2, _, -⟩ := DataW.trod_int Tryz.underlying22 h2
  refine ⟨a0, a1, a2, ?_⟩
  have e0' : (cs.drop 0).take 1 = [.int .i64 a0] := e0
  have e1' : (cs.drop 1).take 1 = [.int .i64 a1] := e1
  have e2' : (cs.drop 2).take 1 = [.int .u64 a2] := e2
  match cs, hcl with
  | [b0, b1, b2], _ => simp at e0' e1' e2'; subst e0' e1' e2'; rfl
set_option maxRecDepth 100000 in
theorem open_oq {fuel : Nat} {cs : List Value} {x : DataW H × List MemPlace} (h : DataW.trod enc Tryz.prog w base spare held fuel TOp cs = some x) :
    ∃ o : Oq, o.ok ∧ cs = o.cells.toList := by
  obtain ⟨xs, n, _, _, hcl, hlen, hf⟩ := DataW.trod_struct Tryz.underlying26 h
  rw [cells_op] at hcl
  obtain ⟨y0, h0⟩ := field_atU hlen hf 0 _ rfl rfl
  obtain ⟨y1, h1⟩ := field_atU hlen hf 1 _ rfl rfl
  obtain ⟨y2, h2⟩ := field_atU hlen hf 2 _ rfl rfl
  obtain ⟨y3, h3⟩ := field_atU hlen hf 3 _ rfl rfl
  obtain ⟨y4, h4⟩ := field_atU hlen hf 4 _ rfl rfl
  obtain ⟨y5, h5⟩ := field_atU hlen hf 5 _ rfl rfl
  obtain ⟨y6, h6⟩ := field_atU hlen hf 6 _ rfl rfl
  obtain ⟨a0, e0, _, -⟩ := DataW.trod_int Tryz.underlying3 h0
  obtain ⟨a1, e1, _, -⟩ := DataW.trod_int Tryz.underlying3 h1
  obtain ⟨k1, k2, k3, e2⟩ := open_keyU h2
  obtain ⟨a3, e3, _, -⟩ := DataW.trod_int Tryz.underlying3 h3
  obtain ⟨a4, e4, _, -⟩ := DataW.trod_int Tryz.underlying3 h4
  obtain ⟨a5, e5, _, w5⟩ := DataW.trod_int Tryz.underlying22 h5
  obtain ⟨a6, e6, _, w6⟩ := DataW.trod_int Tryz.underlying22 h6
  simp [Lit.wf, IntKind.min, IntKind.max, IntKind.bits, IntKind.signed] at w5 w6
  refine ⟨⟨a0, a1, k1, k2, k3, a3, a4, a5, a6⟩, ⟨⟨by simp only; omega, by simp only; omega⟩, ⟨by simp only; omega, by simp only; omega⟩⟩, ?_⟩
  have e0' : (cs.drop 0).take 1 = [.int .i64 a0] := e0
  have e1' : (cs.drop 1).take 1 = [.int .i64 a1] := e1
  have e2' : (cs.drop 2).take 3 = [.int .i64 k1, .int .i64 k2, .int .u64 k3] := e2
  have e3' : (cs.drop 5).take 1 = [.int .i64 a3] := e3
  have e4' : (cs.drop 6).take 1 = [.int .i64 a4] := e4
  have e5' : (cs.drop 7).take 1 = [.int .u64 a5] := e5
  have e6' : (cs.drop 8).take 1 = [.int .u64 a6] := e6
  match cs, hcl with
  | [b0, b1, b2, b3, b4, b5, b6, b7, b8], _ =>
    simp at e0' e1' e2' e3' e4' e5' e6'
    obtain ⟨z0, z1, z2⟩ := e2'
    subst e0' e1' z0 z1 z2 e3' e4' e5' e6'; rfl
set_option maxRecDepth 100000 in
theorem open_oq_val {r : Reach} {b0 : Nat} {v : Value} {d : DataW H} {p : List MemPlace} (ok : Value.okWide Tryz.prog w r b0 TOp v) (h : DataW.Trod enc Tryz.prog w base spare held TOp v d p) : ∃ o : Oq, o.ok ∧ v = o.val := by
  obtain ⟨cs, rfl, _⟩ := okWide_struct Tryz.underlying26 ok
  obtain ⟨fuel, hf⟩ := h
  obtain ⟨o, ho, hm⟩ := open_oq (cs := cs.toList) hf
  exact ⟨o, ho, congrArg Value.agg (Array.toList_inj.1 hm)⟩
end
end Go.Proofs.YtpkkomifenlkaaaGreat.Au
/- Many operations that came in, opened (as Oq). -/
namespace Go.Proofs.YtpkkomifenlkaaaGreat.Au
open Go Go.ChangeShapes Go.WideShapes Go.RowKit Go.Deep

/-- the operation in the place i of a row of them -/
def OqAt (V : World) (b off i : Nat) (o : Oq) : Prop := ∀ j : Nat, j < 9 → V.cell? ⟨b, off + i * 9 + j, none⟩ = o.cells[j]?
/-- operations that are read -/
structure RdQ (V : World) (A : Option Addr) (len : Nat) (qs : List Oq) : Prop where
  many : qs.length = len
  ok : ∀ o ∈ qs, o.ok
  cells : 0 < len → ∃ b off, A = some ⟨b, off, none⟩ ∧ b < V.heap.size ∧ ∀ i (h : i < qs.length), OqAt V b off i qs[i]
theorem add_addrQ (b o i : Nat) : (⟨b, o, none⟩ : Addr).add i = ⟨b, o + i, none⟩ := by simp [Addr.add]
theorem OqAt.keep {V V' : World} {b off i : Nat} {o : Oq} (h : OqAt V b off i o) (hb : V'.heap[b]? = V.heap[b]?) : OqAt V' b off i o := fun j hj =>
  (World.cell?_of_block (a := ⟨b, off + i * 9 + j, none⟩) hb).trans (h j hj)
theorem RdQ.below {V V' : World} {A : Option Addr} {len : Nat} {qs : List Oq} (h : RdQ V A len qs) (hb : Below V.heap.size V V') : RdQ V' A len qs :=
  ⟨h.many, h.ok, fun hl => by
    obtain ⟨b, off, e1, e2, e3⟩ := h.cells hl
    exact ⟨b, off, e1, Nat.lt_of_lt_of_le e2 hb.size, fun i hi => (e3 i hi).keep (hb.block b e2)⟩⟩
section
variable {H : Type} {enc : TypeId × Value → H} {w : World} {base : Nat} {spare : Nat → Bool} {held : Bool}
set_option maxRecDepth 100000 in
theorem open_oqs {r : Reach} {b0 : Nat} {v : Value} {d : DataW H} {p : List MemPlace} (ok : Value.okWide Tryz.prog w r b0 46 v) (h : DataW.Trod enc Tryz.prog w base spare held 46 v d p) :
    ∃ A len cap qs, v = .slice A len cap ∧ len ≤ maxLen ∧ RdQ w A len qs := by
  obtain ⟨a0, len, cap, rfl⟩ := okWide_slice Tryz.underlying46 ok
  obtain ⟨fuel, hf⟩ := h
  rcases open_slice Tryz.underlying46 hf with ⟨hcs, _⟩ | ⟨a, len', cap', m, n, D, Pl, hcs, hb, hl, hm, hmm, hx, hi⟩
  · simp [Value.cells] at hcs
    obtain ⟨rfl, rfl, rfl⟩ := hcs
    exact ⟨none, 0, 0, [], rfl, by decide, rfl, fun a ha => by simp at ha, fun h => absurd h (by omega)⟩
  · simp [Value.cells] at hcs
    obtain ⟨rfl, rfl, rfl⟩ := hcs
    have hml : len ≤ m := by rw [hmm]; split <;> omega
    have hex : ∀ i : Nat, ∃ q : Oq, q.ok ∧ (i < len → w.cells? base (a.add (i * 9)) 9 = some q.cells.toList) := fun i => by
      by_cases hil : i < len
      · obtain ⟨cs', hc, ht⟩ := hi i (by omega)
        rw [cells_op] at hc
        obtain ⟨o, h3, hm⟩ := open_oq ht
        exact ⟨o, h3, fun _ => by rw [hc, hm]⟩
      · exact ⟨⟨0, 0, 0, 0, 0, 0, 0, 0, 0⟩, ⟨by decide, by decide⟩, fun h => absurd h hil⟩
    obtain ⟨Q, hQ⟩ := Classical.axiomOfChoice hex
    refine ⟨some a, len, cap, (List.range len).map Q, rfl, by omega, by simp, fun q hq => ?_, fun hlen => ?_⟩
    · obtain ⟨i, _, rfl⟩ := List.mem_map.1 hq
      exact (hQ i).1
    obtain ⟨b, off, spot⟩ := a
    have hspot : spot = none := by
      have h1 := (World.cells?_some ((hQ 0).2 hlen)).2.2 0 (by simp)
      simpa [Addr.add] using World.cell?_spot (h1.trans rfl)
    subst hspot
    have h0 := (World.cells?_some ((hQ 0).2 hlen)).2.2 0 (by simp)
    refine ⟨b, off, rfl, ?_, fun i hi' => ?_⟩
    · have := World.block_lt_of_cell? w _ (h0.trans rfl)
      simpa [Addr.add] using this
    · have hil : i < len := by simpa using hi'
      have h1 := (World.cells?_some ((hQ i).2 hil)).2.2
      have h2 : ((List.range len).map Q)[i] = Q i := by simp
      rw [h2]
      intro j hj
      have := h1 j (by simpa [Oq.cells] using hj)
      rw [add_addrQ, add_addrQ] at this
      rw [this, Array.getElem?_toList]
end
end Go.Proofs.YtpkkomifenlkaaaGreat.Au
