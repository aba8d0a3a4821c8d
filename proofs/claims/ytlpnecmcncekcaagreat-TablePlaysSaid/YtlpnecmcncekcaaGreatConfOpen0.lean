import Derived.Test.YtlpnecmcncekcaaGreatCf
import Derived.OpenShut
import Derived.ProofKit
import Derived.Deep.Slices
import Derived.ChangeArms
/- Configs that came in: opened to their fields. -/
namespace Go.Proofs.YtlpnecmcncekcaaGreat.Conf
open Go.RowKit Go.Deep Go.WideShapes

theorem cells_int : Tryz.prog.cellsOf 3 = 1 := by kernel_rfl
theorem cells_u64 : Tryz.prog.cellsOf 23 = 1 := by kernel_rfl
theorem cells_bools : Tryz.prog.cellsOf 22 = 1 := by kernel_rfl
theorem cells_config : Tryz.prog.cellsOf 25 = 12 := by kernel_rfl

section
variable {H : Type} {enc : TypeId × Value → H} {w : World} {base : Nat} {spare : Nat → Bool} {held : Bool}

/-- What a struct's reading says of one field. -/
theorem field_at {t : TypeId} {fs : Array Field} {n : Nat} {cs : List Value} {xs : List (DataW H × List MemPlace)} (hlen : xs.length = fs.size)
    (h : ∀ (i : Nat) (f : Field), fs[i]? = some f → DataW.trod enc Tryz.prog w base spare held n f.type ((cs.drop f.offset).take (Tryz.prog.cellsOf f.type)) = xs[i]?)
    (i : Nat) (f : Field) (hf : fs[i]? = some f) (_ht : f.type = t) : ∃ y, DataW.trod enc Tryz.prog w base spare held n f.type ((cs.drop f.offset).take (Tryz.prog.cellsOf f.type)) = some y := by
  have hi : i < fs.size := (Array.getElem?_eq_some_iff.1 hf).1
  exact ⟨xs[i]'(by omega), (h i f hf).trans (List.getElem?_eq_getElem (by omega))⟩

set_option maxRecDepth 100000 in
theorem open_config {fuel : Nat} {cs : List Value} {x : DataW H × List MemPlace} (h : DataW.trod enc Tryz.prog w base spare held fuel 25 cs = some x) :
    ∃ c : Cfg, cs = c.cells.toList ∧ c.n ≤ maxLen := by
  obtain ⟨xs, n, _, _, hcl, hlen, hf⟩ := DataW.trod_struct Tryz.underlying25 h
  rw [cells_config] at hcl
  obtain ⟨y0, h0⟩ := field_at hlen hf 0 _ rfl rfl
  obtain ⟨y1, h1⟩ := field_at hlen hf 1 _ rfl rfl
  obtain ⟨y2, h2⟩ := field_at hlen hf 2 _ rfl rfl
  obtain ⟨y3, h3⟩ := field_at hlen hf 3 _ rfl rfl
  obtain ⟨y4, h4⟩ := field_at hlen hf 4 _ rfl rfl
  obtain ⟨y5, h5⟩ := field_at hlen hf 5 _ rfl rfl
  obtain ⟨y6, h6⟩ := field_at hlen hf 6 _ rfl rfl
  obtain ⟨y7, h7⟩ := field_at hlen hf 7 _ rfl rfl
  obtain ⟨y8, h8⟩ := field_at hlen hf 8 _ rfl rfl
  obtain ⟨y9, h9⟩ := field_at hlen hf 9 _ rfl rfl
  obtain ⟨y10, h10⟩ := field_at hlen hf 10 _ rfl rfl
  obtain ⟨y11, h11⟩ := field_at hlen hf 11 _ rfl rfl
  have hs : ∃ (A : Option Addr) (len cap : Nat), (cs.drop 0).take 1 = [.slice A len cap] ∧ len ≤ maxLen := by
    rcases open_slice Tryz.underlying22 h0 with ⟨hcs, _⟩ | ⟨a, len', cap', m, n, D, Pl, hcs, hb, hl, hm, hmm, hx, hi⟩
    · exact ⟨none, 0, 0, hcs, by decide⟩
    · exact ⟨some a, len', cap', hcs, by omega⟩
  obtain ⟨A, len, cap, e0, hl⟩ := hs
  obtain ⟨a1, e1, _, w1⟩ := DataW.trod_int Tryz.underlying3 h1
  obtain ⟨a2, e2, _, w2⟩ := DataW.trod_int Tryz.underlying3 h2
  obtain ⟨a3, e3, _, w3⟩ := DataW.trod_int Tryz.underlying3 h3
  obtain ⟨a4, e4, _, w4⟩ := DataW.trod_int Tryz.underlying3 h4
  obtain ⟨a5, e5, _, w5⟩ := DataW.trod_int Tryz.underlying3 h5
  obtain ⟨a6, e6, _, w6⟩ := DataW.trod_int Tryz.underlying3 h6
  obtain ⟨a7, e7, _, w7⟩ := DataW.trod_int Tryz.underlying3 h7
  obtain ⟨a8, e8, _, w8⟩ := DataW.trod_int Tryz.underlying3 h8
  obtain ⟨a9, e9, _, w9⟩ := DataW.trod_int Tryz.underlying3 h9
  obtain ⟨a10, e10, _, w10⟩ := DataW.trod_int Tryz.underlying3 h10
  obtain ⟨a11, e11, _, w11⟩ := DataW.trod_int Tryz.underlying23 h11
  refine ⟨⟨A, len, cap, a1, a2, a3, a4, a5, a6, a7, a8, a9, a10, a11⟩, ?_, hl⟩
  have e1' : (cs.drop 1).take 1 = [.int .i64 a1] := e1
  have e2' : (cs.drop 2).take 1 = [.int .i64 a2] := e2
  have e3' : (cs.drop 3).take 1 = [.int .i64 a3] := e3
  have e4' : (cs.drop 4).take 1 = [.int .i64 a4] := e4
  have e5' : (cs.drop 5).take 1 = [.int .i64 a5] := e5
  have e6' : (cs.drop 6).take 1 = [.int .i64 a6] := e6
  have e7' : (cs.drop 7).take 1 = [.int .i64 a7] := e7
  have e8' : (cs.drop 8).take 1 = [.int .i64 a8] := e8
  have e9' : (cs.drop 9).take 1 = [.int .i64 a9] := e9
  have e10' : (cs.drop 10).take 1 = [.int .i64 a10] := e10
  have e11' : (cs.drop 11).take 1 = [.int .u64 a11] := e11
  match cs, hcl with
  | [b0, b1, b2, b3, b4, b5, b6, b7, b8, b9, b10, b11], _ =>
    simp at e0 e1' e2' e3' e4' e5' e6' e7' e8' e9' e10' e11'
    subst e0 e1' e2' e3' e4' e5' e6' e7' e8' e9' e10' e11'
    rfl

set_option maxRecDepth 100000 in
theorem open_config_val {r : Reach} {b0 : Nat} {v : Value} {d : DataW H} {p : List MemPlace} (ok : Value.okWide Tryz.prog w r b0 25 v) (h : DataW.Trod enc Tryz.prog w base spare held 25 v d p) : ∃ c : Cfg, v = .agg c.cells ∧ c.n ≤ maxLen := by
  obtain ⟨cs, rfl, _⟩ := okWide_struct Tryz.underlying25 ok
  obtain ⟨fuel, hf⟩ := h
  obtain ⟨c, hm, hl⟩ := open_config (cs := cs.toList) hf
  exact ⟨c, by rw [← Array.toList_inj.1 hm], hl⟩
end
end Go.Proofs.YtlpnecmcncekcaaGreat.Conf
