/- 'TableAlike' holds for every input: the walk over what came in. -/
import Derived.Test.YtlpnecmcncekcaaGreatTabAlike
import Derived.ProofKit
namespace Go.Proofs.YtlpnecmcncekcaaGreat.Mk
open Go Go.RowKit Go.ChangeShapes Go.WideShapes Go.Deep

theorem okWide_array {P : Program} {w : World} {r : Reach} {base : Nat} {t : TypeId} {v : Value} {n : Nat} {e : TypeId} (ht : P.underlying t = some (.array n e)) (h : Value.okWide P w r base t v) : ∃ cs, v = .agg cs := by
  simp only [Value.okWide, ht] at h
  obtain ⟨cs, h1, _⟩ := h
  exact ⟨cs, h1⟩
set_option maxRecDepth 100000 in
theorem cells_arr2 : Tryz.prog.cellsOf 47 = 2 := by kernel_rfl
set_option maxRecDepth 100000 in
theorem cells_u8 : Tryz.prog.cellsOf 5 = 1 := by kernel_rfl
section
variable {H : Type} {enc : TypeId × Value → H} {w : World} {base : Nat} {spare : Nat → Bool} {held : Bool}
set_option maxRecDepth 100000 in
theorem open_two {fuel : Nat} {cs : List Value} {x : DataW H × List MemPlace} (h : DataW.trod enc Tryz.prog w base spare held fuel 47 cs = some x) :
    ∃ a b : Int, cs = [.int .u8 a, .int .u8 b] ∧ 0 ≤ a ∧ 0 ≤ b := by
  obtain ⟨xs, m, _, _, hcl, hlen, hf⟩ := DataW.trod_array Tryz.underlying47 h
  rw [cells_arr2] at hcl
  rw [cells_u8] at hf
  have g0 := (hf 0 (by decide)).trans (List.getElem?_eq_getElem (by omega))
  have g1 := (hf 1 (by decide)).trans (List.getElem?_eq_getElem (by omega))
  obtain ⟨a0, e0, _, w0⟩ := DataW.trod_int Tryz.underlying5 g0
  obtain ⟨a1, e1, _, w1⟩ := DataW.trod_int Tryz.underlying5 g1
  simp [Lit.wf, IntKind.min, IntKind.max, IntKind.signed, IntKind.bits] at w0 w1
  refine ⟨a0, a1, ?_, by omega, by omega⟩
  match cs, hcl, e0, e1 with
  | [b0, b1], _, e0, e1 => simp at e0 e1; subst e0 e1; rfl
end
set_option maxRecDepth 100000 in
theorem walk {H : Type} {enc : TypeId × Value → H} {spare : Nat → Bool} {held : Bool} {w : World} {base : Nat} {v u : Value} {d d' : DataW H} {p p' : List MemPlace}
    (ok : Value.okWide Tryz.prog w .any base 47 v) (h : DataW.Trod enc Tryz.prog w 0 spare held 47 v d p)
    (ok' : Value.okWide Tryz.prog w .any base 26 u) (h' : DataW.Trod enc Tryz.prog w 0 spare held 26 u d' p') :
    Calls Tryz.prog 4 #[v, u] w fun e w' => e = .returned (.bool true) ∧ Below w.heap.size w w' := by
  obtain ⟨A, len, cap, qs, rfl, hl, hr⟩ := open_ops ok' h'
  obtain ⟨cs, rfl⟩ := okWide_array Tryz.underlying47 ok
  obtain ⟨fuel, hf⟩ := h
  obtain ⟨a, b, hcs, ha, hb⟩ := open_two (cs := cs.toList) hf
  obtain rfl : cs = #[.int .u8 a, .int .u8 b] := Array.toList_inj.1 hcs
  by_cases hc : 100 < len
  · exact alike_long a b A len cap hc w
  · exact alike_few a b ha hb A len cap qs w hr (by omega)
end Go.Proofs.YtlpnecmcncekcaaGreat.Mk
