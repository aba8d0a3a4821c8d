/- 'SubmitAfter': its arguments opened. -/
import Derived.Test.YtnidafgjbocfcaaSubmitAfter
namespace Go.Proofs.Ytnidafgjbocfcaa.submitAfter
open Go.RowKit Go.Deep Go.WideShapes Msg

theorem cells_u3 : Try.prog.cellsOf 26 = 3 := by kernel_rfl
theorem okWide_array' {P : Program} {w : World} {r : Reach} {base n : Nat} {t e : TypeId} {v : Value} (ht : P.underlying t = some (.array n e)) (h : Value.okWide P w r base t v) : ∃ cs, v = .agg cs := by
  simp only [Value.okWide, ht] at h
  obtain ⟨cs, h1, _⟩ := h
  exact ⟨cs, h1⟩
section
variable {H : Type} {enc : TypeId × Value → H} {w : World} {base : Nat} {spare : Nat → Bool} {held : Bool}
set_option maxRecDepth 100000 in
theorem open_u3 {fuel : Nat} {cs : List Value} {x : DataW H × List MemPlace} (h : DataW.trod enc Try.prog w base spare held fuel 26 cs = some x) :
    ∃ a b c : Int, cs = [.int .u64 a, .int .u64 b, .int .u64 c] ∧ 0 ≤ a ∧ a < 18446744073709551616 := by
  obtain ⟨xs, m, _, _, hcl, hlen, hf⟩ := DataW.trod_array Try.underlying26 h
  rw [cells_u3] at hcl
  rw [cells_u64] at hf
  have g0 := (hf 0 (by decide)).trans (List.getElem?_eq_getElem (by omega))
  have g1 := (hf 1 (by decide)).trans (List.getElem?_eq_getElem (by omega))
  have g2 := (hf 2 (by decide)).trans (List.getElem?_eq_getElem (by omega))
  obtain ⟨a0, e0, _, w0⟩ := DataW.trod_int Try.underlying22 g0
  obtain ⟨a1, e1, _, w1⟩ := DataW.trod_int Try.underlying22 g1
  obtain ⟨a2, e2, _, w2⟩ := DataW.trod_int Try.underlying22 g2
  have w0' : 0 ≤ a0 ∧ a0 < 18446744073709551616 := by
    simp [Lit.wf, IntKind.min, IntKind.max, IntKind.bits, IntKind.signed] at w0
    omega
  refine ⟨a0, a1, a2, ?_, w0'.1, w0'.2⟩
  match cs, hcl, e0, e1, e2 with
  | [b0, b1, b2], _, e0, e1, e2 => simp at e0 e1 e2; subst e0 e1 e2; rfl
end

set_option maxRecDepth 100000 in
theorem walk {H : Type} {enc : TypeId × Value → H} {spare spare' : Nat → Bool} {held held' : Bool} {w : World} {base base' : Nat} {v v' : Value} {d d' : DataW H} {p p' : List MemPlace} (k : Int) (_ : (Lit.int .i64 k).wf = true)
    (ok : Value.okWide Try.prog w .any base 25 v) (h : DataW.Trod enc Try.prog w 0 spare held 25 v d p)
    (ok' : Value.okWide Try.prog w .any base' 26 v') (h' : DataW.Trod enc Try.prog w 0 spare' held' 26 v' d' p') :
    Calls Try.prog 3 #[.int .i64 k, v, v'] w fun e w' => e = .returned (.bool true) ∧ Below w.heap.size w w' := by
  obtain ⟨t, rfl, ht⟩ := open_tx_val ok h
  obtain ⟨cs, rfl⟩ := okWide_array' Try.underlying26 ok'
  obtain ⟨fuel, hf⟩ := h'
  obtain ⟨x0, x1, x2, hx, h0, h1⟩ := open_u3 (cs := cs.toList) hf
  obtain rfl : cs = #[.int .u64 x0, .int .u64 x1, .int .u64 x2] := Array.toList_inj.1 hx
  have hc := ht.2.1
  have hl := ht.1
  unfold maxLen at hc
  exact law_any k t.side t.acc t.n t.A t.len t.cap t.ms x0 x1 x2 w ht.2.2.1 (by omega) h0 h1
end Go.Proofs.Ytnidafgjbocfcaa.submitAfter
