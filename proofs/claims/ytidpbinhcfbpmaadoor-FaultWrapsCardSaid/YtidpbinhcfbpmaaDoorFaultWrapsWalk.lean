/- 'FaultWraps' holds for every input: the walk over what came in. -/
import Derived.Test.YtidpbinhcfbpmaaDoorFaultWraps
import Derived.Test.YtidpbinhcfbpmaaDoorNums
import Derived.Deep.Slices
import Derived.ChangeArms
namespace Go.Proofs.YtidpbinhcfbpmaaDoor.faultWraps
open Go.RowKit Errs Go.ChangeShapes Go.WideShapes Go.Deep

set_option maxRecDepth 100000 in
theorem cells_two : Tryd.prog.cellsOf 38 = 2 := by kernel_rfl
set_option maxRecDepth 100000 in
theorem cells_errno : Tryd.prog.cellsOf 22 = 1 := by kernel_rfl
set_option maxRecDepth 100000 in
theorem open_two {H : Type} {enc : TypeId × Value → H} {w : World} {base b0 : Nat} {spare : Nat → Bool} {held : Bool} {r : Reach} {v : Value} {d : DataW H} {p : List MemPlace}
    (ok : Value.okWide Tryd.prog w r b0 38 v) (h : DataW.Trod enc Tryd.prog w base spare held 38 v d p) : ∃ a b : Int, v = .agg #[.int .i64 a, .int .i64 b] := by
  obtain ⟨cs, rfl, hs⟩ : ∃ cs, v = .agg cs ∧ cs.size = Tryd.prog.cellsOf 38 := by
    simp only [Value.okWide, Tryd.underlying38] at ok
    obtain ⟨cs, h1, h2, _⟩ := ok
    exact ⟨cs, h1, h2⟩
  obtain ⟨fuel, hf0⟩ := h
  obtain ⟨xs, m, _, _, hcl, hlen, hf⟩ := DataW.trod_array Tryd.underlying38 hf0
  rw [cells_two] at hcl
  rw [cells_errno] at hf
  have g0 := (hf 0 (by decide)).trans (List.getElem?_eq_getElem (by omega))
  have g1 := (hf 1 (by decide)).trans (List.getElem?_eq_getElem (by omega))
  obtain ⟨a0, e0, _, w0⟩ := DataW.trod_int Tryd.underlying22 g0
  obtain ⟨a1, e1, _, w1⟩ := DataW.trod_int Tryd.underlying22 g1
  refine ⟨a0, a1, ?_⟩
  have hm : (Value.agg cs).cells.toList = [.int .i64 a0, .int .i64 a1] := by
    generalize (Value.agg cs).cells.toList = l at *
    match l, hcl, e0, e1 with
    | [b0, b1], _, e0, e1 => simp at e0 e1; subst e0 e1; rfl
  exact congrArg Value.agg (Array.toList_inj.1 hm)

set_option maxRecDepth 100000 in
theorem walk {H : Type} {enc : TypeId × Value → H} {spare : Nat → Bool} {held : Bool} {w : World} {base : Nat} {v0 v : Value} {d0 d : DataW H} {p0 p : List MemPlace}
    (ok0 : Value.okWide Tryd.prog w .any base 38 v0) (h0 : DataW.Trod enc Tryd.prog w 0 spare held 38 v0 d0 p0)
    (ok : Value.okWide Tryd.prog w .any base 23 v) (h : DataW.Trod enc Tryd.prog w 0 spare held 23 v d p) (x : Int) (_ : (Lit.int .i64 x).wf = true) (hg : Hg w) :
    Calls Tryd.prog 6 #[v0, v, .int .i64 x] w fun e w' => e = .returned (.bool true) ∧ Below w.heap.size w w' := by
  obtain ⟨a, b, rfl⟩ := open_two ok0 h0
  obtain ⟨xs, _, hn⟩ := open_nums ok h
  by_cases hl : 40 < xs.length
  · obtain ⟨A, cap, rfl, _⟩ := hn
    exact fw_long a b x A _ cap hl w hg
  · by_cases ha : a = 0
    · subst ha
      obtain ⟨A, cap, rfl, _⟩ := hn
      exact fw_ok b x A _ cap hl w hg
    · exact fw_some a b x ha xs v hl w hn hg
end Go.Proofs.YtidpbinhcfbpmaaDoor.faultWraps
