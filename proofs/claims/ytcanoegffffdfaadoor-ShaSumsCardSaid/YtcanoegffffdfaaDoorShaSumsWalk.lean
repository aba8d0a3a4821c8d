/- The law ShaSums on what came in. -/
import Derived.Test.YtcanoegffffdfaaDoorShaSumsShort
import Derived.Test.YtcanoegffffdfaaDoorShaTwo
namespace Go.Proofs.YtcanoegffffdfaaDoor.Sha
open Go Go.ChangeShapes Go.WideShapes Go.RowKit Go.Deep

theorem sums_walk {H : Type} {enc : TypeId × Value → H} {w : World} {base : Nat} {spare : Nat → Bool} {held : Bool} (a0 : ByteArray) (_w0 : a0.size ≤ maxLen) {r : Reach} {b0 : Nat} {v : Value} {d : DataW H} {p : List MemPlace} (ok : Value.okWide Tryd.prog w r b0 23 v) (h : DataW.Trod enc Tryd.prog w base spare held 23 v d p) (hg : Tab w) :
    Calls Tryd.prog 3 #[.string a0, v] w fun e w' => e = .returned (.bool true) ∧ Below w.heap.size w w' := by
  obtain ⟨cs, rfl⟩ : ∃ cs, v = .agg cs := by
    simp only [Value.okWide, Tryd.underlying23] at ok
    obtain ⟨cs, h1, _⟩ := ok
    exact ⟨cs, h1⟩
  obtain ⟨fuel, hf⟩ := h
  obtain ⟨x, y, hS, hx, hy⟩ := open_two (cs := cs.toList) hf
  have hcs : cs = #[.int .u16 x, .int .u16 y] := Array.toList_inj.1 hS
  rw [hcs]
  rcases Nat.lt_or_ge 500 a0.size with hl | hl
  · exact sums_long x y a0 hl w hg
  · exact sums_short x y hx hy a0 hl w hg
end Go.Proofs.YtcanoegffffdfaaDoor.Sha
