/- A sum that came in, opened; the law ShaDigits on it. -/
import Derived.Test.YtcanoegffffdfaaDoorShaDigits
import Derived.Test.YtcanoegffffdfaaDoorShaLaid
namespace Go.Proofs.YtcanoegffffdfaaDoor.Sha
open Go Go.ChangeShapes Go.WideShapes Go.RowKit Go.Deep

section
variable {H : Type} {enc : TypeId × Value → H} {w : World} {base : Nat} {spare : Nat → Bool} {held : Bool}
set_option maxRecDepth 100000 in
theorem open_bytes {fuel : Nat} {cs : List Value} {x : DataW H × List MemPlace} (h : DataW.trod enc Tryd.prog w base spare held fuel 25 cs = some x) :
    ∃ l : List UInt8, l.length = 32 ∧ cs = l.map fun b => Value.int .u8 (b.toNat : Int) := by
  obtain ⟨xs, m, _, _, hcl, hlen, hf⟩ := DataW.trod_array Tryd.underlying25 h
  have hc1 : Tryd.prog.cellsOf 5 = 1 := by kernel_rfl
  have hc32 : Tryd.prog.cellsOf 25 = 32 := by kernel_rfl
  rw [hc32] at hcl
  rw [hc1] at hf
  have get : ∀ i, ∃ a : UInt8, i < 32 → cs[i]? = some (.int .u8 (a.toNat : Int)) := fun i => by
    by_cases hi : i < 32
    · have h1 := hf i hi
      rw [Nat.mul_one, List.getElem?_eq_getElem (by omega)] at h1
      obtain ⟨a, e, _, wf⟩ := DataW.trod_int Tryd.underlying5 h1
      simp [Lit.wf, IntKind.min, IntKind.max, IntKind.bits, IntKind.signed] at wf
      refine ⟨UInt8.ofNat a.toNat, fun _ => ?_⟩
      have e2 := congrArg List.head? e
      rw [List.head?_take, List.head?_drop] at e2
      simp at e2
      rw [e2, UInt8.toNat_ofNat']
      congr 2
      omega
    · exact ⟨0, fun h => absurd h hi⟩
  refine ⟨(List.range 32).map fun i => Classical.choose (get i), by simp, ?_⟩
  apply List.ext_getElem?
  intro i
  by_cases hi : i < 32
  · rw [Classical.choose_spec (get i) hi, List.getElem?_map, List.getElem?_map, List.getElem?_range hi]; rfl
  · rw [List.getElem?_eq_none (by omega), List.getElem?_eq_none (by simp; omega)]

theorem digits_walk {r : Reach} {b0 : Nat} {v : Value} {d : DataW H} {p : List MemPlace} (ok : Value.okWide Tryd.prog w r b0 25 v) (h : DataW.Trod enc Tryd.prog w base spare held 25 v d p)
    (a1 : ByteArray) (_w1 : a1.size ≤ maxLen) (hg : Tab w) :
    Calls Tryd.prog 6 #[v, .string a1] w fun e w' => e = .returned (.bool true) ∧ Below w.heap.size w w' := by
  obtain ⟨cs, rfl⟩ : ∃ cs, v = .agg cs := by
    simp only [Value.okWide, Tryd.underlying25] at ok
    obtain ⟨cs, h1, _⟩ := ok
    exact ⟨cs, h1⟩
  obtain ⟨fuel, hf⟩ := h
  obtain ⟨l, hl, hS⟩ := open_bytes (cs := cs.toList) hf
  have hcs : cs = bcells l := Array.toList_inj.1 hS
  rw [hcs]
  rcases Nat.lt_or_ge 200 a1.size with hx | hx
  · exact digits_long l a1 hx w hg
  · exact digits_short l hl a1 hx w hg
end
end Go.Proofs.YtcanoegffffdfaaDoor.Sha
