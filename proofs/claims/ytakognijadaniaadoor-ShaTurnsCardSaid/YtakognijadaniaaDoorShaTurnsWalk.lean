/- A state that came in, opened; the law ShaTurns on it. -/
import Derived.Test.YtakognijadaniaaDoorShaTurns
import Derived.Test.YtakognijadaniaaDoorShaLaid
namespace Go.Proofs.YtakognijadaniaaDoor.Sha
open Go Go.ChangeShapes Go.WideShapes Go.RowKit Go.Deep

theorem word_back (a : Int) (h0 : 0 ≤ a) (h1 : a < 4294967296) : ((BitVec.ofNat 32 a.toNat).toNat : Int) = a := by
  rw [BitVec.toNat_ofNat, Nat.mod_eq_of_lt (by omega)]; omega

section
variable {H : Type} {enc : TypeId × Value → H} {w : World} {base : Nat} {spare : Nat → Bool} {held : Bool}
set_option maxRecDepth 100000 in
theorem open_state {fuel : Nat} {cs : List Value} {x : DataW H × List MemPlace} (h : DataW.trod enc Tryd.prog w base spare held fuel 31 cs = some x) :
    ∃ S : St, cs = [.int .u32 (S.a.toNat : Int), .int .u32 (S.b.toNat : Int), .int .u32 (S.c.toNat : Int), .int .u32 (S.d.toNat : Int), .int .u32 (S.e.toNat : Int), .int .u32 (S.f.toNat : Int), .int .u32 (S.g.toNat : Int), .int .u32 (S.h.toNat : Int)] := by
  obtain ⟨xs, m, _, _, hcl, hlen, hf⟩ := DataW.trod_array Tryd.underlying31 h
  have hc1 : Tryd.prog.cellsOf 30 = 1 := by kernel_rfl
  have hc8 : Tryd.prog.cellsOf 31 = 8 := by kernel_rfl
  rw [hc8] at hcl
  rw [hc1] at hf
  have get : ∀ i, i < 8 → ∃ a : Int, (cs.drop i).take 1 = [.int .u32 a] ∧ 0 ≤ a ∧ a < 4294967296 := fun i hi => by
    have h1 := hf i hi
    rw [Nat.mul_one, List.getElem?_eq_getElem (by omega)] at h1
    obtain ⟨a, e, _, wf⟩ := DataW.trod_int Tryd.underlying30 h1
    simp [Lit.wf, IntKind.min, IntKind.max, IntKind.bits, IntKind.signed] at wf
    exact ⟨a, e, by omega, by omega⟩
  obtain ⟨a0, e0, l0, u0⟩ := get 0 (by decide)
  obtain ⟨a1, e1, l1, u1⟩ := get 1 (by decide)
  obtain ⟨a2, e2, l2, u2⟩ := get 2 (by decide)
  obtain ⟨a3, e3, l3, u3⟩ := get 3 (by decide)
  obtain ⟨a4, e4, l4, u4⟩ := get 4 (by decide)
  obtain ⟨a5, e5, l5, u5⟩ := get 5 (by decide)
  obtain ⟨a6, e6, l6, u6⟩ := get 6 (by decide)
  obtain ⟨a7, e7, l7, u7⟩ := get 7 (by decide)
  refine ⟨⟨BitVec.ofNat 32 a0.toNat, BitVec.ofNat 32 a1.toNat, BitVec.ofNat 32 a2.toNat, BitVec.ofNat 32 a3.toNat, BitVec.ofNat 32 a4.toNat, BitVec.ofNat 32 a5.toNat, BitVec.ofNat 32 a6.toNat, BitVec.ofNat 32 a7.toNat⟩, ?_⟩
  simp only [word_back _ l0 u0, word_back _ l1 u1, word_back _ l2 u2, word_back _ l3 u3, word_back _ l4 u4, word_back _ l5 u5, word_back _ l6 u6, word_back _ l7 u7]
  match cs, hcl with
  | [b0, b1, b2, b3, b4, b5, b6, b7], _ => simp at e0 e1 e2 e3 e4 e5 e6 e7; subst e0 e1 e2 e3 e4 e5 e6 e7; rfl

set_option maxRecDepth 100000 in
theorem turns_walk {r : Reach} {b0 : Nat} {v : Value} {d : DataW H} {p : List MemPlace} (ok : Value.okWide Tryd.prog w r b0 31 v) (h : DataW.Trod enc Tryd.prog w base spare held 31 v d p)
    (a1 : ByteArray) (_w1 : a1.size ≤ maxLen) (hg : Tab w) :
    Calls Tryd.prog 4 #[v, .string a1] w fun e w' => e = .returned (.bool true) ∧ Below w.heap.size w w' := by
  obtain ⟨cs, rfl⟩ : ∃ cs, v = .agg cs := by
    simp only [Value.okWide, Tryd.underlying31] at ok
    obtain ⟨cs, h1, _⟩ := ok
    exact ⟨cs, h1⟩
  obtain ⟨fuel, hf⟩ := h
  obtain ⟨S, hS⟩ := open_state (cs := cs.toList) hf
  have hcs : cs = #[.int .u32 (S.a.toNat : Int), .int .u32 (S.b.toNat : Int), .int .u32 (S.c.toNat : Int), .int .u32 (S.d.toNat : Int), .int .u32 (S.e.toNat : Int), .int .u32 (S.f.toNat : Int), .int .u32 (S.g.toNat : Int), .int .u32 (S.h.toNat : Int)] := Array.toList_inj.1 hS
  rw [hcs]
  exact turns_any S a1 w hg
end
end Go.Proofs.YtakognijadaniaaDoor.Sha
