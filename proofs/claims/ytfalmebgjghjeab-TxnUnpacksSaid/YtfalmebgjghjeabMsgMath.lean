/- The bytes of right messages: unlike ones have unlike bytes. -/
import Derived.Test.YtfalmebgjghjeabPacketMath
import Derived.Test.YtfalmebgjghjeabRight
namespace Go.Proofs.Ytfalmebgjghjeab.Msg
open Go Go.RowKit Num Texts
open Packet (P5 textB kS_part numS_part bytes_part)

def M7.p (m : M7) : P5 := ⟨m.c, m.f, m.s, m.t, m.d⟩
def M7.wf (m : M7) : Prop := 0 ≤ m.s ∧ m.s < 18446744073709551616 ∧ 0 ≤ m.t ∧ m.t < 18446744073709551616 ∧ m.d.size ≤ maxLen
/-- A message's bytes. -/
def M7.bytes (m : M7) : ByteArray := if m.k = 3 then kS m.k ++ m.p.bytes ++ textB m.a else kS m.k ++ m.p.bytes

theorem same_iff {x y : M7} : same x y = true ↔ x = y := by
  constructor
  · intro hs
    obtain ⟨a1, a2, a3, a4, a5, a6, a7⟩ := x
    obtain ⟨b1, b2, b3, b4, b5, b6, b7⟩ := y
    simp [same] at hs
    obtain ⟨h1, h2, h3, h4, h5, h6, h7⟩ := hs
    subst h1 h2 h3 h4 h5
    rw [ByteArray.toList_eq, ByteArray.toList_eq] at h6 h7
    rw [Go.WideShapes.bytes_inj h6, Go.WideShapes.bytes_inj h7]
  · rintro rfl
    simp [same]

theorem mright_parts {m : M7} (h : mright m = true) : m.p.right ∧ m.a.size ≤ 64 ∧ (m.k = 3 ∨ (m.a.toList = [] ∧ (m.k = 2 ∨ m.k = 4 ∨ m.k = 1))) := by
  have h := of_decide_eq_true h
  obtain ⟨hp, ha, hk⟩ := h
  have hp' : 0 ≤ m.c ∧ m.c < 4 ∧ (m.f = 0 ∨ m.f = 1) ∧ m.d.size ≤ 64 := by unfold pright at hp; exact of_decide_eq_true hp
  refine ⟨hp', ha, ?_⟩
  rcases hk with hk | ⟨h1, h2 | h2 | h2⟩
  · exact .inl hk
  · exact .inr ⟨h1, .inl h2⟩
  · exact .inr ⟨h1, .inr (.inl h2)⟩
  · exact .inr ⟨h1, .inr (.inr h2.1)⟩
theorem empty_of {a : ByteArray} (h : a.toList = []) : a = .empty := by
  rw [ByteArray.toList_eq] at h
  obtain ⟨⟨l⟩⟩ := a
  simp at h
  subst h
  rfl

theorem mbytes_part {x y : M7} (hx : mright x = true) (hxo : x.wf) (hy : mright y = true) (hyo : y.wf) {u v : List UInt8} (h : x.bytes.data.toList ++ u = y.bytes.data.toList ++ v) : x = y ∧ u = v := by
  obtain ⟨px, ax, kx⟩ := mright_parts hx
  obtain ⟨py, ay, ky⟩ := mright_parts hy
  have okx : x.p.ok := hxo
  have oky : y.p.ok := hyo
  have bx : 0 ≤ x.k ∧ x.k < 18446744073709551616 := by omega
  have bY : 0 ≤ y.k ∧ y.k < 18446744073709551616 := by omega
  have key : ∀ (z : M7), z.bytes.data.toList = (kS z.k).data.toList ++ (z.p.bytes.data.toList ++ if z.k = 3 then (textB z.a).data.toList else []) := fun z => by
    unfold M7.bytes
    by_cases hz : z.k = 3
    · rw [if_pos hz, if_pos hz]; simp
    · rw [if_neg hz, if_neg hz]; simp
  rw [key, key, List.append_assoc, List.append_assoc, List.append_assoc, List.append_assoc] at h
  obtain ⟨e1, h⟩ := kS_part bx.1 bx.2 bY.1 bY.2 h
  obtain ⟨e2, h⟩ := bytes_part px okx py oky h
  have hpk : x.c = y.c ∧ x.f = y.f ∧ x.s = y.s ∧ x.t = y.t ∧ x.d = y.d := by
    unfold M7.p at e2
    injection e2 with a b c d e
    exact ⟨a, b, c, d, e⟩
  obtain ⟨f1, f2, f3, f4, f5⟩ := hpk
  have fin : x.a = y.a ∧ u = v := by
    by_cases hz : x.k = 3
    · have hz' : y.k = 3 := by omega
      rw [if_pos hz, if_pos hz'] at h
      have tl : ∀ z : ByteArray, (textB z).data.toList = (numS z.size).data.toList ++ z.data.toList := fun z => by simp [textB, textL]
      rw [tl, tl, List.append_assoc, List.append_assoc] at h
      obtain ⟨e5, h⟩ := numS_part (by omega) (by omega) h
      obtain ⟨e6, h⟩ := List.append_inj h (by rw [Array.length_toList, Array.length_toList]; exact e5)
      refine ⟨?_, h⟩
      generalize x.a = p at e6
      generalize y.a = q at e6
      obtain ⟨⟨p⟩⟩ := p
      obtain ⟨⟨q⟩⟩ := q
      simp at e6
      rw [e6]
    · have hz' : ¬ y.k = 3 := by omega
      rw [if_neg hz, if_neg hz'] at h
      have a1 : x.a.toList = [] := by rcases kx with k | k; exact absurd k hz; exact k.1
      have a2 : y.a.toList = [] := by rcases ky with k | k; exact absurd k hz'; exact k.1
      exact ⟨by rw [empty_of a1, empty_of a2], h⟩
  refine ⟨?_, fin.2⟩
  obtain ⟨x1, x2, x3, x4, x5, x6, x7⟩ := x
  obtain ⟨y1, y2, y3, y4, y5, y6, y7⟩ := y
  simp only at e1 f1 f2 f3 f4 f5 fin
  obtain ⟨g, _⟩ := fin
  subst e1 f1 f2 f3 f4 f5 g
  rfl

end Go.Proofs.Ytfalmebgjghjeab.Msg
