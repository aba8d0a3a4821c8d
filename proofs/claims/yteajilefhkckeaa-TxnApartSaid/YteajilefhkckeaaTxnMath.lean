/- The bytes of right messages, and of right transactions: unlike ones have unlike bytes. -/
import Derived.Test.YteajilefhkckeaaPacketMath
import Derived.Test.YteajilefhkckeaaTxRight
import Derived.Test.YteajilefhkckeaaTx
namespace Go.Proofs.Yteajilefhkckeaa.Msg
open Go Go.RowKit Num Texts
open Packet (P5 textB kS_part numS_part bytes_part)

def M7.p (m : M7) : P5 := ⟨m.c, m.f, m.s, m.t, m.d⟩
def M7.wf (m : M7) : Prop := 0 ≤ m.s ∧ m.s < 18446744073709551616 ∧ 0 ≤ m.t ∧ m.t < 18446744073709551616 ∧ m.d.size ≤ maxLen
/-- A message's bytes. -/
def M7.bytes (m : M7) : ByteArray := if m.k = 3 then kS m.k ++ m.p.bytes ++ textB m.a else kS m.k ++ m.p.bytes

theorem same_iff {x y : M7} : same x y = true ↔ x = y := by
  constructor
  · intro hs
    obtain ⟨a1, a2, a3, a4, a5, a6, a7⟩ := x
    obtain ⟨b1, b2, b3, b4, b5, b6, b7⟩ := y
    simp [same] at hs
    obtain ⟨h1, h2, h3, h4, h5, h6, h7⟩ := hs
    subst h1 h2 h3 h4 h5
    rw [ByteArray.toList_eq, ByteArray.toList_eq] at h6 h7
    rw [Go.WideShapes.bytes_inj h6, Go.WideShapes.bytes_inj h7]
  · rintro rfl
    simp [same]

theorem mright_parts {m : M7} (h : mright m = true) : m.p.right ∧ m.a.size ≤ 64 ∧ (m.k = 3 ∨ (m.a.toList = [] ∧ (m.k = 2 ∨ m.k = 4 ∨ m.k = 1))) := by
  have h := of_decide_eq_true h
  obtain ⟨hp, ha, hk⟩ := h
  have hp' : 0 ≤ m.c ∧ m.c < 4 ∧ (m.f = 0 ∨ m.f = 1) ∧ m.d.size ≤ 64 := by unfold pright at hp; exact of_decide_eq_true hp
  refine ⟨hp', ha, ?_⟩
  rcases hk with hk | ⟨h1, h2 | h2 | h2⟩
  · exact .inl hk
  · exact .inr ⟨h1, .inl h2⟩
  · exact .inr ⟨h1, .inr (.inl h2)⟩
  · exact .inr ⟨h1, .inr (.inr h2.1)⟩
theorem empty_of {a : ByteArray} (h : a.toList = []) : a = .empty := by
  rw [ByteArray.toList_eq] at h
  obtain ⟨⟨l⟩⟩ := a
  simp at h
  subst h
  rfl

theorem mbytes_part {x y : M7} (hx : mright x = true) (hxo : x.wf) (hy : mright y = true) (hyo : y.wf) {u v : List UInt8} (h : x.bytes.data.toList ++ u = y.bytes.data.toList ++ v) : x = y ∧ u = v := by
  obtain ⟨px, ax, kx⟩ := mright_parts hx
  obtain ⟨py, ay, ky⟩ := mright_parts hy
  have okx : x.p.ok := hxo
  have oky : y.p.ok := hyo
  have bx : 0 ≤ x.k ∧ x.k < 18446744073709551616 := by omega
  have bY : 0 ≤ y.k ∧ y.k < 18446744073709551616 := by omega
  have key : ∀ (z : M7), z.bytes.data.toList = (kS z.k).data.toList ++ (z.p.bytes.data.toList ++ if z.k = 3 then (textB z.a).data.toList else []) := fun z => by
    unfold M7.bytes
    by_cases hz : z.k = 3
    · rw [if_pos hz, if_pos hz]; simp
    · rw [if_neg hz, if_neg hz]; simp
  rw [key, key, List.append_assoc, List.append_assoc, List.append_assoc, List.append_assoc] at h
  obtain ⟨e1, h⟩ := kS_part bx.1 bx.2 bY.1 bY.2 h
  obtain ⟨e2, h⟩ := bytes_part px okx py oky h
  have hpk : x.c = y.c ∧ x.f = y.f ∧ x.s = y.s ∧ x.t = y.t ∧ x.d = y.d := by
    unfold M7.p at e2
    injection e2 with a b c d e
    exact ⟨a, b, c, d, e⟩
  obtain ⟨f1, f2, f3, f4, f5⟩ := hpk
  have fin : x.a = y.a ∧ u = v := by
    by_cases hz : x.k = 3
    · have hz' : y.k = 3 := by omega
      rw [if_pos hz, if_pos hz'] at h
      have tl : ∀ z : ByteArray, (textB z).data.toList = (numS z.size).data.toList ++ z.data.toList := fun z => by simp [textB, textL]
      rw [tl, tl, List.append_assoc, List.append_assoc] at h
      obtain ⟨e5, h⟩ := numS_part (by omega) (by omega) h
      obtain ⟨e6, h⟩ := List.append_inj h (by rw [Array.length_toList, Array.length_toList]; exact e5)
      refine ⟨?_, h⟩
      generalize x.a = p at e6
      generalize y.a = q at e6
      obtain ⟨⟨p⟩⟩ := p
      obtain ⟨⟨q⟩⟩ := q
      simp at e6
      rw [e6]
    · have hz' : ¬ y.k = 3 := by omega
      rw [if_neg hz, if_neg hz'] at h
      have a1 : x.a.toList = [] := by rcases kx with k | k; exact absurd k hz; exact k.1
      have a2 : y.a.toList = [] := by rcases ky with k | k; exact absurd k hz'; exact k.1
      exact ⟨by rw [empty_of a1, empty_of a2], h⟩
  refine ⟨?_, fin.2⟩
  obtain ⟨x1, x2, x3, x4, x5, x6, x7⟩ := x
  obtain ⟨y1, y2, y3, y4, y5, y6, y7⟩ := y
  simp only at e1 f1 f2 f3 f4 f5 fin
  obtain ⟨g, _⟩ := fin
  subst e1 f1 f2 f3 f4 f5 g
  rfl

def mL (ms : List M7) : List UInt8 := ms.flatMap fun m => m.bytes.data.toList
def mB (ms : List M7) : ByteArray := ⟨(mL ms).toArray⟩
theorem mL_part : ∀ {xs ys : List M7} {u v : List UInt8}, xs.length = ys.length → (∀ m ∈ xs, mright m = true ∧ m.wf) → (∀ m ∈ ys, mright m = true ∧ m.wf) → mL xs ++ u = mL ys ++ v → xs = ys ∧ u = v
  | [], [], u, v, _, _, _, h => ⟨rfl, by simpa [mL] using h⟩
  | [], y :: ys, _, _, hl, _, _, _ => by simp at hl
  | x :: xs, [], _, _, hl, _, _, _ => by simp at hl
  | x :: xs, y :: ys, u, v, hl, hx, hy, h => by
    have h' : x.bytes.data.toList ++ (mL xs ++ u) = y.bytes.data.toList ++ (mL ys ++ v) := by simpa [mL] using h
    obtain ⟨e1, h2⟩ := mbytes_part (hx x (by simp)).1 (hx x (by simp)).2 (hy y (by simp)).1 (hy y (by simp)).2 h'
    obtain ⟨e2, e3⟩ := mL_part (by simpa using hl) (fun m hm => hx m (by simp [hm])) (fun m hm => hy m (by simp [hm])) h2
    exact ⟨by rw [e1, e2], e3⟩

/-- A transaction's bytes. -/
def tB (side acc n : Int) (ms : List M7) : ByteArray := kS side ++ kS acc ++ kS n ++ kS (ms.length : Int) ++ mB ms

theorem txright_parts {side acc : Int} {ms : List M7} (h : txright side acc ms = true) : (side = 0 ∨ side = 1) ∧ 0 ≤ acc ∧ acc ≤ 4 ∧ ms.length ≤ 8 ∧ ∀ m ∈ ms, mright m = true := by
  simp only [txright, Bool.and_eq_true, decide_eq_true_eq, List.all_eq_true] at h
  obtain ⟨⟨h1, h2, h3, h4⟩, h5⟩ := h
  exact ⟨h1, h2, h3, h4, fun m hm => by have := h5 m hm; simp only [mgood, Bool.and_eq_true] at this; exact this.1⟩

theorem tB_inj {s1 a1 n1 s2 a2 n2 : Int} {m1 m2 : List M7} (h1 : txright s1 a1 m1 = true) (h2 : txright s2 a2 m2 = true) (hn1 : 0 ≤ n1 ∧ n1 < 18446744073709551616) (hn2 : 0 ≤ n2 ∧ n2 < 18446744073709551616) (hw1 : ∀ m ∈ m1, m.wf) (hw2 : ∀ m ∈ m2, m.wf)
    (h : tB s1 a1 n1 m1 = tB s2 a2 n2 m2) : s1 = s2 ∧ a1 = a2 ∧ n1 = n2 ∧ m1 = m2 := by
  obtain ⟨p1, p2, p3, p4, p5⟩ := txright_parts h1
  obtain ⟨q1, q2, q3, q4, q5⟩ := txright_parts h2
  have h := congrArg (fun b => b.data.toList) h
  simp only [tB, mB] at h
  have h' : (kS s1).data.toList ++ ((kS a1).data.toList ++ ((kS n1).data.toList ++ ((kS (m1.length : Int)).data.toList ++ (mL m1 ++ [])))) = (kS s2).data.toList ++ ((kS a2).data.toList ++ ((kS n2).data.toList ++ ((kS (m2.length : Int)).data.toList ++ (mL m2 ++ [])))) := by simpa using h
  obtain ⟨e1, h'⟩ := kS_part (by omega) (by omega) (by omega) (by omega) h'
  obtain ⟨e2, h'⟩ := kS_part (by omega) (by omega) (by omega) (by omega) h'
  obtain ⟨e3, h'⟩ := kS_part hn1.1 hn1.2 hn2.1 hn2.2 h'
  obtain ⟨e4, h'⟩ := kS_part (by omega) (by omega) (by omega) (by omega) h'
  obtain ⟨e5, _⟩ := mL_part (by omega) (fun m hm => ⟨p5 m hm, hw1 m hm⟩) (fun m hm => ⟨q5 m hm, hw2 m hm⟩) h'
  exact ⟨e1, e2, e3, e5⟩

/-- Are messages the same, one by one? -/
def msame : List M7 → List M7 → Bool
  | [], [] => true
  | x :: xs, y :: ys => same x y && msame xs ys
  | _, _ => false
theorem msame_iff : ∀ {xs ys : List M7}, msame xs ys = true ↔ xs = ys
  | [], [] => by simp [msame]
  | [], y :: ys => by simp [msame]
  | x :: xs, [] => by simp [msame]
  | x :: xs, y :: ys => by
    rw [msame, Bool.and_eq_true, same_iff, msame_iff]
    constructor
    · rintro ⟨rfl, rfl⟩; rfl
    · intro h
      injection h with h1 h2
      exact ⟨h1, h2⟩
theorem msame_self (xs : List M7) : msame xs xs = true := msame_iff.2 rfl
theorem msame_len {xs ys : List M7} (h : xs.length ≠ ys.length) : msame xs ys = false := by
  rw [Bool.eq_false_iff]
  intro hs
  exact h (by rw [msame_iff.1 hs])
theorem drop_getD (ms : List M7) (k : Nat) (h : k < ms.length) : ms.drop k = ms.getD k m0 :: ms.drop (k + 1) := by
  rw [List.drop_eq_getElem_cons h, List.getD_eq_getElem?_getD, List.getElem?_eq_getElem h]
  rfl
/-- Are transactions the same? -/
def tsame (a b : T4) : Bool := a.side == b.side && (a.acc == b.acc && (a.n == b.n && msame a.ms b.ms))
theorem tsame_self (a : T4) : tsame a a = true := by simp [tsame, msame_self]
end Go.Proofs.Yteajilefhkckeaa.Msg
