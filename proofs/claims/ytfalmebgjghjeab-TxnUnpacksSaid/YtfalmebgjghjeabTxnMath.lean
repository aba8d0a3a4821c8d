/- The bytes of right messages, and of right transactions: unlike ones have unlike bytes. -/
import Derived.Test.YtfalmebgjghjeabMsgMath
import Derived.Test.YtfalmebgjghjeabTxRight
import Derived.Test.YtfalmebgjghjeabTx0
namespace Go.Proofs.Ytfalmebgjghjeab.Msg
open Go Go.RowKit Num Texts
open Packet (P5 textB kS_part numS_part bytes_part)

def mL (ms : List M7) : List UInt8 := ms.flatMap fun m => m.bytes.data.toList
def mB (ms : List M7) : ByteArray := ⟨(mL ms).toArray⟩
theorem mL_part : ∀ {xs ys : List M7} {u v : List UInt8}, xs.length = ys.length → (∀ m ∈ xs, mright m = true ∧ m.wf) → (∀ m ∈ ys, mright m = true ∧ m.wf) → mL xs ++ u = mL ys ++ v → xs = ys ∧ u = v
  | [], [], u, v, _, _, _, h => ⟨rfl, by simpa [mL] using h⟩
  | [], y :: ys, _, _, hl, _, _, _ => by simp at hl
  | x :: xs, [], _, _, hl, _, _, _ => by simp at hl
  | x :: xs, y :: ys, u, v, hl, hx, hy, h => by
    have h' : x.bytes.data.toList ++ (mL xs ++ u) = y.bytes.data.toList ++ (mL ys ++ v) := by simpa [mL] using h
    obtain ⟨e1, h2⟩ := mbytes_part (hx x (by simp)).1 (hx x (by simp)).2 (hy y (by simp)).1 (hy y (by simp)).2 h'
    obtain ⟨e2, e3⟩ := mL_part (by simpa using hl) (fun m hm => hx m (by simp [hm])) (fun m hm => hy m (by simp [hm])) h2
    exact ⟨by rw [e1, e2], e3⟩

/-- A transaction's bytes. -/
def tB (side acc n : Int) (ms : List M7) : ByteArray := kS side ++ kS acc ++ kS n ++ kS (ms.length : Int) ++ mB ms

theorem txright_parts {side acc : Int} {ms : List M7} (h : txright side acc ms = true) : (side = 0 ∨ side = 1) ∧ 0 ≤ acc ∧ acc ≤ 4 ∧ ms.length ≤ 8 ∧ ∀ m ∈ ms, mright m = true := by
  simp only [txright, Bool.and_eq_true, decide_eq_true_eq, List.all_eq_true] at h
  obtain ⟨⟨h1, h2, h3, h4⟩, h5⟩ := h
  exact ⟨h1, h2, h3, h4, fun m hm => by have := h5 m hm; simp only [mgood, Bool.and_eq_true] at this; exact this.1⟩

theorem tB_inj {s1 a1 n1 s2 a2 n2 : Int} {m1 m2 : List M7} (h1 : txright s1 a1 m1 = true) (h2 : txright s2 a2 m2 = true) (hn1 : 0 ≤ n1 ∧ n1 < 18446744073709551616) (hn2 : 0 ≤ n2 ∧ n2 < 18446744073709551616) (hw1 : ∀ m ∈ m1, m.wf) (hw2 : ∀ m ∈ m2, m.wf)
    (h : tB s1 a1 n1 m1 = tB s2 a2 n2 m2) : s1 = s2 ∧ a1 = a2 ∧ n1 = n2 ∧ m1 = m2 := by
  obtain ⟨p1, p2, p3, p4, p5⟩ := txright_parts h1
  obtain ⟨q1, q2, q3, q4, q5⟩ := txright_parts h2
  have h := congrArg (fun b => b.data.toList) h
  simp only [tB, mB] at h
  have h' : (kS s1).data.toList ++ ((kS a1).data.toList ++ ((kS n1).data.toList ++ ((kS (m1.length : Int)).data.toList ++ (mL m1 ++ [])))) = (kS s2).data.toList ++ ((kS a2).data.toList ++ ((kS n2).data.toList ++ ((kS (m2.length : Int)).data.toList ++ (mL m2 ++ [])))) := by simpa using h
  obtain ⟨e1, h'⟩ := kS_part (by omega) (by omega) (by omega) (by omega) h'
  obtain ⟨e2, h'⟩ := kS_part (by omega) (by omega) (by omega) (by omega) h'
  obtain ⟨e3, h'⟩ := kS_part hn1.1 hn1.2 hn2.1 hn2.2 h'
  obtain ⟨e4, h'⟩ := kS_part (by omega) (by omega) (by omega) (by omega) h'
  obtain ⟨e5, _⟩ := mL_part (by omega) (fun m hm => ⟨p5 m hm, hw1 m hm⟩) (fun m hm => ⟨q5 m hm, hw2 m hm⟩) h'
  exact ⟨e1, e2, e3, e5⟩

/-- Are messages the same, one by one? -/
def msame : List M7 → List M7 → Bool
  | [], [] => true
  | x :: xs, y :: ys => same x y && msame xs ys
  | _, _ => false
theorem msame_iff : ∀ {xs ys : List M7}, msame xs ys = true ↔ xs = ys
  | [], [] => by simp [msame]
  | [], y :: ys => by simp [msame]
  | x :: xs, [] => by simp [msame]
  | x :: xs, y :: ys => by
    rw [msame, Bool.and_eq_true, same_iff, msame_iff]
    constructor
    · rintro ⟨rfl, rfl⟩; rfl
    · intro h
      injection h with h1 h2
      exact ⟨h1, h2⟩
theorem msame_self (xs : List M7) : msame xs xs = true := msame_iff.2 rfl
theorem msame_len {xs ys : List M7} (h : xs.length ≠ ys.length) : msame xs ys = false := by
  rw [Bool.eq_false_iff]
  intro hs
  exact h (by rw [msame_iff.1 hs])
theorem drop_getD (ms : List M7) (k : Nat) (h : k < ms.length) : ms.drop k = ms.getD k m0 :: ms.drop (k + 1) := by
  rw [List.drop_eq_getElem_cons h, List.getD_eq_getElem?_getD, List.getElem?_eq_getElem h]
  rfl
/-- Are transactions the same? -/
def tsame (a b : T4) : Bool := a.side == b.side && (a.acc == b.acc && (a.n == b.n && msame a.ms b.ms))
theorem tsame_self (a : T4) : tsame a a = true := by simp [tsame, msame_self]
end Go.Proofs.Ytfalmebgjghjeab.Msg
