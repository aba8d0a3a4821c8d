/- The bytes of right packets are not each other's begin. -/
import Derived.Test.YtnjcenbmdcogpaaGreatDoorPacket
import Derived.Laws.Strings
import Derived.WideShapes
namespace Go.Proofs.YtnjcenbmdcogpaaGreatDoor.Packet
open Go.RowKit Num Texts

theorem numS_part {a b : Nat} (ha : a < 18446744073709551616) (hb : b < 18446744073709551616) {x y : List UInt8} (h : (numS a).data.toList ++ x = (numS b).data.toList ++ y) : a = b ∧ x = y := by
  have la := dig_len (m := a) (k := 8) (Nat.lt_of_lt_of_le ha (by decide))
  have lb := dig_len (m := b) (k := 8) (Nat.lt_of_lt_of_le hb (by decide))
  have h' := h
  rw [numS_list, numS_list, List.cons_append, List.cons_append] at h'
  injection h' with h1 _
  have hl : (dig a).length = (dig b).length := by
    have := congrArg UInt8.toNat h1
    simp at this
    omega
  have hs : (numS a).data.toList.length = (numS b).data.toList.length := by
    rw [numS_list, numS_list]
    simp [bytesOf, hl]
  obtain ⟨e1, e2⟩ := List.append_inj h hs
  refine ⟨?_, e2⟩
  rcases Nat.lt_trichotomy a b with hlt | rfl | hlt
  · exact absurd e1 (numS_ne a b hlt)
  · rfl
  · exact absurd e1.symm (numS_ne b a hlt)

theorem kS_part {a b : Int} (a0 : 0 ≤ a) (a1 : a < 18446744073709551616) (b0 : 0 ≤ b) (b1 : b < 18446744073709551616) {x y : List UInt8} (h : (kS a).data.toList ++ x = (kS b).data.toList ++ y) : a = b ∧ x = y := by
  unfold kS at h
  obtain ⟨e1, e2⟩ := numS_part (Nat.mod_lt _ (by decide)) (Nat.mod_lt _ (by decide)) h
  refine ⟨?_, e2⟩
  rw [Nat.mod_eq_of_lt (by omega), Nat.mod_eq_of_lt (by omega)] at e1
  omega

theorem bytes_list (p : P5) : p.bytes.data.toList = (kS p.c).data.toList ++ ((kS p.f).data.toList ++ ((kS p.s).data.toList ++ ((kS p.t).data.toList ++ ((numS p.d.size).data.toList ++ p.d.data.toList)))) := by
  simp [P5.bytes, textB, textL]

theorem bytes_part {p q : P5} (hp : p.right) (hpo : p.ok) (hq : q.right) (hqo : q.ok) {x y : List UInt8} (h : p.bytes.data.toList ++ x = q.bytes.data.toList ++ y) : p = q ∧ x = y := by
  rw [bytes_list, bytes_list] at h
  simp only [List.append_assoc] at h
  obtain ⟨p0, p1, p2, p3⟩ := hp
  obtain ⟨q0, q1, q2, q3⟩ := hq
  obtain ⟨r0, r1, r2, r3, _⟩ := hpo
  obtain ⟨s0, s1, s2, s3, _⟩ := hqo
  obtain ⟨e1, h⟩ := kS_part p0 (by omega) q0 (by omega) h
  obtain ⟨e2, h⟩ := kS_part (by omega) (by omega) (by omega) (by omega) h
  obtain ⟨e3, h⟩ := kS_part r0 r1 s0 s1 h
  obtain ⟨e4, h⟩ := kS_part r2 r3 s2 s3 h
  obtain ⟨e5, h⟩ := numS_part (by omega) (by omega) h
  obtain ⟨e6, h⟩ := List.append_inj h (by rw [Array.length_toList, Array.length_toList]; exact e5)
  refine ⟨?_, h⟩
  obtain ⟨a1, a2, a3, a4, ⟨⟨a5⟩⟩⟩ := p
  obtain ⟨b1, b2, b3, b4, ⟨⟨b5⟩⟩⟩ := q
  simp at e1 e2 e3 e4 e6
  subst e1 e2 e3 e4 e6
  rfl

theorem bytes_inj {p q : P5} (hp : p.right) (hpo : p.ok) (hq : q.right) (hqo : q.ok) (h : p.bytes = q.bytes) : p = q :=
  (bytes_part (x := []) (y := []) hp hpo hq hqo (by rw [h])).1

/-- The begin of a longer one's bytes is not the other's. -/
theorem bytes_begin {p q : P5} (hp : p.right) (hpo : p.ok) (hq : q.right) (hqo : q.ok) (hne : p ≠ q) : q.bytes.extract 0 p.bytes.size ≠ p.bytes := fun h => by
  have e : q.bytes.data.toList = p.bytes.data.toList ++ q.bytes.data.toList.drop p.bytes.size := by
    have h2 := congrArg (fun b => b.data.toList) h
    simp at h2
    have h3 : q.bytes.data.toList.take p.bytes.size = p.bytes.data.toList := by
      first | exact h2 | simpa using h2
    rw [← h3]
    exact (List.take_append_drop _ _).symm
  exact hne (bytes_part (x := q.bytes.data.toList.drop p.bytes.size) (y := []) hp hpo hq hqo (by rw [← e, List.append_nil])).1

def same5 (x y : P5) : Bool := x.c == y.c && (x.f == y.f && (x.s == y.s && (x.t == y.t && x.d.toList == y.d.toList)))
theorem eq_packet (x y : P5) (w : World) : (binOp .eql 24 (.agg #[.int .i64 x.c, .int .i64 x.f, .int .u64 x.s, .int .u64 x.t, .string x.d]) (.agg #[.int .i64 y.c, .int .i64 y.f, .int .u64 y.s, .int .u64 y.t, .string y.d])).run Tryz.prog w = .ok (.bool (same5 x y)) w := by
  unfold same5
  go_simp
  repeat' split
  all_goals simp_all
theorem same5_self (x : P5) : same5 x x = true := by simp [same5]
theorem same5_ne {x y : P5} (h : x ≠ y) : same5 x y = false := by
  rw [Bool.eq_false_iff]
  intro hs
  apply h
  obtain ⟨a1, a2, a3, a4, a5⟩ := x
  obtain ⟨b1, b2, b3, b4, b5⟩ := y
  simp [same5] at hs
  obtain ⟨h1, h2, h3, h4, h5⟩ := hs
  subst h1 h2 h3 h4
  rw [ByteArray.toList_eq, ByteArray.toList_eq] at h5
  rw [Go.WideShapes.bytes_inj h5]
end Go.Proofs.YtnjcenbmdcogpaaGreatDoor.Packet
