import Derived.Test.YtnjcenbmdcogpaaGreatDoorNumB
import Derived.Test.YtnjcenbmdcogpaaGreatDoorTexts
import Derived.Deep.RegionHeld3
import Derived.Laws.Strings
import Derived.WideShapes
/- packet.Right, packet.Put: which packets are right, and their bytes. -/
namespace Go.Proofs.YtnjcenbmdcogpaaGreatDoor.Packet
open Go.RowKit Num Texts

/-- A packet's fields. -/
structure P5 where
  c : Int
  f : Int
  s : Int
  t : Int
  d : ByteArray
def P5.cells (p : P5) : Array Value := #[.int .i64 p.c, .int .i64 p.f, .int .u64 p.s, .int .u64 p.t, .string p.d]
def P5.ok (p : P5) : Prop := 0 ≤ p.s ∧ p.s < 18446744073709551616 ∧ 0 ≤ p.t ∧ p.t < 18446744073709551616 ∧ p.d.size ≤ maxLen
def P5.right (p : P5) : Prop := 0 ≤ p.c ∧ p.c < 4 ∧ (p.f = 0 ∨ p.f = 1) ∧ p.d.size ≤ 64

def textB (d : ByteArray) : ByteArray := ⟨(textL d).toArray⟩
def P5.bytes (p : P5) : ByteArray := kS p.c ++ kS p.f ++ kS p.s ++ kS p.t ++ textB p.d

/-- What holds from a packet's box on. -/
def PBox (w : World) (p : P5) (W : World) : Prop :=
  w.heap.size < W.heap.size ∧ Below w.heap.size w W ∧ W.cell? ⟨w.heap.size, 0, none⟩ = some (.int .i64 p.c) ∧ W.cell? ⟨w.heap.size, 1, none⟩ = some (.int .i64 p.f) ∧ W.cell? ⟨w.heap.size, 2, none⟩ = some (.int .u64 p.s) ∧ W.cell? ⟨w.heap.size, 3, none⟩ = some (.int .u64 p.t) ∧ W.cell? ⟨w.heap.size, 4, none⟩ = some (.string p.d)
section
variable {w W w1 : World} {p : P5}
theorem PBox.new (w : World) (p : P5) (t : TypeId) : PBox w p (w.alloc (.cells #[.int .i64 p.c, .int .i64 p.f, .int .u64 p.s, .int .u64 p.t, .string p.d] t)) :=
  ⟨by simp, (Below.refl _ _).alloc (Nat.le_refl _) _, by simp, by simp, by simp, by simp, by simp⟩
theorem PBox.drew (h : PBox w p W) : PBox w p W.drew := ⟨h.1, h.2.1.drew, h.2.2⟩
theorem PBox.call (h : PBox w p W) (hb : Below W.heap.size W w1) : PBox w p w1 :=
  ⟨Nat.lt_of_lt_of_le h.1 hb.size, h.2.1.trans (hb.mono (Nat.le_of_lt h.1)), (hb.cell h.1).trans h.2.2.1, (hb.cell h.1).trans h.2.2.2.1, (hb.cell h.1).trans h.2.2.2.2.1, (hb.cell h.1).trans h.2.2.2.2.2.1, (hb.cell h.1).trans h.2.2.2.2.2.2⟩
end

set_option maxHeartbeats 1000000 in
theorem right_yes (p : P5) (h : p.right) (w : World) :
    Calls Tryz.prog 34 #[.agg #[.int .i64 p.c, .int .i64 p.f, .int .u64 p.s, .int .u64 p.t, .string p.d]] w fun e w' => e = .returned (.bool true) ∧ Below w.heap.size w w' := by
  obtain ⟨h0, h1, h2, h3⟩ := h
  have h3 : (p.d.size : Int) ≤ 64 := by omega
  rcases h2 with h2 | h2
  · go_enter Tryz.func34, Tryz.ntmps34
    go_wp2
    go_ret
    exact ⟨rfl, (Below.refl _ _).alloc (Nat.le_refl _) _⟩
  · go_enter Tryz.func34, Tryz.ntmps34
    go_wp2
    go_ret
    exact ⟨rfl, (Below.refl _ _).alloc (Nat.le_refl _) _⟩

set_option maxHeartbeats 1000000 in
theorem right_no (p : P5) (h : ¬ p.right) (w : World) :
    Calls Tryz.prog 34 #[.agg #[.int .i64 p.c, .int .i64 p.f, .int .u64 p.s, .int .u64 p.t, .string p.d]] w fun e w' => e = .returned (.bool false) ∧ Below w.heap.size w w' := by
  by_cases h0 : 0 ≤ p.c
  · by_cases h1 : p.c < 4
    · by_cases h2 : p.f = 0
      · have h3 : ¬ (p.d.size : Int) ≤ 64 := fun h3 => h ⟨h0, h1, .inl h2, by omega⟩
        have h4 : (64 : Int) < (p.d.size : Int) := by omega
        clear h
        go_enter Tryz.func34, Tryz.ntmps34
        go_wp2
        go_ret
        exact ⟨rfl, (Below.refl _ _).alloc (Nat.le_refl _) _⟩
      · by_cases h3 : p.f = 1
        · have h3 : ¬ (p.d.size : Int) ≤ 64 := fun h4 => h ⟨h0, h1, .inr h3, by omega⟩
          have h4 : (64 : Int) < (p.d.size : Int) := by omega
          clear h
          go_enter Tryz.func34, Tryz.ntmps34
          go_wp2
          go_ret
          exact ⟨rfl, (Below.refl _ _).alloc (Nat.le_refl _) _⟩
        · have h2b : (p.f == 0) = false := by simpa using h2
          have h3b : (p.f == 1) = false := by simpa using h3
          clear h
          go_enter Tryz.func34, Tryz.ntmps34
          go_wp2
          go_ret
          exact ⟨rfl, (Below.refl _ _).alloc (Nat.le_refl _) _⟩
    · have h1' : ¬ p.c < 4 := h1
      clear h
      go_enter Tryz.func34, Tryz.ntmps34
      go_wp2
      go_ret
      exact ⟨rfl, (Below.refl _ _).alloc (Nat.le_refl _) _⟩
  · clear h
    go_enter Tryz.func34, Tryz.ntmps34
    go_wp2
    go_ret
    exact ⟨rfl, (Below.refl _ _).alloc (Nat.le_refl _) _⟩

theorem kS_4 (x y z u : Int) : (kS x ++ kS y ++ kS z).size + (kS u).size ≤ 9223372036854775807 := by rw [ByteArray.size_append, ByteArray.size_append]; have := kS_size x; have := kS_size y; have := kS_size z; have := kS_size u; omega
theorem add_run4 (P : Program) (w : World) (x y z u : Int) : (Op.stringOp .add (kS x ++ kS y ++ kS z) (kS u)).run P w = .ok (.string (kS x ++ kS y ++ kS z ++ kS u)) w := run_string_add_sum w _ _ (kS_4 x y z u)
theorem textB_size (d : ByteArray) (h : d.size ≤ 64) : (textB d).size ≤ 73 := by
  have hn : (numS d.size).size ≤ 9 := by
    have := dig_len (m := d.size) (k := 8) (Nat.lt_of_le_of_lt h (by decide))
    unfold numS
    rw [ByteArray.size_append, strOfNums_size, strOfNums_size, List.length_singleton]
    omega
  have h1 : (textB d).size = (textL d).length := List.size_toArray
  rw [h1]
  unfold textL
  rw [List.length_append]
  have h2 : (numS d.size).data.toList.length = (numS d.size).size := by rw [Array.length_toList]; rfl
  have h3 : d.data.toList.length = d.size := by rw [Array.length_toList]; rfl
  omega
theorem add_run5 (P : Program) (w : World) (x y z u : Int) (d : ByteArray) (h : d.size ≤ 64) : (Op.stringOp .add (kS x ++ kS y ++ kS z ++ kS u) (textB d)).run P w = .ok (.string (kS x ++ kS y ++ kS z ++ kS u ++ textB d)) w :=
  run_string_add_sum w _ _ (by rw [ByteArray.size_append]; have := kS_4 x y z u; have := textB_size d h; rw [ByteArray.size_append, ByteArray.size_append] at *; have := kS_size x; have := kS_size y; have := kS_size z; have := kS_size u; omega)

set_option maxHeartbeats 1000000 in
theorem put_no (p : P5) (h : ¬ p.right) (w : World) :
    Calls Tryz.prog 27 #[.agg #[.int .i64 p.c, .int .i64 p.f, .int .u64 p.s, .int .u64 p.t, .string p.d]] w fun e w' => e = .returned (.tuple #[.string ⟨#[]⟩, .int .i64 1]) ∧ Below w.heap.size w w' := by
  have HR := Lib.hid (right_no p h)
  clear h
  go_enter Tryz.func27, Tryz.ntmps27
  go_wp2_with fail
  refine (HR.out _).mono ?_
  rintro e w1 ⟨rfl, b1⟩
  go_wp2
  go_ret2
  exact ⟨rfl, below_box b1⟩

set_option maxRecDepth 20000 in
set_option maxHeartbeats 1000000 in
theorem put_yes (p : P5) (h : p.right) (ho : p.ok) (w : World) :
    Calls Tryz.prog 27 #[.agg #[.int .i64 p.c, .int .i64 p.f, .int .u64 p.s, .int .u64 p.t, .string p.d]] w fun e w' => e = .returned (.tuple #[.string p.bytes, .int .i64 0]) ∧ Below w.heap.size w w' := by
  have HR := Lib.hid (right_yes p h)
  have k2 := add_run Tryz.prog
  have k3 := add_run3 Tryz.prog
  have k4 := add_run4 Tryz.prog
  have k5 := fun w x y z u => add_run5 Tryz.prog w x y z u p.d h.2.2.2
  obtain ⟨h0, h1, h2, h3⟩ := h
  obtain ⟨s0, s1, t0, t1, _⟩ := ho
  have f0 : 0 ≤ p.f := by omega
  have f1 : p.f < 4 := by omega
  have hcw : IntKind.u64.wrap p.c = p.c := IntWalk.u64_in _ ⟨by omega, by omega⟩
  have hfw : IntKind.u64.wrap p.f = p.f := IntWalk.u64_in _ ⟨by omega, by omega⟩
  have hd1 : p.d.size ≤ 9223372036854775807 := by omega
  have hd2 : (textL p.d).length ≤ 140737488355328 := by
    have := textB_size p.d h3
    have e : (textB p.d).size = (textL p.d).length := List.size_toArray
    omega
  have ht : ∀ w, Calls Tryz.prog 67 #[.string p.d] w fun e w' => e = .returned (.string (textB p.d)) ∧ Below w.heap.size w w' := fun w => text_any p.d w hd1 hd2
  have HT := Lib.hid ht
  clear h2 hd1 hd2 ht
  go_enter Tryz.func27, Tryz.ntmps27
  go_wp2_with fail
  refine (HR.out _).mono ?_
  rintro e w1 ⟨rfl, b1⟩
  have hp0 := (PBox.new w p 24).call b1
  clear b1
  go_wp2_with fail
  go_region_held3 (fun w' => w.heap.size < w'.heap.size ∧ Below w.heap.size w w' ∧ w'.cell? ⟨w.heap.size, 0, none⟩ = some (.int .i64 p.c) ∧ w'.cell? ⟨w.heap.size, 1, none⟩ = some (.int .i64 p.f) ∧ w'.cell? ⟨w.heap.size, 2, none⟩ = some (.int .u64 p.s) ∧ w'.cell? ⟨w.heap.size, 3, none⟩ = some (.int .u64 p.t) ∧ w'.cell? ⟨w.heap.size, 4, none⟩ = some (.string p.d))
    (first | assumption | exact hp0 | exact PBox.drew (by assumption) | exact PBox.drew hp0 | exact PBox.call (by assumption) hb1 | exact PBox.call (PBox.drew hp0) hb1)
    (first
      | (go_at_call 26; ((with_reducible refine (num_int _ (by first | assumption | omega) (by first | assumption | omega) _).mono ?_); rintro e w1 ⟨rfl, hb1⟩))
      | (go_at_call 67; ((with_reducible refine (HT.out _).mono ?_); rintro e w1 ⟨rfl, hb1⟩)))
  go_wp2
  go_ret2
  obtain ⟨_, hB, _⟩ : _ ∧ Below w.heap.size w w1 ∧ _ := by assumption
  exact ⟨rfl, hB⟩
end Go.Proofs.YtnjcenbmdcogpaaGreatDoor.Packet
/- The bytes of right packets are not each other's begin. -/
namespace Go.Proofs.YtnjcenbmdcogpaaGreatDoor.Packet
open Go.RowKit Num Texts

theorem numS_part {a b : Nat} (ha : a < 18446744073709551616) (hb : b < 18446744073709551616) {x y : List UInt8} (h : (numS a).data.toList ++ x = (numS b).data.toList ++ y) : a = b ∧ x = y := by
  have la := dig_len (m := a) (k := 8) (Nat.lt_of_lt_of_le ha (by decide))
  have lb := dig_len (m := b) (k := 8) (Nat.lt_of_lt_of_le hb (by decide))
  have h' := h
  rw [numS_list, numS_list, List.cons_append, List.cons_append] at h'
  injection h' with h1 _
  have hl : (dig a).length = (dig b).length := by
    have := congrArg UInt8.toNat h1
    simp at this
    omega
  have hs : (numS a).data.toList.length = (numS b).data.toList.length := by
    rw [numS_list, numS_list]
    simp [bytesOf, hl]
  obtain ⟨e1, e2⟩ := List.append_inj h hs
  refine ⟨?_, e2⟩
  rcases Nat.lt_trichotomy a b with hlt | rfl | hlt
  · exact absurd e1 (numS_ne a b hlt)
  · rfl
  · exact absurd e1.symm (numS_ne b a hlt)

theorem kS_part {a b : Int} (a0 : 0 ≤ a) (a1 : a < 18446744073709551616) (b0 : 0 ≤ b) (b1 : b < 18446744073709551616) {x y : List UInt8} (h : (kS a).data.toList ++ x = (kS b).data.toList ++ y) : a = b ∧ x = y := by
  unfold kS at h
  obtain ⟨e1, e2⟩ := numS_part (Nat.mod_lt _ (by decide)) (Nat.mod_lt _ (by decide)) h
  refine ⟨?_, e2⟩
  rw [Nat.mod_eq_of_lt (by omega), Nat.mod_eq_of_lt (by omega)] at e1
  omega

theorem bytes_list (p : P5) : p.bytes.data.toList = (kS p.c).data.toList ++ ((kS p.f).data.toList ++ ((kS p.s).data.toList ++ ((kS p.t).data.toList ++ ((numS p.d.size).data.toList ++ p.d.data.toList)))) := by
  simp [P5.bytes, textB, textL]

theorem bytes_part {p q : P5} (hp : p.right) (hpo : p.ok) (hq : q.right) (hqo : q.ok) {x y : List UInt8} (h : p.bytes.data.toList ++ x = q.bytes.data.toList ++ y) : p = q ∧ x = y := by
  rw [bytes_list, bytes_list] at h
  simp only [List.append_assoc] at h
  obtain ⟨p0, p1, p2, p3⟩ := hp
  obtain ⟨q0, q1, q2, q3⟩ := hq
  obtain ⟨r0, r1, r2, r3, _⟩ := hpo
  obtain ⟨s0, s1, s2, s3, _⟩ := hqo
  obtain ⟨e1, h⟩ := kS_part p0 (by omega) q0 (by omega) h
  obtain ⟨e2, h⟩ := kS_part (by omega) (by omega) (by omega) (by omega) h
  obtain ⟨e3, h⟩ := kS_part r0 r1 s0 s1 h
  obtain ⟨e4, h⟩ := kS_part r2 r3 s2 s3 h
  obtain ⟨e5, h⟩ := numS_part (by omega) (by omega) h
  obtain ⟨e6, h⟩ := List.append_inj h (by rw [Array.length_toList, Array.length_toList]; exact e5)
  refine ⟨?_, h⟩
  obtain ⟨a1, a2, a3, a4, ⟨⟨a5⟩⟩⟩ := p
  obtain ⟨b1, b2, b3, b4, ⟨⟨b5⟩⟩⟩ := q
  simp at e1 e2 e3 e4 e6
  subst e1 e2 e3 e4 e6
  rfl

theorem bytes_inj {p q : P5} (hp : p.right) (hpo : p.ok) (hq : q.right) (hqo : q.ok) (h : p.bytes = q.bytes) : p = q :=
  (bytes_part (x := []) (y := []) hp hpo hq hqo (by rw [h])).1

/-- The begin of a longer one's bytes is not the other's. -/
theorem bytes_begin {p q : P5} (hp : p.right) (hpo : p.ok) (hq : q.right) (hqo : q.ok) (hne : p ≠ q) : q.bytes.extract 0 p.bytes.size ≠ p.bytes := fun h => by
  have e : q.bytes.data.toList = p.bytes.data.toList ++ q.bytes.data.toList.drop p.bytes.size := by
    have h2 := congrArg (fun b => b.data.toList) h
    simp at h2
    have h3 : q.bytes.data.toList.take p.bytes.size = p.bytes.data.toList := by
      first | exact h2 | simpa using h2
    rw [← h3]
    exact (List.take_append_drop _ _).symm
  exact hne (bytes_part (x := q.bytes.data.toList.drop p.bytes.size) (y := []) hp hpo hq hqo (by rw [← e, List.append_nil])).1

def same5 (x y : P5) : Bool := x.c == y.c && (x.f == y.f && (x.s == y.s && (x.t == y.t && x.d.toList == y.d.toList)))
theorem eq_packet (x y : P5) (w : World) : (binOp .eql 24 (.agg #[.int .i64 x.c, .int .i64 x.f, .int .u64 x.s, .int .u64 x.t, .string x.d]) (.agg #[.int .i64 y.c, .int .i64 y.f, .int .u64 y.s, .int .u64 y.t, .string y.d])).run Tryz.prog w = .ok (.bool (same5 x y)) w := by
  unfold same5
  go_simp
  repeat' split
  all_goals simp_all
theorem same5_self (x : P5) : same5 x x = true := by simp [same5]
theorem same5_ne {x y : P5} (h : x ≠ y) : same5 x y = false := by
  rw [Bool.eq_false_iff]
  intro hs
  apply h
  obtain ⟨a1, a2, a3, a4, a5⟩ := x
  obtain ⟨b1, b2, b3, b4, b5⟩ := y
  simp [same5] at hs
  obtain ⟨h1, h2, h3, h4, h5⟩ := hs
  subst h1 h2 h3 h4
  rw [ByteArray.toList_eq, ByteArray.toList_eq] at h5
  rw [Go.WideShapes.bytes_inj h5]
end Go.Proofs.YtnjcenbmdcogpaaGreatDoor.Packet
