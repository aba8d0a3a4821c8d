/- packet.Right, packet.Put: which packets are right, and their bytes. -/
import Derived.Test.YtnjcenbmdcogpaaGreatDoorNumBytes
import Derived.Test.YtnjcenbmdcogpaaGreatDoorTexts
import Derived.Deep.RegionHeld3
namespace Go.Proofs.YtnjcenbmdcogpaaGreatDoor.Packet
open Go.RowKit Num Texts

/-- A packet's fields. -/
structure P5 where
  c : Int
  f : Int
  s : Int
  t : Int
  d : ByteArray
def P5.cells (p : P5) : Array Value := #[.int .i64 p.c, .int .i64 p.f, .int .u64 p.s, .int .u64 p.t, .string p.d]
def P5.ok (p : P5) : Prop := 0 ≤ p.s ∧ p.s < 18446744073709551616 ∧ 0 ≤ p.t ∧ p.t < 18446744073709551616 ∧ p.d.size ≤ maxLen
def P5.right (p : P5) : Prop := 0 ≤ p.c ∧ p.c < 4 ∧ (p.f = 0 ∨ p.f = 1) ∧ p.d.size ≤ 64

def textB (d : ByteArray) : ByteArray := ⟨(textL d).toArray⟩
def P5.bytes (p : P5) : ByteArray := kS p.c ++ kS p.f ++ kS p.s ++ kS p.t ++ textB p.d

/-- What holds from a packet's box on. -/
def PBox (w : World) (p : P5) (W : World) : Prop :=
  w.heap.size < W.heap.size ∧ Below w.heap.size w W ∧ W.cell? ⟨w.heap.size, 0, none⟩ = some (.int .i64 p.c) ∧ W.cell? ⟨w.heap.size, 1, none⟩ = some (.int .i64 p.f) ∧ W.cell? ⟨w.heap.size, 2, none⟩ = some (.int .u64 p.s) ∧ W.cell? ⟨w.heap.size, 3, none⟩ = some (.int .u64 p.t) ∧ W.cell? ⟨w.heap.size, 4, none⟩ = some (.string p.d)
section
variable {w W w1 : World} {p : P5}
theorem PBox.new (w : World) (p : P5) (t : TypeId) : PBox w p (w.alloc (.cells #[.int .i64 p.c, .int .i64 p.f, .int .u64 p.s, .int .u64 p.t, .string p.d] t)) :=
  ⟨by simp, (Below.refl _ _).alloc (Nat.le_refl _) _, by simp, by simp, by simp, by simp, by simp⟩
theorem PBox.drew (h : PBox w p W) : PBox w p W.drew := ⟨h.1, h.2.1.drew, h.2.2⟩
theorem PBox.call (h : PBox w p W) (hb : Below W.heap.size W w1) : PBox w p w1 :=
  ⟨Nat.lt_of_lt_of_le h.1 hb.size, h.2.1.trans (hb.mono (Nat.le_of_lt h.1)), (hb.cell h.1).trans h.2.2.1, (hb.cell h.1).trans h.2.2.2.1, (hb.cell h.1).trans h.2.2.2.2.1, (hb.cell h.1).trans h.2.2.2.2.2.1, (hb.cell h.1).trans h.2.2.2.2.2.2⟩
end

set_option maxHeartbeats 1000000 in
theorem right_yes (p : P5) (h : p.right) (w : World) :
    Calls Tryz.prog 34 #[.agg #[.int .i64 p.c, .int .i64 p.f, .int .u64 p.s, .int .u64 p.t, .string p.d]] w fun e w' => e = .returned (.bool true) ∧ Below w.heap.size w w' := by
  obtain ⟨h0, h1, h2, h3⟩ := h
  have h3 : (p.d.size : Int) ≤ 64 := by omega
  rcases h2 with h2 | h2
  · go_enter Tryz.func34, Tryz.ntmps34
    go_wp2
    go_ret
    exact ⟨rfl, (Below.refl _ _).alloc (Nat.le_refl _) _⟩
  · go_enter Tryz.func34, Tryz.ntmps34
    go_wp2
    go_ret
    exact ⟨rfl, (Below.refl _ _).alloc (Nat.le_refl _) _⟩

set_option maxHeartbeats 1000000 in
theorem right_no (p : P5) (h : ¬ p.right) (w : World) :
    Calls Tryz.prog 34 #[.agg #[.int .i64 p.c, .int .i64 p.f, .int .u64 p.s, .int .u64 p.t, .string p.d]] w fun e w' => e = .returned (.bool false) ∧ Below w.heap.size w w' := by
  by_cases h0 : 0 ≤ p.c
  · by_cases h1 : p.c < 4
    · by_cases h2 : p.f = 0
      · have h3 : ¬ (p.d.size : Int) ≤ 64 := fun h3 => h ⟨h0, h1, .inl h2, by omega⟩
        have h4 : (64 : Int) < (p.d.size : Int) := by omega
        clear h
        go_enter Tryz.func34, Tryz.ntmps34
        go_wp2
        go_ret
        exact ⟨rfl, (Below.refl _ _).alloc (Nat.le_refl _) _⟩
      · by_cases h3 : p.f = 1
        · have h3 : ¬ (p.d.size : Int) ≤ 64 := fun h4 => h ⟨h0, h1, .inr h3, by omega⟩
          have h4 : (64 : Int) < (p.d.size : Int) := by omega
          clear h
          go_enter Tryz.func34, Tryz.ntmps34
          go_wp2
          go_ret
          exact ⟨rfl, (Below.refl _ _).alloc (Nat.le_refl _) _⟩
        · have h2b : (p.f == 0) = false := by simpa using h2
          have h3b : (p.f == 1) = false := by simpa using h3
          clear h
          go_enter Tryz.func34, Tryz.ntmps34
          go_wp2
          go_ret
          exact ⟨rfl, (Below.refl _ _).alloc (Nat.le_refl _) _⟩
    · have h1' : ¬ p.c < 4 := h1
      clear h
      go_enter Tryz.func34, Tryz.ntmps34
      go_wp2
      go_ret
      exact ⟨rfl, (Below.refl _ _).alloc (Nat.le_refl _) _⟩
  · clear h
    go_enter Tryz.func34, Tryz.ntmps34
    go_wp2
    go_ret
    exact ⟨rfl, (Below.refl _ _).alloc (Nat.le_refl _) _⟩

theorem kS_4 (x y z u : Int) : (kS x ++ kS y ++ kS z).size + (kS u).size ≤ 9223372036854775807 := by rw [ByteArray.size_append, ByteArray.size_append]; have := kS_size x; have := kS_size y; have := kS_size z; have := kS_size u; omega
theorem add_run4 (P : Program) (w : World) (x y z u : Int) : (Op.stringOp .add (kS x ++ kS y ++ kS z) (kS u)).run P w = .ok (.string (kS x ++ kS y ++ kS z ++ kS u)) w := run_string_add_sum w _ _ (kS_4 x y z u)
theorem textB_size (d : ByteArray) (h : d.size ≤ 64) : (textB d).size ≤ 73 := by
  have hn : (numS d.size).size ≤ 9 := by
    have := dig_len (m := d.size) (k := 8) (Nat.lt_of_le_of_lt h (by decide))
    unfold numS
    rw [ByteArray.size_append, strOfNums_size, strOfNums_size, List.length_singleton]
    omega
  have h1 : (textB d).size = (textL d).length := List.size_toArray
  rw [h1]
  unfold textL
  rw [List.length_append]
  have h2 : (numS d.size).data.toList.length = (numS d.size).size := by rw [Array.length_toList]; rfl
  have h3 : d.data.toList.length = d.size := by rw [Array.length_toList]; rfl
  omega
theorem add_run5 (P : Program) (w : World) (x y z u : Int) (d : ByteArray) (h : d.size ≤ 64) : (Op.stringOp .add (kS x ++ kS y ++ kS z ++ kS u) (textB d)).run P w = .ok (.string (kS x ++ kS y ++ kS z ++ kS u ++ textB d)) w :=
  run_string_add_sum w _ _ (by rw [ByteArray.size_append]; have := kS_4 x y z u; have := textB_size d h; rw [ByteArray.size_append, ByteArray.size_append] at *; have := kS_size x; have := kS_size y; have := kS_size z; have := kS_size u; omega)

set_option maxHeartbeats 1000000 in
theorem put_no (p : P5) (h : ¬ p.right) (w : World) :
    Calls Tryz.prog 27 #[.agg #[.int .i64 p.c, .int .i64 p.f, .int .u64 p.s, .int .u64 p.t, .string p.d]] w fun e w' => e = .returned (.tuple #[.string ⟨#[]⟩, .int .i64 1]) ∧ Below w.heap.size w w' := by
  have HR := Lib.hid (right_no p h)
  clear h
  go_enter Tryz.func27, Tryz.ntmps27
  go_wp2_with fail
  refine (HR.out _).mono ?_
  rintro e w1 ⟨rfl, b1⟩
  go_wp2
  go_ret2
  exact ⟨rfl, below_box b1⟩

set_option maxRecDepth 20000 in
set_option maxHeartbeats 1000000 in
theorem put_yes (p : P5) (h : p.right) (ho : p.ok) (w : World) :
    Calls Tryz.prog 27 #[.agg #[.int .i64 p.c, .int .i64 p.f, .int .u64 p.s, .int .u64 p.t, .string p.d]] w fun e w' => e = .returned (.tuple #[.string p.bytes, .int .i64 0]) ∧ Below w.heap.size w w' := by
  have HR := Lib.hid (right_yes p h)
  have k2 := add_run Tryz.prog
  have k3 := add_run3 Tryz.prog
  have k4 := add_run4 Tryz.prog
  have k5 := fun w x y z u => add_run5 Tryz.prog w x y z u p.d h.2.2.2
  obtain ⟨h0, h1, h2, h3⟩ := h
  obtain ⟨s0, s1, t0, t1, _⟩ := ho
  have f0 : 0 ≤ p.f := by omega
  have f1 : p.f < 4 := by omega
  have hcw : IntKind.u64.wrap p.c = p.c := IntWalk.u64_in _ ⟨by omega, by omega⟩
  have hfw : IntKind.u64.wrap p.f = p.f := IntWalk.u64_in _ ⟨by omega, by omega⟩
  have hd1 : p.d.size ≤ 9223372036854775807 := by omega
  have hd2 : (textL p.d).length ≤ 140737488355328 := by
    have := textB_size p.d h3
    have e : (textB p.d).size = (textL p.d).length := List.size_toArray
    omega
  have ht : ∀ w, Calls Tryz.prog 67 #[.string p.d] w fun e w' => e = .returned (.string (textB p.d)) ∧ Below w.heap.size w w' := fun w => text_any p.d w hd1 hd2
  have HT := Lib.hid ht
  clear h2 hd1 hd2 ht
  go_enter Tryz.func27, Tryz.ntmps27
  go_wp2_with fail
  refine (HR.out _).mono ?_
  rintro e w1 ⟨rfl, b1⟩
  have hp0 := (PBox.new w p 24).call b1
  clear b1
  go_wp2_with fail
  go_region_held3 (fun w' => w.heap.size < w'.heap.size ∧ Below w.heap.size w w' ∧ w'.cell? ⟨w.heap.size, 0, none⟩ = some (.int .i64 p.c) ∧ w'.cell? ⟨w.heap.size, 1, none⟩ = some (.int .i64 p.f) ∧ w'.cell? ⟨w.heap.size, 2, none⟩ = some (.int .u64 p.s) ∧ w'.cell? ⟨w.heap.size, 3, none⟩ = some (.int .u64 p.t) ∧ w'.cell? ⟨w.heap.size, 4, none⟩ = some (.string p.d))
    (first | assumption | exact hp0 | exact PBox.drew (by assumption) | exact PBox.drew hp0 | exact PBox.call (by assumption) hb1 | exact PBox.call (PBox.drew hp0) hb1)
    (first
      | (go_at_call 26; ((with_reducible refine (num_int _ (by first | assumption | omega) (by first | assumption | omega) _).mono ?_); rintro e w1 ⟨rfl, hb1⟩))
      | (go_at_call 67; ((with_reducible refine (HT.out _).mono ?_); rintro e w1 ⟨rfl, hb1⟩)))
  go_wp2
  go_ret2
  obtain ⟨_, hB, _⟩ : _ ∧ Below w.heap.size w w1 ∧ _ := by assumption
  exact ⟨rfl, hB⟩
end Go.Proofs.YtnjcenbmdcogpaaGreatDoor.Packet
