/- What was put of a message is read as it was. -/
import Derived.Test.YtfalmebgjghjeabMsgTake
import Derived.Test.YtfalmebgjghjeabMsgPut
namespace Go.Proofs.Ytfalmebgjghjeab.Rd
open Go Go.RowKit Num Texts Packet
open Msg (M7 mright mright_any)

theorem msg_back (m : M7) (h : mright m = true) (hw : m.wf) (s rest : ByteArray) (hs : s.data.toList = m.bytes.data.toList ++ rest.data.toList) : (R2.mk s 0).msg = (m, ⟨rest, 0⟩) := by
  obtain ⟨hp, ha, hk⟩ := Msg.mright_parts h
  have hkS : kS m.k = numS (m.k.toNat % 18446744073709551616) := rfl
  have hkb : m.k.toNat % 18446744073709551616 = m.k.toNat := by omega
  rw [hkb] at hkS
  by_cases h3 : m.k = 3
  · have hb : m.bytes = kS m.k ++ m.p.bytes ++ textB m.a := by unfold Msg.M7.bytes; rw [if_pos h3]
    have l1 := num_back 4 m.k.toNat s (m.p.bytes ++ (textB m.a ++ rest)) (by omega) (by omega) (by rw [hs, hb, hkS]; simp)
    have l2 := packet_back m.p hp hw (m.p.bytes ++ (textB m.a ++ rest)) (textB m.a ++ rest) (by simp)
    have l3 := text_back 64 (textB m.a ++ rest) m.a rest ha (by omega) (by simp [textB, textL])
    unfold R2.msg
    simp only [R2.num_ok l1, l2]
    rw [if_pos (show m.k.toNat = 3 by omega)]
    simp only [R2.text_ok l3, R2.failed_ok]
    rw [if_neg (by simp)]
    clear l1 l2 l3 hb hs hkS hkb
    obtain ⟨k, c, f, s', t, d, a⟩ := m
    dsimp only [Msg.M7.p] at *
    congr 2
    omega
  · have hb : m.bytes = kS m.k ++ m.p.bytes := by unfold Msg.M7.bytes; rw [if_neg h3]
    have l1 := num_back 4 m.k.toNat s (m.p.bytes ++ rest) (by omega) (by omega) (by rw [hs, hb, hkS]; simp)
    have l2 := packet_back m.p hp hw (m.p.bytes ++ rest) rest (by simp)
    have hae : m.a = ⟨#[]⟩ := by
      rcases hk with h | h
      · exact absurd h h3
      · exact Msg.empty_of h.1
    unfold R2.msg
    simp only [R2.num_ok l1, l2]
    rw [if_neg (show ¬ m.k.toNat = 3 by omega)]
    simp only [R2.failed_ok]
    rw [if_neg (by simp)]
    clear l1 l2 hb hs hkS hkb
    obtain ⟨k, c, f, s', t, d, a⟩ := m
    dsimp only [Msg.M7.p] at *
    subst hae
    congr 2
    omega
theorem hst7 (w1 : World) (C : Array Value) (hz : C.size = 7) (ho : C.all (·.oneCell') = true) : (storeCells ⟨w1.heap.size, 0, none⟩ C.toList).run Try.prog (w1.alloc (.cells #[.int .i64 0, .int .i64 0, .int .i64 0, .int .u64 0, .int .u64 0, .string ⟨#[]⟩, .string ⟨#[]⟩] 50)) = .ok () ((w1.alloc (.cells #[.int .i64 0, .int .i64 0, .int .i64 0, .int .u64 0, .int .u64 0, .string ⟨#[]⟩, .string ⟨#[]⟩] 50)).setRow w1.heap.size C) := by
  obtain ⟨Y, hY⟩ : ∃ Y : Array Value, Y = #[.int .i64 0, .int .i64 0, .int .i64 0, .int .u64 0, .int .u64 0, .string ⟨#[]⟩, .string ⟨#[]⟩] := ⟨_, rfl⟩
  rw [← hY]
  have hzz : Y.size = 7 := by rw [hY]; rfl
  clear hY
  have h := run_storeCells_at (P := Try.prog) w1.heap.size 0 50 C.toList 0 Y (w1.alloc (.cells Y 50)) (heap_alloc_new w1 _) (by rw [Array.length_toList, hz, hzz]; decide) (fun u hu => (Array.all_eq_true'.1 ho) u (by simpa using hu))
  simp only [Nat.add_zero, List.take_zero, List.nil_append, Nat.zero_add] at h
  rw [h, List.drop_of_length_le (by rw [Array.length_toList, hzz, Array.length_toList, hz]; exact Nat.le_refl _), List.append_nil]

end Go.Proofs.Ytfalmebgjghjeab.Rd
