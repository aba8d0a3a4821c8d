/- Messages as bytes: msg.Put. -/
import Derived.Test.YtfalmebgjghjeabMsgMath
import Derived.Test.YtfalmebgjghjeabMsgBox
namespace Go.Proofs.Ytfalmebgjghjeab.Msg
open Go Go.RowKit Num Texts
open Packet (P5 textB)

theorem numS_size (n : Nat) (h : n < 18446744073709551616) : (numS n).size ≤ 9 := by
  have := dig_len (m := n) (k := 8) (Nat.lt_of_lt_of_le h (by decide))
  unfold numS
  rw [ByteArray.size_append, strOfNums_size, strOfNums_size, List.length_singleton]
  omega
theorem textB_sz (d : ByteArray) (h : d.size ≤ 64) : (textB d).size ≤ 73 := Packet.textB_size d h
theorem pbytes_size (p : P5) (h : p.d.size ≤ 64) : p.bytes.size ≤ 109 := by
  have h1 := kS_size p.c; have h2 := kS_size p.f; have h3 := kS_size p.s; have h4 := kS_size p.t; have h5 := textB_sz p.d h
  unfold P5.bytes
  simp only [ByteArray.size_append]
  omega
theorem mbytes_size {m : M7} (h : mright m = true) : m.bytes.size ≤ 191 := by
  obtain ⟨hp, ha, _⟩ := mright_parts h
  have h1 := kS_size m.k; have h2 := pbytes_size m.p hp.2.2.2; have h3 := textB_sz m.a ha
  unfold M7.bytes
  split
  · simp only [ByteArray.size_append]; omega
  · simp only [ByteArray.size_append]; omega
set_option maxRecDepth 20000 in
set_option maxHeartbeats 2000000 in
theorem mput_yes (m : M7) (h : mright m = true) (hw : m.wf) (w : World) :
    Calls Try.prog 17 #[.agg #[.int .i64 m.k, .int .i64 m.c, .int .i64 m.f, .int .u64 m.s, .int .u64 m.t, .string m.d, .string m.a]] w fun e w' => e = .returned (.tuple #[.string m.bytes, .int .i64 0]) ∧ Below w.heap.size w w' := by
  obtain ⟨hp, ha, hk⟩ := mright_parts h
  have HR := Lib.hid (mright_any m)
  rw [h] at HR
  unfold M7.cells at HR
  have HP : Hid (∀ W, Calls Try.prog 33 #[.agg #[.int .i64 m.c, .int .i64 m.f, .int .u64 m.s, .int .u64 m.t, .string m.d]] W fun e w' => e = .returned (.tuple #[.string m.p.bytes, .int .i64 0]) ∧ Below W.heap.size W w') := Lib.hid fun W => Packet.put_yes m.p hp hw W
  have hps := pbytes_size m.p hp.2.2.2
  have hks := kS_size m.k
  have hts := textB_sz m.a ha
  have HB : Hid (m.bytes = if m.k = 3 then kS m.k ++ m.p.bytes ++ textB m.a else kS m.k ++ m.p.bytes) := Lib.hid rfl
  generalize m.p.bytes = S at HP HB hps
  generalize m.bytes = B at HB
  have hk0 : 0 ≤ m.k := by omega
  have hk1 : m.k < 18446744073709551616 := by omega
  have hkw : IntKind.u64.wrap m.k = m.k := IntWalk.u64_in _ ⟨by omega, by omega⟩
  have k2 : ∀ W, (Op.stringOp .add (kS m.k) S).run Try.prog W = .ok (.string (kS m.k ++ S)) W := fun W => run_string_add_sum W _ _ (by omega)
  have k3 : ∀ W, (Op.stringOp .add (kS m.k ++ S) (textB m.a)).run Try.prog W = .ok (.string (kS m.k ++ S ++ textB m.a)) W := fun W => run_string_add_sum W _ _ (by rw [ByteArray.size_append]; omega)
  have hd1 : m.a.size ≤ 9223372036854775807 := by omega
  have hd2 : (textL m.a).length ≤ 140737488355328 := by
    have e : (textB m.a).size = (textL m.a).length := List.size_toArray
    omega
  have HT : Hid (∀ W, Calls Try.prog 34 #[.string m.a] W fun e w' => e = .returned (.string (textB m.a)) ∧ Below W.heap.size W w') := Lib.hid fun W => text_any m.a W hd1 hd2
  clear hps hks hts hd1 hd2 hp ha h hw
  have hbx : BoxM (w.alloc (.cells #[.int .i64 m.k, .int .i64 m.c, .int .i64 m.f, .int .u64 m.s, .int .u64 m.t, .string m.d, .string m.a] 50)) w.heap.size m := heap_alloc_new w _
  have HX := Lib.hid hbx
  obtain ⟨x0, x1, x2, x3, x4, x5, x6⟩ := hbx.cells
  clear hbx
  go_enter Try.func17, Try.ntmps17
  go_wp2_with fail
  refine (HR.out _).mono ?_
  rintro e w1 ⟨rfl, b1⟩
  have X1 := Lib.hid (And.intro ((b1.block _ (lt_blk HX.out)).trans HX.out) (((Below.refl _ w).alloc (Nat.le_refl _) _).trans (b1.mono (by simp))))
  clear b1 x0 x1 x2 x3 x4 x5 x6
  obtain ⟨x0, x1, x2, x3, x4, x5, x6⟩ := BoxM.cells X1.out.1
  go_wp2_with fail
  refine (HP.out _).mono ?_
  rintro e w2 ⟨rfl, b2⟩
  have X2 := Lib.hid (And.intro ((b2.block _ (lt_blk X1.out.1)).trans X1.out.1) (X1.out.2.trans (b2.mono X1.out.2.size)))
  clear b2 x0 x1 x2 x3 x4 x5 x6
  obtain ⟨x0, x1, x2, x3, x4, x5, x6⟩ := BoxM.cells (W := w2) (H := w.heap.size) X2.out.1
  go_wp2_with fail
  refine (num_int m.k hk0 hk1 _).mono ?_
  rintro e w3 ⟨rfl, b3⟩
  have X3 := Lib.hid (And.intro ((b3.block _ (lt_blk X2.out.1)).trans X2.out.1) (X2.out.2.trans (b3.mono X2.out.2.size)))
  clear b3 x0 x1 x2 x3 x4 x5 x6
  obtain ⟨x0, x1, x2, x3, x4, x5, x6⟩ := BoxM.cells (W := w3) (H := w.heap.size) X3.out.1
  by_cases h3 : m.k = 3
  · have h3b : (m.k == 3) = true := by simpa using h3
    have HB2 := Lib.hid (show B = kS m.k ++ S ++ textB m.a by rw [HB.out, if_pos h3])
    clear h3
    go_wp2_with fail
    refine (HT.out _).mono ?_
    rintro e w4 ⟨rfl, b4⟩
    have X4 := Lib.hid (X3.out.2.trans (b4.mono X3.out.2.size))
    clear b4 x0 x1 x2 x3 x4 x5 x6
    go_wp2
    go_ret2
    exact ⟨by rw [HB2.out]; rfl, X4.out⟩
  · have h3b : (m.k == 3) = false := by simpa using h3
    have HB2 := Lib.hid (show B = kS m.k ++ S by rw [HB.out, if_neg h3])
    clear h3
    go_wp2
    go_ret2
    exact ⟨by rw [HB2.out]; rfl, X3.out.2⟩

end Go.Proofs.Ytfalmebgjghjeab.Msg
