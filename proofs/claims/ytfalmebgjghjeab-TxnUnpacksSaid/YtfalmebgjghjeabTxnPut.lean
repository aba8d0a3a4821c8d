/- Messages, transactions as bytes: msg.Put, txn.Put. -/
import Derived.Test.YtfalmebgjghjeabTxnMath
import Derived.Test.YtfalmebgjghjeabMsgPut
import Derived.Test.YtfalmebgjghjeabTxRight2
namespace Go.Proofs.Ytfalmebgjghjeab.Msg
open Go Go.RowKit Num Texts
open Packet (P5 textB)

theorem mL_len : ∀ (ms : List M7), (∀ m ∈ ms, mright m = true) → (mL ms).length ≤ 191 * ms.length
  | [], _ => by simp [mL]
  | m :: ms, h => by
    have h1 := mbytes_size (h m (by simp))
    have h2 := mL_len ms (fun x hx => h x (by simp [hx]))
    have e : (mL (m :: ms)).length = m.bytes.size + (mL ms).length := by simp [mL]
    simp only [List.length_cons]
    omega
theorem mB_step (ms : List M7) (k : Nat) (h : k < ms.length) : mB (ms.take (k + 1)) = mB (ms.take k) ++ (ms.getD k m0).bytes := by
  have e : mL (ms.take (k + 1)) = mL (ms.take k) ++ (ms.getD k m0).bytes.data.toList := by
    rw [List.take_succ_eq_append_getElem h, List.getD_eq_getElem?_getD, List.getElem?_eq_getElem h]
    simp only [mL, List.flatMap_append, List.flatMap_cons, List.flatMap_nil, List.append_nil, Option.getD_some]
  have : (mB (ms.take (k + 1))).data.toList = (mB (ms.take k) ++ (ms.getD k m0).bytes).data.toList := by
    simp only [mB, e]
    simp
  exact Go.WideShapes.bytes_inj this

set_option maxHeartbeats 1000000 in
theorem txput_no (t : T4) (w : World) (hr : Rd w t.A t.len t.ms) (hl : t.len ≤ 9223372036854775807) (h : txright t.side t.acc t.ms = false) :
    Calls Try.prog 8 #[.agg #[.int .i64 t.side, .int .i64 t.acc, .int .u64 t.n, .slice t.A t.len t.cap]] w fun e w' => e = .returned (.tuple #[.string ⟨#[]⟩, .int .i64 1]) ∧ Below w.heap.size w w' := by
  have HR := Lib.hid (hr.below (show Below w.heap.size w (w.alloc (.cells #[.int .i64 t.side, .int .i64 t.acc, .int .u64 t.n, .slice t.A t.len t.cap] 34)) from (Below.refl _ _).alloc (Nat.le_refl _) _))
  go_enter Try.func8, Try.ntmps8
  go_wp2_with fail
  refine (txright_any t.side t.acc t.n t.A t.len t.cap t.ms _ HR.out hl).mono ?_
  rintro e w1 ⟨rfl, hb⟩
  rw [h]
  have HB := Lib.hid (below_box hb)
  clear hb
  go_wp2
  go_ret2
  exact ⟨rfl, HB.out⟩

/-- What the begin of Put reads. -/
abbrev TP4 (w : World) (t : T4) (W : World) : Prop := (Below w.heap.size w W ∧ w.heap.size < W.heap.size) ∧ W.cell? ⟨w.heap.size, 0, none⟩ = some (.int .i64 t.side) ∧ W.cell? ⟨w.heap.size, 1, none⟩ = some (.int .i64 t.acc) ∧ W.cell? ⟨w.heap.size, 2, none⟩ = some (.int .u64 t.n) ∧ W.cell? ⟨w.heap.size, 3, none⟩ = some (.slice t.A t.len t.cap)
theorem TP4.call {w W W1 : World} {t : T4} (h : TP4 w t W) (hb : Below W.heap.size W W1) : TP4 w t W1 := by
  obtain ⟨⟨h0, h1⟩, h3⟩ := h
  have hc : ∀ i, W1.cell? ⟨w.heap.size, i, none⟩ = W.cell? ⟨w.heap.size, i, none⟩ := fun i => hb.cell (p := ⟨w.heap.size, i, none⟩) h1
  refine ⟨⟨h0.trans (hb.mono h0.size), Nat.lt_of_lt_of_le h1 hb.size⟩, ?_⟩
  simp only [hc]
  exact h3
theorem TP4.drew {w W : World} {t : T4} (h : TP4 w t W) : TP4 w t W.drew := h.call (Below.refl _ _).drew
theorem TP4.new (w : World) (t : T4) : TP4 w t (w.alloc (.cells #[.int .i64 t.side, .int .i64 t.acc, .int .u64 t.n, .slice t.A t.len t.cap] 34)) :=
  ⟨⟨(Below.refl _ _).alloc (Nat.le_refl _) _, by simp⟩, by simp, by simp, by simp, by simp⟩

set_option maxRecDepth 20000 in
set_option maxHeartbeats 4000000 in
theorem txput_yes (t : T4) (w : World) (hr : Rd w t.A t.len t.ms) (hn : 0 ≤ t.n ∧ t.n < 18446744073709551616) (hw : ∀ m ∈ t.ms, m.wf) (h : txright t.side t.acc t.ms = true) :
    Calls Try.prog 8 #[.agg #[.int .i64 t.side, .int .i64 t.acc, .int .u64 t.n, .slice t.A t.len t.cap]] w fun e w' => e = .returned (.tuple #[.string (tB t.side t.acc t.n t.ms), .int .i64 0]) ∧ Below w.heap.size w w' := by
  obtain ⟨q1, q2, q3, q4, q5⟩ := txright_parts h
  obtain ⟨n0, n1⟩ := hn
  have hlen := hr.1
  have hl8 : t.len ≤ 8 := by omega
  have HRI := Lib.hid (txright_any t.side t.acc t.n t.A t.len t.cap t.ms _ (hr.below (show Below w.heap.size w (w.alloc (.cells #[.int .i64 t.side, .int .i64 t.acc, .int .u64 t.n, .slice t.A t.len t.cap] 34)) from (Below.refl _ _).alloc (Nat.le_refl _) _)) (by omega))
  rw [h] at HRI
  have HR := Lib.hid hr
  have HM := Lib.hid (fun m (hm : m ∈ t.ms) => And.intro (q5 m hm) (hw m hm))
  have HL := Lib.hid q5
  have hT0 := TP4.new w t
  have k2 := add_run Try.prog
  have k3 := add_run3 Try.prog
  have k4 := Packet.add_run4 Try.prog
  have s0 : 0 ≤ t.side := by omega
  have s1 : t.side < 18446744073709551616 := by omega
  have a1 : t.acc < 18446744073709551616 := by omega
  have hsw : IntKind.u64.wrap t.side = t.side := IntWalk.u64_in _ ⟨by omega, by omega⟩
  have haw : IntKind.u64.wrap t.acc = t.acc := IntWalk.u64_in _ ⟨by omega, by omega⟩
  have hlw : IntKind.u64.wrap (t.len : Int) = (t.len : Int) := IntWalk.u64_in _ ⟨by omega, by omega⟩
  have l0 : (0 : Int) ≤ (t.len : Int) := by omega
  have l1 : (t.len : Int) < 18446744073709551616 := by omega
  have HE : Hid (tB t.side t.acc t.n t.ms = kS t.side ++ kS t.acc ++ kS t.n ++ kS (t.len : Int) ++ mB t.ms) := Lib.hid (by rw [tB, hlen])
  have HLn := Lib.hid hlen
  clear q1 q5 hlen hr h hw
  go_enter Try.func8, Try.ntmps8
  go_wp2_with fail
  refine HRI.out.mono ?_
  rintro e w1 ⟨rfl, hb⟩
  have hT1 := hT0.call hb
  clear hb hT0 HRI
  go_wp2_with fail
  go_region_held3 (fun W => (Below w.heap.size w W ∧ w.heap.size < W.heap.size) ∧ W.cell? ⟨w.heap.size, 0, none⟩ = some (.int .i64 t.side) ∧ W.cell? ⟨w.heap.size, 1, none⟩ = some (.int .i64 t.acc) ∧ W.cell? ⟨w.heap.size, 2, none⟩ = some (.int .u64 t.n) ∧ W.cell? ⟨w.heap.size, 3, none⟩ = some (.slice t.A t.len t.cap))
    (with_reducible first | assumption | exact hT1 | exact TP4.drew hT1 | exact hT2)
    (first
      | (go_at_call 16; ((with_reducible refine (num_int _ (by first | assumption | omega) (by first | assumption | omega) _).mono ?_); rintro e w2 ⟨rfl, hb1⟩; have hT2 := TP4.call (w := w) (t := t) (by first | exact TP4.drew hT1 | exact hT1 | exact hT2) hb1)))
  have HT2 := Lib.hid hT2
  clear hT1 k2 k3 k4 hsw haw hlw
  obtain ⟨_, _, _, _, x3⟩ := HT2.out
  clear hT2
  obtain ⟨hd, hhd⟩ : ∃ hd, hd = kS t.side ++ kS t.acc ++ kS t.n ++ kS (t.len : Int) := ⟨_, rfl⟩
  have hds : hd.size ≤ 36 := by
    have h1 := kS_size t.side; have h2 := kS_size t.acc; have h3 := kS_size t.n; have h4 := kS_size (t.len : Int)
    rw [hhd]
    simp only [ByteArray.size_append]
    omega
  rw [← hhd] at HE
  rw [← hhd]
  clear hhd
  go_wp2
  go_loopw [4, 34] (fun s i wr => ∃ (k : Nat) (S : ByteArray), i = .int .i64 (k : Int) ∧ s = .string S ∧ k ≤ t.len ∧ Hid (S = hd ++ mB (t.ms.take k)) ∧ S.size ≤ 36 + 191 * k ∧ Below w.heap.size w wr) (fun _ i _ => t.len - (intOf i).toNat)
  case atStart => exact ⟨0, hd, rfl, rfl, Nat.zero_le _, Lib.hid (by
    have e : mB (t.ms.take 0) = .empty := rfl
    rw [e]
    simp), by omega, HT2.out.1.1⟩
  case round =>
    obtain ⟨k, S, rfl, rfl, hk, hS, hSs, hb⟩ := hrel
    by_cases hlt : k < t.len
    · obtain ⟨b, off, hA, hbl, hc⟩ := HR.out.at hb (by omega)
      rw [hA]
      have hck := hc k hlt
      have hkl : k < t.ms.length := by have := HLn.out; omega
      have HSt := Lib.hid (mB_step t.ms k hkl)
      have hmm : t.ms.getD k m0 ∈ t.ms := by
        rw [List.getD_eq_getElem?_getD, List.getElem?_eq_getElem hkl]
        exact List.getElem_mem hkl
      have HMk := HM.out _ hmm
      clear hc hmm
      generalize t.ms.getD k m0 = m at hck HSt HMk
      obtain ⟨c0, c1, c2, c3, c4, c5, c6⟩ := hck
      have hsz := mbytes_size HMk.1
      have HPm := Lib.hid (mput_yes m HMk.1 HMk.2)
      generalize m.bytes = T at hsz HPm HSt
      have kk : ∀ W, (Op.stringOp .add S T).run Try.prog W = .ok (.string (S ++ T)) W := fun W => run_string_add_sum W _ _ (by omega)
      have hi0 : (0 : Int) ≤ (k : Int) := by omega
      have hi1 : (k : Int) < (t.len : Int) := by omega
      have HB := Lib.hid hb
      have hwr : w.heap.size ≤ wr.heap.size := hb.size
      clear hb HMk
      go_wp2_with fail
      refine (HPm.out _).mono ?_
      rintro e w3 ⟨rfl, b3⟩
      have HB3 := Lib.hid ((HB.out.alloc hwr _).trans (b3.mono (by simp; omega)))
      clear b3 c0 c1 c2 c3 c4 c5 c6
      go_wp2
      exact ⟨⟨k + 1, S ++ T, by go_num, rfl, by omega, Lib.hid (by rw [HSt.out, hS.out, ByteArray.append_assoc]), by rw [ByteArray.size_append]; omega, HB3.out⟩, by simp [intOf]; omega⟩
    · obtain rfl : k = t.len := by omega
      go_wp2
      go_ret2
      refine ⟨?_, hb⟩
      rw [HE.out, hS.out, List.take_of_length_le (by have := HLn.out; omega)]
      rfl
end Go.Proofs.Ytfalmebgjghjeab.Msg
