/- The law TxnUnpacks. -/
import Derived.Test.YtfalmebgjghjeabPgUnpack
import Derived.Test.YtfalmebgjghjeabSameAll
import Derived.Test.YtfalmebgjghjeabTxnAwake
namespace Go.Proofs.Ytfalmebgjghjeab.txnUnpacks
open Go Go.RowKit Msg txnApart
open _root_.Go.Proofs.Ytfalmebgjghjeab.Rd (unpackR keyP keyQ TxRow tunpack_any punpack_any)

theorem getT_len (s : ByteArray) : (Rd.getT s).1.2.2.2.length ≤ 8 := by
  have hlen : (Rd.R2.mk s 0).txn.1.2.2.2.length ≤ 8 := Nat.le_trans (Rd.msgsR_len _ _) (Rd.R2.num_val _ _)
  unfold Rd.getT
  split
  · exact Nat.zero_le _
  · split
    · exact hlen
    · exact Nat.zero_le _
theorem eachR_all : ∀ (l : List ByteArray) (i : Nat), (Rd.eachR i l).1.length ≤ l.length ∧ ∀ q ∈ (Rd.eachR i l).1, q.2.2.2.length ≤ 8
  | [], _ => ⟨Nat.le_refl _, fun q hq => by cases hq⟩
  | x :: l, i => by
    have ih := eachR_all l (i + 1)
    unfold Rd.eachR
    split
    · exact ⟨Nat.zero_le _, fun q hq => by cases hq⟩
    · split
      · exact ⟨Nat.zero_le _, fun q hq => by cases hq⟩
      · refine ⟨by have := ih.1; simp only [List.length_cons]; omega, fun q hq => ?_⟩
        rcases List.mem_cons.1 hq with rfl | hq
        · exact getT_len x
        · exact ih.2 q hq
theorem unpackR_all (s : ByteArray) : (unpackR s).1.length ≤ 1000000 ∧ ∀ q ∈ (unpackR s).1, q.2.2.2.length ≤ 8 := by
  unfold unpackR
  split
  · exact ⟨Nat.zero_le _, fun q hq => by cases hq⟩
  · have h2 := (Rd.R2.list_size ⟨s, 0⟩ 1024).1
    have h3 := eachR_all ((Rd.R2.mk s 0).list 1024).1 0
    exact ⟨by have := h3.1; omega, h3.2⟩
theorem sim_two (ps qs : List T4) (h : ps.map keyP = qs.map keyP) (hp : ∀ p ∈ ps, p.len = p.ms.length) (hq : ∀ q ∈ qs, q.len = q.ms.length) :
    ps.length = qs.length ∧ ∀ i (h1 : i < ps.length) (h2 : i < qs.length), Sim ps[i] qs[i] := by
  have hlen : ps.length = qs.length := by have := congrArg List.length h; simpa using this
  refine ⟨hlen, fun i h1 h2 => ?_⟩
  have e1 : (ps.map keyP)[i]'(by simpa using h1) = keyP ps[i] := by simp
  have e2 : (qs.map keyP)[i]'(by simpa using h2) = keyP qs[i] := by simp
  have e3 : keyP ps[i] = keyP qs[i] := by
    rw [← e1, ← e2]
    simp only [h]
  have h3 := hp _ (List.getElem_mem h1)
  have h4 := hq _ (List.getElem_mem h2)
  unfold keyP at e3
  injection e3 with e4 e5
  injection e5 with e6 e7
  injection e7 with e8 e9
  exact ⟨e4, e6, e8, by rw [h3, e9, h4], e9⟩

set_option maxRecDepth 20000 in
set_option maxHeartbeats 1000000 in
theorem walk (s : ByteArray) (hs : s.size ≤ maxLen) (w : World) :
    Calls Try.prog 3 #[.string s] w fun e w' => e = .returned (.bool true) ∧ Below w.heap.size w w' := by
  unfold maxLen at hs
  have hsi : (s.size : Int) ≤ 9223372036854775807 := by omega
  by_cases hl : 1500 < s.size
  · have hli : (1500 : Int) < (s.size : Int) := by omega
    clear hs hl
    go_enter Try.func3, Try.ntmps3
    go_wp2_with fail
    refine (awake_any _).mono ?_
    rintro _ w1 ⟨rfl, b1⟩
    go_wp2
    go_ret
    exact ⟨rfl, b1⟩
  · have hli : ¬ (1500 : Int) < (s.size : Int) := by omega
    have HU := Lib.hid (fun W => tunpack_any s (by omega) W)
    have HP := Lib.hid (fun W => punpack_any s (by omega) W)
    have hall := unpackR_all s
    generalize unpackR s = U at *
    have HAll := Lib.hid hall
    clear hs hl hall
    go_enter Try.func3, Try.ntmps3
    go_wp2_with fail
    refine (HU.out _).mono ?_
    rintro _ w1 ⟨⟨v, ps, rfl, hrow, hkey⟩, b1⟩
    obtain ⟨A1, c1, rfl⟩ := own_formN hrow.row
    have HR1 := Lib.hid hrow
    have HK1 := Lib.hid hkey
    have HB1 := Lib.hid b1
    clear hrow hkey b1 HU
    go_wp2_with fail
    refine (HP.out _).mono ?_
    rintro _ w2 ⟨⟨v, qs, rfl, hrow, hkey⟩, b2⟩
    obtain ⟨A2, c2, rfl⟩ := own_formN hrow.row
    have HR2 := Lib.hid hrow
    have HK2 := Lib.hid hkey
    have HR12 := Lib.hid (HR1.out.below b2)
    have HB2 := Lib.hid (HB1.out.trans (b2.mono HB1.out.size))
    clear hrow hkey b2 HP HR1 HB1
    go_wp2_with fail
    refine (awake_any _).mono ?_
    rintro _ w3 ⟨rfl, b3⟩
    have HR13 := Lib.hid (HR12.out.below b3)
    have HR3 := Lib.hid (HR2.out.below b3)
    have HB3 := Lib.hid (HB2.out.trans (b3.mono HB2.out.size))
    clear b3 HR12 HR2 HB2
    obtain ⟨hl1, hsim⟩ := sim_two ps qs (by rw [HK1.out, HK2.out]) (fun p hp => (HR13.out.own p hp).1) (fun q hq => (HR3.out.own q hq).1)
    have hpl : ps.length ≤ 1000000 := by have := congrArg List.length HK1.out; have := HAll.out.1; simp at *; omega
    have h1 := rowX HR13.out.row rfl
    have h2 := rowX HR3.out.row rfl
    rw [← hl1] at h2 ⊢
    have hsa := sameall_any A1 A2 ps.length c1 c2 ps qs w3 h1 h2 (by omega) hsim (fun p hp => ⟨row_at (HR13.out.own p hp).2 (HR13.out.own p hp).1.symm, by
      have h5 : keyP p ∈ U.1.map keyQ := by rw [← HK1.out]; exact List.mem_map.2 ⟨p, hp, rfl⟩
      obtain ⟨q, hq, he⟩ := List.mem_map.1 h5
      have h6 := HAll.out.2 q hq
      have h7 := (HR13.out.own p hp).1
      unfold keyP keyQ at he
      injection he with _ he
      injection he with _ he
      injection he with _ he
      rw [h7, ← he]; omega⟩) (fun q hq => row_at (HR3.out.own q hq).2 (HR3.out.own q hq).1.symm)
    have HSa := Lib.hid hsa
    clear hsa h1 h2 hl1 hsim hpl HR13 HR3
    go_wp2_with fail
    refine HSa.out.mono ?_
    rintro _ w4 ⟨rfl, b4⟩
    have HB4 := Lib.hid (HB3.out.trans (b4.mono HB3.out.size))
    clear b4
    go_wp2
    go_ret
    exact ⟨rfl, HB4.out⟩
end Go.Proofs.Ytfalmebgjghjeab.txnUnpacks
