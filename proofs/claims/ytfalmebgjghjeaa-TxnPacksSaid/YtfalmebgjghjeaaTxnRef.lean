/- The page's Put of a transaction. -/
import Derived.Test.YtfalmebgjghjeaaTxnPut
import Derived.Test.YtfalmebgjghjeaaMsgRef
namespace Go.Proofs.Ytfalmebgjghjeaa.Msg
open Go Go.RowKit Num Texts
open Packet (P5 textB)

set_option maxRecDepth 20000 in
set_option maxHeartbeats 4000000 in
theorem rtxput_yes (t : T4) (w : World) (hr : Rd w t.A t.len t.ms) (hn : 0 ≤ t.n ∧ t.n < 18446744073709551616) (hw : ∀ m ∈ t.ms, m.wf) (h : txright t.side t.acc t.ms = true) :
    Calls Try.prog 8 #[.agg #[.int .i64 t.side, .int .i64 t.acc, .int .u64 t.n, .slice t.A t.len t.cap]] w fun e w' => e = .returned (.string (tB t.side t.acc t.n t.ms)) ∧ Below w.heap.size w w' := by
  obtain ⟨q1, q2, q3, q4, q5⟩ := txright_parts h
  obtain ⟨n0, n1⟩ := hn
  have hlen := hr.1
  have hl8 : t.len ≤ 8 := by omega
  have HR := Lib.hid hr
  have HM := Lib.hid (fun m (hm : m ∈ t.ms) => And.intro (q5 m hm) (hw m hm))
  have hT := TP4.new w t
  have k2 := add_run Try.prog
  have k3 := add_run3 Try.prog
  have k4 := Packet.add_run4 Try.prog
  have s0 : 0 ≤ t.side := by omega
  have s1 : t.side < 18446744073709551616 := by omega
  have a0 : 0 ≤ t.acc := by omega
  have a1 : t.acc < 18446744073709551616 := by omega
  have hsw : IntKind.u64.wrap t.side = t.side := IntWalk.u64_in _ ⟨by omega, by omega⟩
  have haw : IntKind.u64.wrap t.acc = t.acc := IntWalk.u64_in _ ⟨by omega, by omega⟩
  have hlw : IntKind.u64.wrap (t.len : Int) = (t.len : Int) := IntWalk.u64_in _ ⟨by omega, by omega⟩
  have l0 : (0 : Int) ≤ (t.len : Int) := by omega
  have l1 : (t.len : Int) < 18446744073709551616 := by omega
  have HE : Hid (tB t.side t.acc t.n t.ms = kS t.side ++ kS t.acc ++ kS t.n ++ kS (t.len : Int) ++ mB t.ms) := Lib.hid (by rw [tB, hlen])
  have HLn := Lib.hid hlen
  clear q1 q5 hlen hr h hw
  go_enter Try.func8, Try.ntmps8
  go_upto_region 1 with fail
  obtain ⟨W0, hW⟩ : ∃ X, X = w.alloc (.cells #[.int .i64 t.side, .int .i64 t.acc, .int .u64 t.n, .slice t.A t.len t.cap] 29) := ⟨_, rfl⟩
  rw [← hW] at hT ⊢
  have hT0 : TP4 w t W0.drew := hT.drew
  clear hW hT
  refine wp_region_held_drew (S := (fun W => TP4 w t W)) (by kernel_rfl) hT0 (fun hHeld => ?_)
  refine wpAnyH_take (i := 0) (oi := _) (v := ?_) rfl (by kernel_rfl) (by kernel_rfl) (by kernel_rfl) (fun _ _ _ h => h) (Or.inl ⟨by rfl, ?_⟩) (by assumption) ?_
  rotate_left
  · (intro W hSw; clear hSw; go_simp; try with_reducible rfl)
  try simp only [Act.put, List.getElem_toArray, List.getElem_cons_zero, List.setIfInBounds_toArray, List.set_cons_zero, List.set_cons_succ]
  refine wpAnyH_take (i := 1) (oi := _) (v := ?_) rfl (by kernel_rfl) (by kernel_rfl) (by kernel_rfl) (fun _ _ _ h => h) (Or.inl ⟨by rfl, ?_⟩) (by assumption) ?_
  rotate_left
  · (intro W hSw; obtain ⟨⟨_, _⟩, x0, x1, x2, x3⟩ := hSw; go_simp; try with_reducible rfl)
  try simp only [Act.put, List.getElem_toArray, List.getElem_cons_succ, List.getElem_cons_zero, List.setIfInBounds_toArray, List.set_cons_zero, List.set_cons_succ]
  refine wpAnyH_take (i := 2) (oi := _) (v := ?_) rfl (by kernel_rfl) (by kernel_rfl) (by kernel_rfl) (fun _ _ _ h => h) (Or.inl ⟨by rfl, ?_⟩) (by assumption) ?_
  rotate_left
  · (intro W hSw; clear hSw; go_simp; try with_reducible rfl)
  try simp only [Act.put, List.getElem_toArray, List.getElem_cons_succ, List.getElem_cons_zero, List.setIfInBounds_toArray, List.set_cons_zero, List.set_cons_succ]
  refine wpAnyH_take (i := 4) (oi := _) (v := ?_) rfl (by kernel_rfl) (by kernel_rfl) (by kernel_rfl) (fun _ _ _ h => h) (Or.inl ⟨by rfl, ?_⟩) (by assumption) ?_
  rotate_left
  · (intro W hSw; clear hSw; go_simp; try with_reducible rfl)
  try simp only [Act.put, List.getElem_toArray, List.getElem_cons_succ, List.getElem_cons_zero, List.setIfInBounds_toArray, List.set_cons_zero, List.set_cons_succ]
  refine wpAnyH_take (i := 5) (oi := _) (v := ?_) rfl (by kernel_rfl) (by kernel_rfl) (by kernel_rfl) (fun _ _ _ h => h) (Or.inl ⟨by rfl, ?_⟩) (by assumption) ?_
  rotate_left
  · (intro W hSw; obtain ⟨⟨_, _⟩, x0, x1, x2, x3⟩ := hSw; go_simp; try with_reducible rfl)
  try simp only [Act.put, List.getElem_toArray, List.getElem_cons_succ, List.getElem_cons_zero, List.setIfInBounds_toArray, List.set_cons_zero, List.set_cons_succ]
  refine wpAnyH_take (i := 6) (oi := _) (v := ?_) rfl (by kernel_rfl) (by kernel_rfl) (by kernel_rfl) (fun _ _ _ h => h) (Or.inl ⟨by rfl, ?_⟩) (by assumption) ?_
  rotate_left
  · (intro W hSw; clear hSw; go_simp; try with_reducible rfl)
  try simp only [Act.put, List.getElem_toArray, List.getElem_cons_succ, List.getElem_cons_zero, List.setIfInBounds_toArray, List.set_cons_zero, List.set_cons_succ]
  refine wpAnyH_take (i := 9) (oi := _) (v := ?_) rfl (by kernel_rfl) (by kernel_rfl) (by kernel_rfl) (fun _ _ _ h => h) (Or.inl ⟨by rfl, ?_⟩) (by assumption) ?_
  rotate_left
  · (intro W hSw; clear hSw; go_simp; try with_reducible rfl)
  try simp only [Act.put, List.getElem_toArray, List.getElem_cons_succ, List.getElem_cons_zero, List.setIfInBounds_toArray, List.set_cons_zero, List.set_cons_succ]
  refine wpAnyH_take (i := 10) (oi := _) (v := ?_) rfl (by kernel_rfl) (by kernel_rfl) (by kernel_rfl) (fun _ _ _ h => h) (Or.inl ⟨by rfl, ?_⟩) (by assumption) ?_
  rotate_left
  · (intro W hSw; obtain ⟨⟨_, _⟩, x0, x1, x2, x3⟩ := hSw; go_simp; try with_reducible rfl)
  try simp only [Act.put, List.getElem_toArray, List.getElem_cons_succ, List.getElem_cons_zero, List.setIfInBounds_toArray, List.set_cons_zero, List.set_cons_succ]
  refine wpAnyH_take (i := 13) (oi := _) (v := ?_) rfl (by kernel_rfl) (by kernel_rfl) (by kernel_rfl) (fun _ _ _ h => h) (Or.inl ⟨by rfl, ?_⟩) (by assumption) ?_
  rotate_left
  · (intro W hSw; clear hSw; go_simp; try with_reducible rfl)
  try simp only [Act.put, List.getElem_toArray, List.getElem_cons_succ, List.getElem_cons_zero, List.setIfInBounds_toArray, List.set_cons_zero, List.set_cons_succ]
  refine wpAnyH_take (i := 14) (oi := _) (v := ?_) rfl (by kernel_rfl) (by kernel_rfl) (by kernel_rfl) (fun _ _ _ h => h) (Or.inl ⟨by rfl, ?_⟩) (by assumption) ?_
  rotate_left
  · (intro W hSw; obtain ⟨⟨_, _⟩, x0, x1, x2, x3⟩ := hSw; go_simp; try with_reducible rfl)
  try simp only [Act.put, List.getElem_toArray, List.getElem_cons_succ, List.getElem_cons_zero, List.setIfInBounds_toArray, List.set_cons_zero, List.set_cons_succ]
  refine wpAnyH_take (i := 15) (oi := _) (v := ?_) rfl (by kernel_rfl) (by kernel_rfl) (by kernel_rfl) (fun _ _ _ h => h) (Or.inl ⟨by rfl, ?_⟩) (by assumption) ?_
  rotate_left
  · (intro W hSw; clear hSw; go_simp; try with_reducible rfl)
  try simp only [Act.put, List.getElem_toArray, List.getElem_cons_succ, List.getElem_cons_zero, List.setIfInBounds_toArray, List.set_cons_zero, List.set_cons_succ]
  refine wpAnyH_take (i := 16) (oi := _) (v := ?_) rfl (by kernel_rfl) (by kernel_rfl) (by kernel_rfl) (fun _ _ _ h => h) (Or.inl ⟨by rfl, ?_⟩) (by assumption) ?_
  rotate_left
  · (intro W hSw; clear hSw; go_simp; try with_reducible rfl)
  try simp only [Act.put, List.getElem_toArray, List.getElem_cons_succ, List.getElem_cons_zero, List.setIfInBounds_toArray, List.set_cons_zero, List.set_cons_succ]
  refine wpAnyH_ready (rs := [3]) (by kernel_rfl) (by simp) ?_
  refine AllReadyH.cons rfl (fun K hK => ?_) AllReadyH.nil
  simp only [List.getElem_toArray, List.getElem_cons_succ, List.getElem_cons_zero]
  rw [if_pos (by rfl)]
  go_simp
  (go_at_call 16; refine (ref_num_int t.side s0 s1 _).mono ?_; rintro _ w1 ⟨rfl, b1⟩; have h1 := TP4.call hHeld b1)
  go_wp2_with fail
  refine hK.out _ _ h1 (fun hHeld => ?_)
  clear hK K
  try simp only [Act.put, List.getElem_toArray, List.getElem_cons_succ, List.getElem_cons_zero, List.setIfInBounds_toArray, List.set_cons_zero, List.set_cons_succ]
  refine wpAnyH_ready (rs := [7]) (by kernel_rfl) (by simp) ?_
  refine AllReadyH.cons rfl (fun K hK => ?_) AllReadyH.nil
  simp only [List.getElem_toArray, List.getElem_cons_succ, List.getElem_cons_zero]
  rw [if_pos (by rfl)]
  go_simp
  (go_at_call 16; refine (ref_num_int t.acc a0 a1 _).mono ?_; rintro _ w2 ⟨rfl, b2⟩; have h2 := TP4.call hHeld b2)
  go_wp2_with fail
  refine hK.out _ _ h2 (fun hHeld => ?_)
  clear hK K
  try simp only [Act.put, List.getElem_toArray, List.getElem_cons_succ, List.getElem_cons_zero, List.setIfInBounds_toArray, List.set_cons_zero, List.set_cons_succ]
  refine wpAnyH_take (i := 8) (oi := _) (v := ?_) rfl (by kernel_rfl) (by kernel_rfl) (by kernel_rfl) (fun _ _ _ h => h) (Or.inl ⟨by rfl, ?_⟩) (by assumption) ?_
  rotate_left
  · (intro W hSw; clear hSw; go_simp; try with_reducible rfl)
  try simp only [Act.put, List.getElem_toArray, List.getElem_cons_succ, List.getElem_cons_zero, List.setIfInBounds_toArray, List.set_cons_zero, List.set_cons_succ]
  refine wpAnyH_ready (rs := [11]) (by kernel_rfl) (by simp) ?_
  refine AllReadyH.cons rfl (fun K hK => ?_) AllReadyH.nil
  simp only [List.getElem_toArray, List.getElem_cons_succ, List.getElem_cons_zero]
  rw [if_pos (by rfl)]
  go_simp
  (go_at_call 16; refine (ref_num_int t.n n0 n1 _).mono ?_; rintro _ w3 ⟨rfl, b3⟩; have h3 := TP4.call hHeld b3)
  go_wp2_with fail
  refine hK.out _ _ h3 (fun hHeld => ?_)
  clear hK K
  try simp only [Act.put, List.getElem_toArray, List.getElem_cons_succ, List.getElem_cons_zero, List.setIfInBounds_toArray, List.set_cons_zero, List.set_cons_succ]
  refine wpAnyH_take (i := 12) (oi := _) (v := ?_) rfl (by kernel_rfl) (by kernel_rfl) (by kernel_rfl) (fun _ _ _ h => h) (Or.inl ⟨by rfl, ?_⟩) (by assumption) ?_
  rotate_left
  · (intro W hSw; clear hSw; go_simp; try with_reducible rfl)
  try simp only [Act.put, List.getElem_toArray, List.getElem_cons_succ, List.getElem_cons_zero, List.setIfInBounds_toArray, List.set_cons_zero, List.set_cons_succ]
  refine wpAnyH_ready (rs := [17]) (by kernel_rfl) (by simp) ?_
  refine AllReadyH.cons rfl (fun K hK => ?_) AllReadyH.nil
  simp only [List.getElem_toArray, List.getElem_cons_succ, List.getElem_cons_zero]
  rw [if_pos (by rfl)]
  go_simp
  (go_at_call 16; refine (ref_num_int (t.len : Int) l0 l1 _).mono ?_; rintro _ w4 ⟨rfl, b4⟩; have h4 := TP4.call hHeld b4)
  go_wp2_with fail
  refine hK.out _ _ h4 (fun hHeld => ?_)
  clear hK K
  try simp only [Act.put, List.getElem_toArray, List.getElem_cons_succ, List.getElem_cons_zero, List.setIfInBounds_toArray, List.set_cons_zero, List.set_cons_succ]
  refine wpAnyH_take (i := 18) (oi := _) (v := ?_) rfl (by kernel_rfl) (by kernel_rfl) (by kernel_rfl) (fun _ _ _ h => h) (Or.inl ⟨by rfl, ?_⟩) (by assumption) ?_
  rotate_left
  · (intro W hSw; clear hSw; go_simp; try with_reducible rfl)
  try simp only [Act.put, List.getElem_toArray, List.getElem_cons_succ, List.getElem_cons_zero, List.setIfInBounds_toArray, List.set_cons_zero, List.set_cons_succ]
  refine wpAnyH_take (i := 19) (oi := _) (v := ?_) rfl (by kernel_rfl) (by kernel_rfl) (by kernel_rfl) (fun _ _ _ h => h) (Or.inl ⟨by rfl, ?_⟩) (by assumption) ?_
  rotate_left
  · (intro W hSw; clear hSw; go_simp; try with_reducible rfl)
  try simp only [Act.put, List.getElem_toArray, List.getElem_cons_succ, List.getElem_cons_zero, List.setIfInBounds_toArray, List.set_cons_zero, List.set_cons_succ]
  refine wpAnyH_done (by kernel_rfl) ?_ _
  have HT2 := Lib.hid h4
  clear hT0 h1 h2 h3 h4 b1 b2 b3 b4 k2 k3 k4 hsw haw hlw
  obtain ⟨hd, hhd⟩ : ∃ hd, hd = kS t.side ++ kS t.acc ++ kS t.n ++ kS (t.len : Int) := ⟨_, rfl⟩
  have hds : hd.size ≤ 36 := by
    have h1 := kS_size t.side; have h2 := kS_size t.acc; have h3 := kS_size t.n; have h4 := kS_size (t.len : Int)
    rw [hhd]
    simp only [ByteArray.size_append]
    omega
  rw [← hhd] at HE
  rw [← hhd]
  clear hhd
  go_wp2
  go_loopw [3, 4] (fun s i wr => ∃ (k : Nat) (S : ByteArray), i = .int .i64 (k : Int) ∧ s = .string S ∧ k ≤ t.len ∧ Hid (S = hd ++ mB (t.ms.take k)) ∧ S.size ≤ 36 + 191 * k ∧ TP4 w t wr) (fun _ i _ => t.len - (intOf i).toNat)
  case atStart => exact ⟨0, hd, rfl, rfl, Nat.zero_le _, Lib.hid (by
    have e : mB (t.ms.take 0) = .empty := rfl
    rw [e]
    simp), by omega, HT2.out⟩
  case round =>
    obtain ⟨k, S, rfl, rfl, hk, hS, hSs, hT⟩ := hrel
    obtain ⟨x0, x1, x2, x3⟩ := hT.2
    by_cases hlt : k < t.len
    · obtain ⟨b, off, hA, hbl, hc⟩ := HR.out.at hT.1.1 (by omega)
      rw [hA] at x3 ⊢
      have hck := hc k hlt
      have hkl : k < t.ms.length := by have := HLn.out; omega
      have HSt := Lib.hid (mB_step t.ms k hkl)
      have hmm : t.ms.getD k m0 ∈ t.ms := by
        rw [List.getD_eq_getElem?_getD, List.getElem?_eq_getElem hkl]
        exact List.getElem_mem hkl
      have HMk := HM.out _ hmm
      clear hc hmm
      generalize t.ms.getD k m0 = m at hck HSt HMk
      obtain ⟨c0, c1, c2, c3, c4, c5, c6⟩ := hck
      have hsz := mbytes_size HMk.1
      have HPm := Lib.hid (rmput_yes m HMk.1 HMk.2)
      generalize m.bytes = T at hsz HPm HSt
      have kk : ∀ W, (Op.stringOp .add S T).run Try.prog W = .ok (.string (S ++ T)) W := fun W => run_string_add_sum W _ _ (by omega)
      have hp0 : (0 : Int) ≤ (k : Int) := by omega
      have hp1 : (k : Int) < (t.len : Int) := by omega
      have HT := Lib.hid hT
      clear hT HMk
      go_wp2_with fail
      refine (HPm.out _).mono ?_
      rintro e w3 ⟨rfl, b3⟩
      have HT3 := Lib.hid (HT.out.call b3)
      clear b3 c0 c1 c2 c3 c4 c5 c6 x0 x1 x2 x3
      go_wp2
      exact ⟨⟨k + 1, S ++ T, by go_num, rfl, by omega, Lib.hid (by rw [HSt.out, hS.out, ByteArray.append_assoc]), by rw [ByteArray.size_append]; omega, HT3.out⟩, by simp [intOf]; omega⟩
    · obtain rfl : k = t.len := by omega
      have HT := Lib.hid hT
      clear hT
      go_wp2
      go_ret
      refine ⟨?_, HT.out.1.1⟩
      rw [HE.out, hS.out, List.take_of_length_le (by have := HLn.out; omega)]
      rfl
end Go.Proofs.Ytfalmebgjghjeaa.Msg
