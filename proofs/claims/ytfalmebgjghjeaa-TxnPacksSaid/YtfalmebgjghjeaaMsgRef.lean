/- The page's Put of a message; msg.Put of one that is not right. -/
import Derived.Test.YtfalmebgjghjeaaMsgPut
import Derived.Test.YtfalmebgjghjeaaPacketRef
import Derived.Deep.RegionHeld3
import Derived.Deep.Cut
namespace Go.Proofs.Ytfalmebgjghjeaa.Msg
open Go Go.RowKit Num Texts
open Packet (P5 textB)

theorem mput_no (m : M7) (h : mright m = false) (w : World) :
    Calls Try.prog 24 #[.agg #[.int .i64 m.k, .int .i64 m.c, .int .i64 m.f, .int .u64 m.s, .int .u64 m.t, .string m.d, .string m.a]] w fun e w' => e = .returned (.tuple #[.string ⟨#[]⟩, .int .i64 1]) ∧ Below w.heap.size w w' := by
  have HR := Lib.hid (mright_any m)
  rw [h] at HR
  unfold M7.cells at HR
  have hB : Below w.heap.size w (w.alloc (.cells #[.int .i64 m.k, .int .i64 m.c, .int .i64 m.f, .int .u64 m.s, .int .u64 m.t, .string m.d, .string m.a] 43)) := (Below.refl _ _).alloc (Nat.le_refl _) _
  have HB := Lib.hid hB
  clear h hB
  go_enter Try.func24, Try.ntmps24
  go_wp2_with fail
  refine (HR.out _).mono ?_
  rintro e w1 ⟨rfl, b1⟩
  have hb := HB.out.trans (b1.mono (by simp))
  go_wp2
  go_ret2
  exact ⟨rfl, hb⟩

set_option maxRecDepth 20000 in
set_option maxHeartbeats 2000000 in
theorem rmput_yes (m : M7) (h : mright m = true) (hw : m.wf) (w : World) :
    Calls Try.prog 17 #[.agg #[.int .i64 m.k, .int .i64 m.c, .int .i64 m.f, .int .u64 m.s, .int .u64 m.t, .string m.d, .string m.a]] w fun e w' => e = .returned (.string m.bytes) ∧ Below w.heap.size w w' := by
  obtain ⟨hp, ha, hk⟩ := mright_parts h
  have HP : Hid (∀ W, Calls Try.prog 27 #[.agg #[.int .i64 m.c, .int .i64 m.f, .int .u64 m.s, .int .u64 m.t, .string m.d]] W fun e w' => e = .returned (.string m.p.bytes) ∧ Below W.heap.size W w') := Lib.hid fun W => Packet.rput_yes m.p hp hw W
  have hps := pbytes_size m.p hp.2.2.2
  have hks := kS_size m.k
  have hts := textB_sz m.a ha
  have HB : Hid (m.bytes = if m.k = 3 then kS m.k ++ m.p.bytes ++ textB m.a else kS m.k ++ m.p.bytes) := Lib.hid rfl
  generalize m.p.bytes = S at HP HB hps
  generalize m.bytes = B at HB
  have hk0 : 0 ≤ m.k := by omega
  have hk1 : m.k < 18446744073709551616 := by omega
  have hkw : IntKind.u64.wrap m.k = m.k := IntWalk.u64_in _ ⟨by omega, by omega⟩
  have k2 : ∀ W, (Op.stringOp .add (kS m.k) S).run Try.prog W = .ok (.string (kS m.k ++ S)) W := fun W => run_string_add_sum W _ _ (by omega)
  have k3 : ∀ W, (Op.stringOp .add (kS m.k ++ S) (textB m.a)).run Try.prog W = .ok (.string (kS m.k ++ S ++ textB m.a)) W := fun W => run_string_add_sum W _ _ (by rw [ByteArray.size_append]; omega)
  have hd1 : m.a.size ≤ 140737488355328 := by omega
  have HT : Hid (∀ W, Calls Try.prog 20 #[.string m.a] W fun e w' => e = .returned (.string (textB m.a)) ∧ Below W.heap.size W w') := Lib.hid fun W => ref_text_any m.a W hd1
  clear hps hks hts hd1 hp ha h hw
  have hb0 : Below w.heap.size w (w.alloc (.cells #[.int .i64 m.k, .int .i64 m.c, .int .i64 m.f, .int .u64 m.s, .int .u64 m.t, .string m.d, .string m.a] 43)) := (Below.refl _ _).alloc (Nat.le_refl _) _
  have hx0 : BoxM (w.alloc (.cells #[.int .i64 m.k, .int .i64 m.c, .int .i64 m.f, .int .u64 m.s, .int .u64 m.t, .string m.d, .string m.a] 43)) w.heap.size m := heap_alloc_new w _
  go_enter Try.func17, Try.ntmps17
  go_upto_region 1 with fail
  obtain ⟨W0, hW⟩ : ∃ X, X = w.alloc (.cells #[.int .i64 m.k, .int .i64 m.c, .int .i64 m.f, .int .u64 m.s, .int .u64 m.t, .string m.d, .string m.a] 43) := ⟨_, rfl⟩
  rw [← hW] at hb0 hx0 ⊢
  have h0 : Below w.heap.size w W0.drew ∧ BoxM W0.drew w.heap.size m := ⟨hb0.drew, hx0⟩
  clear hW hb0 hx0
  refine wp_region_held_drew (S := (fun W => Below w.heap.size w W ∧ BoxM W w.heap.size m)) (by kernel_rfl) h0 (fun hHeld => ?_)
  refine wpAnyH_take (i := 0) (oi := _) (v := ?_) rfl (by kernel_rfl) (by kernel_rfl) (by kernel_rfl) (fun _ _ _ h => h) (Or.inl ⟨by rfl, ?_⟩) (by assumption) ?_
  rotate_left
  · (intro W hSw; (try dsimp only at hSw); go_simp; try with_reducible rfl)
  try simp only [Act.put, List.getElem_toArray, List.getElem_cons_zero, List.setIfInBounds_toArray, List.set_cons_zero, List.set_cons_succ]
  refine wpAnyH_take (i := 1) (oi := _) (v := ?_) rfl (by kernel_rfl) (by kernel_rfl) (by kernel_rfl) (fun _ _ _ h => h) (Or.inl ⟨by rfl, ?_⟩) (by assumption) ?_
  rotate_left
  · (intro W hSw; (obtain ⟨x0, x1, x2, x3, x4, x5, x6⟩ := BoxM.cells hSw.2; clear hSw; go_simp; try with_reducible rfl))
  try simp only [Act.put, List.getElem_toArray, List.getElem_cons_succ, List.getElem_cons_zero, List.setIfInBounds_toArray, List.set_cons_zero, List.set_cons_succ]
  refine wpAnyH_take (i := 2) (oi := _) (v := ?_) rfl (by kernel_rfl) (by kernel_rfl) (by kernel_rfl) (fun _ _ _ h => h) (Or.inl ⟨by rfl, ?_⟩) (by assumption) ?_
  rotate_left
  · (intro W hSw; (try dsimp only at hSw); go_simp; try with_reducible rfl)
  try simp only [Act.put, List.getElem_toArray, List.getElem_cons_succ, List.getElem_cons_zero, List.setIfInBounds_toArray, List.set_cons_zero, List.set_cons_succ]
  refine wpAnyH_take (i := 4) (oi := _) (v := ?_) rfl (by kernel_rfl) (by kernel_rfl) (by kernel_rfl) (fun _ _ _ h => h) (Or.inl ⟨by rfl, ?_⟩) (by assumption) ?_
  rotate_left
  · (intro W hSw; (try dsimp only at hSw); go_simp; try with_reducible rfl)
  try simp only [Act.put, List.getElem_toArray, List.getElem_cons_succ, List.getElem_cons_zero, List.setIfInBounds_toArray, List.set_cons_zero, List.set_cons_succ]
  refine wpAnyH_take (i := 5) (oi := _) (v := ?_) rfl (by kernel_rfl) (by kernel_rfl) (by kernel_rfl) (fun _ _ _ h => h) (Or.inl ⟨by rfl, ?_⟩) (by assumption) ?_
  rotate_left
  · (intro W hSw; (obtain ⟨x0, x1, x2, x3, x4, x5, x6⟩ := BoxM.cells hSw.2; clear hSw; go_simp; try with_reducible rfl))
  try simp only [Act.put, List.getElem_toArray, List.getElem_cons_succ, List.getElem_cons_zero, List.setIfInBounds_toArray, List.set_cons_zero, List.set_cons_succ]
  refine wpAnyH_ready (rs := [3]) (by kernel_rfl) (by simp) ?_
  refine AllReadyH.cons rfl (fun K hK => ?_) AllReadyH.nil
  simp only [List.getElem_toArray, List.getElem_cons_succ, List.getElem_cons_zero]
  rw [if_pos (by rfl)]
  go_simp
  (go_at_call 16; refine (ref_num_int m.k hk0 hk1 _).mono ?_; rintro _ w1 ⟨rfl, b1⟩; have h1 : Below w.heap.size w w1 ∧ BoxM w1 w.heap.size m := ⟨hHeld.1.trans (b1.mono hHeld.1.size), (b1.block _ (lt_blk hHeld.2)).trans hHeld.2⟩)
  go_wp2_with fail
  refine hK.out _ _ h1 (fun hHeld => ?_)
  clear hK K
  try simp only [Act.put, List.getElem_toArray, List.getElem_cons_succ, List.getElem_cons_zero, List.setIfInBounds_toArray, List.set_cons_zero, List.set_cons_succ]
  refine wpAnyH_ready (rs := [6]) (by kernel_rfl) (by simp) ?_
  refine AllReadyH.cons rfl (fun K hK => ?_) AllReadyH.nil
  simp only [List.getElem_toArray, List.getElem_cons_succ, List.getElem_cons_zero]
  rw [if_pos (by rfl)]
  go_simp
  (go_at_call 27; refine (HP.out _).mono ?_; rintro _ w2 ⟨rfl, b2⟩; have h2 : Below w.heap.size w w2 ∧ BoxM w2 w.heap.size m := ⟨h1.1.trans (b2.mono h1.1.size), (b2.block _ (lt_blk h1.2)).trans h1.2⟩)
  go_wp2_with fail
  refine hK.out _ _ h2 (fun hHeld => ?_)
  clear hK K
  try simp only [Act.put, List.getElem_toArray, List.getElem_cons_succ, List.getElem_cons_zero, List.setIfInBounds_toArray, List.set_cons_zero, List.set_cons_succ]
  refine wpAnyH_take (i := 7) (oi := _) (v := ?_) rfl (by kernel_rfl) (by kernel_rfl) (by kernel_rfl) (fun _ _ _ h => h) (Or.inl ⟨by rfl, ?_⟩) (by assumption) ?_
  rotate_left
  · (intro W hSw; (try dsimp only at hSw); go_simp; try with_reducible rfl)
  try simp only [Act.put, List.getElem_toArray, List.getElem_cons_succ, List.getElem_cons_zero, List.setIfInBounds_toArray, List.set_cons_zero, List.set_cons_succ]
  refine wpAnyH_take (i := 8) (oi := _) (v := ?_) rfl (by kernel_rfl) (by kernel_rfl) (by kernel_rfl) (fun _ _ _ h => h) (Or.inl ⟨by rfl, ?_⟩) (by assumption) ?_
  rotate_left
  · (intro W hSw; (try dsimp only at hSw); go_simp; try with_reducible rfl)
  try simp only [Act.put, List.getElem_toArray, List.getElem_cons_succ, List.getElem_cons_zero, List.setIfInBounds_toArray, List.set_cons_zero, List.set_cons_succ]
  refine wpAnyH_done (by kernel_rfl) ?_ _
  have H2 := Lib.hid h2
  clear h0 h1 h2 b1 b2
  obtain ⟨x0, x1, x2, x3, x4, x5, x6⟩ := BoxM.cells H2.out.2
  by_cases h3 : m.k = 3
  · have h3b : (m.k == 3) = true := by simpa using h3
    have HB2 := Lib.hid (show B = kS m.k ++ S ++ textB m.a by rw [HB.out, if_pos h3])
    clear h3
    go_wp2_with fail
    refine (HT.out _).mono ?_
    rintro e w4 ⟨rfl, b4⟩
    have X4 := Lib.hid (H2.out.1.trans (b4.mono H2.out.1.size))
    clear b4 x0 x1 x2 x3 x4 x5 x6
    go_wp2
    go_ret
    exact ⟨by rw [HB2.out]; rfl, X4.out⟩
  · have h3b : (m.k == 3) = false := by simpa using h3
    have HB2 := Lib.hid (show B = kS m.k ++ S by rw [HB.out, if_neg h3])
    clear h3
    go_wp2
    go_ret
    exact ⟨by rw [HB2.out]; rfl, H2.out.1⟩
end Go.Proofs.Ytfalmebgjghjeaa.Msg
