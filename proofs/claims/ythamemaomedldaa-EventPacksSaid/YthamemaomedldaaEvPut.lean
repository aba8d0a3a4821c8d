/- Events as bytes: event.Put, and the page's. -/
import Derived.Test.YthamemaomedldaaEvRight
import Derived.Deep.RegionHeld3
import Derived.Deep.Cut
namespace Go.Proofs.Ythamemaomedldaa.Ev
open Go Go.RowKit Num Texts
open Packet (P5 textB)

/-- An event's bytes. -/
def E8.bytes (m : E8) : ByteArray := if m.k = 2 ∨ m.k = 3 then kS m.k ++ kS m.h ++ m.p.bytes ++ textB m.a else kS m.k ++ kS m.h ++ m.p.bytes
theorem eright_parts {m : E8} (h : eright m = true) : m.p.right ∧ m.a.size ≤ 64 ∧ ((m.k = 2 ∨ m.k = 3) ∨ ((m.k = 1 ∨ m.k = 4 ∨ m.k = 5) ∧ m.a.size = 0)) := by
  unfold eright at h
  rw [Bool.and_eq_true, Bool.and_eq_true] at h
  exact ⟨(pB_iff _).1 h.1.1, of_decide_eq_true h.1.2, of_decide_eq_true h.2⟩
theorem pbytes_size (p : P5) (h : p.d.size ≤ 64) : p.bytes.size ≤ 109 := by
  have h1 := kS_size p.c; have h2 := kS_size p.f; have h3 := kS_size p.s; have h4 := kS_size p.t; have h5 := Packet.textB_size p.d h
  unfold P5.bytes
  simp only [ByteArray.size_append]
  omega
theorem ebytes_size {m : E8} (h : eright m = true) : m.bytes.size ≤ 200 := by
  obtain ⟨hp, ha, _⟩ := eright_parts h
  have h1 := kS_size m.k; have h2 := pbytes_size m.p hp.2.2.2; have h3 := Packet.textB_size m.a ha; have h4 := kS_size m.h
  unfold E8.bytes
  split
  · simp only [ByteArray.size_append]; omega
  · simp only [ByteArray.size_append]; omega
/-- An event's box. -/
def BoxE (W : World) (H : Nat) (x : E8) : Prop := W.heap[H]? = some (.cells x.cells 30 (0, 0))
theorem BoxE.cells {W : World} {H : Nat} {x : E8} (h : BoxE W H x) : W.cell? ⟨H, 0, none⟩ = some (.int .i64 x.k) ∧ W.cell? ⟨H, 1, none⟩ = some (.int .u64 x.h) ∧ W.cell? ⟨H, 2, none⟩ = some (.int .i64 x.c) ∧ W.cell? ⟨H, 3, none⟩ = some (.int .i64 x.f) ∧ W.cell? ⟨H, 4, none⟩ = some (.int .u64 x.s) ∧ W.cell? ⟨H, 5, none⟩ = some (.int .u64 x.t) ∧ W.cell? ⟨H, 6, none⟩ = some (.string x.d) ∧ W.cell? ⟨H, 7, none⟩ = some (.string x.a) :=
  ⟨cell_of_row _ _ 0 _ _ _ h, cell_of_row _ _ 1 _ _ _ h, cell_of_row _ _ 2 _ _ _ h, cell_of_row _ _ 3 _ _ _ h, cell_of_row _ _ 4 _ _ _ h, cell_of_row _ _ 5 _ _ _ h, cell_of_row _ _ 6 _ _ _ h, cell_of_row _ _ 7 _ _ _ h⟩
theorem keepE {w W W1 : World} {m : E8} (h : Below w.heap.size w W ∧ BoxE W w.heap.size m) (hb : Below W.heap.size W W1) : Below w.heap.size w W1 ∧ BoxE W1 w.heap.size m :=
  ⟨h.1.trans (hb.mono h.1.size), (hb.block _ (lt_blk h.2)).trans h.2⟩
theorem newE (w : World) (m : E8) : Below w.heap.size w (w.alloc (.cells m.cells 30)) ∧ BoxE (w.alloc (.cells m.cells 30)) w.heap.size m := ⟨(Below.refl _ _).alloc (Nat.le_refl _) _, heap_alloc_new w _⟩

theorem hasack_any (k : Int) (w : World) : Calls Try.prog 30 #[.int .i64 k] w fun e w' => e = .returned (.bool (decide (k = 2 ∨ k = 3))) ∧ w' = w := by
  by_cases h2 : k = 2
  · subst h2
    go_enter Try.func30, Try.ntmps30
    go_wp2
    go_ret
    exact ⟨rfl, rfl⟩
  · have b2 : (k == 2) = false := by simpa using h2
    by_cases h3 : k = 3
    · subst h3
      clear b2
      go_enter Try.func30, Try.ntmps30
      go_wp2
      go_ret
      exact ⟨rfl, rfl⟩
    · have b3 : (k == 3) = false := by simpa using h3
      have hd : decide (k = 2 ∨ k = 3) = false := decide_eq_false (by omega)
      rw [hd]
      clear h2 h3 hd
      go_enter Try.func30, Try.ntmps30
      go_wp2
      go_ret
      exact ⟨rfl, rfl⟩

set_option maxHeartbeats 1000000 in
theorem eput_no (m : E8) (h : eright m = false) (w : World) :
    Calls Try.prog 17 #[.agg #[.int .i64 m.k, .int .u64 m.h, .int .i64 m.c, .int .i64 m.f, .int .u64 m.s, .int .u64 m.t, .string m.d, .string m.a]] w fun e w' => e = .returned (.tuple #[.string ⟨#[]⟩, .int .i64 1]) ∧ Below w.heap.size w w' := by
  have HR := Lib.hid (eright_any m)
  rw [h] at HR
  have HN := Lib.hid (newE w m)
  clear h
  go_enter Try.func17, Try.ntmps17
  go_wp2_with fail
  refine (HR.out _).mono ?_
  rintro e w1 ⟨rfl, b1⟩
  have hb := (keepE HN.out b1).1
  go_wp2
  go_ret2
  exact ⟨rfl, hb⟩

set_option maxRecDepth 20000 in
set_option maxHeartbeats 2000000 in
theorem eput_yes (m : E8) (h : eright m = true) (hw : m.wf) (w : World) :
    Calls Try.prog 17 #[.agg #[.int .i64 m.k, .int .u64 m.h, .int .i64 m.c, .int .i64 m.f, .int .u64 m.s, .int .u64 m.t, .string m.d, .string m.a]] w fun e w' => e = .returned (.tuple #[.string m.bytes, .int .i64 0]) ∧ Below w.heap.size w w' := by
  have HR := Lib.hid (eright_any m)
  rw [h] at HR
  obtain ⟨hp, ha, hk⟩ := eright_parts h
  have hps := pbytes_size m.p hp.2.2.2
  have hks := kS_size m.k
  have hhs := kS_size m.h
  have hts := Packet.textB_size m.a ha
  have HB : Hid (m.bytes = if m.k = 2 ∨ m.k = 3 then kS m.k ++ kS m.h ++ m.p.bytes ++ textB m.a else kS m.k ++ kS m.h ++ m.p.bytes) := Lib.hid rfl
  have hk0 : 0 ≤ m.k := by omega
  have hk1 : m.k < 18446744073709551616 := by omega
  have hkw : IntKind.u64.wrap m.k = m.k := IntWalk.u64_in _ ⟨by omega, by omega⟩
  have hh0 := hw.1.1
  have hh1 := hw.1.2
  have HP : Hid (∀ W, Calls Try.prog 28 #[.agg #[.int .i64 m.c, .int .i64 m.f, .int .u64 m.s, .int .u64 m.t, .string m.d]] W fun e w' => e = .returned (.tuple #[.string m.p.bytes, .int .i64 0]) ∧ Below W.heap.size W w') := Lib.hid fun W => Packet.put_yes m.p hp hw.2 W
  have hd1 : m.a.size ≤ 9223372036854775807 := by omega
  have hd2 : (textL m.a).length ≤ 140737488355328 := by
    have e : (textB m.a).size = (textL m.a).length := List.size_toArray
    omega
  have HT : Hid (∀ W, Calls Try.prog 31 #[.string m.a] W fun e w' => e = .returned (.string (textB m.a)) ∧ Below W.heap.size W w') := Lib.hid fun W => text_any m.a W hd1 hd2
  generalize m.p.bytes = Q at HP HB hps
  generalize m.bytes = B at HB
  have k1 : ∀ W, (Op.stringOp .add (kS m.k) (kS m.h)).run Try.prog W = .ok (.string (kS m.k ++ kS m.h)) W := fun W => run_string_add_sum W _ _ (by omega)
  have k2 : ∀ W, (Op.stringOp .add (kS m.k ++ kS m.h) Q).run Try.prog W = .ok (.string (kS m.k ++ kS m.h ++ Q)) W := fun W => run_string_add_sum W _ _ (by rw [ByteArray.size_append]; omega)
  have k3 : ∀ W, (Op.stringOp .add (kS m.k ++ kS m.h ++ Q) (textB m.a)).run Try.prog W = .ok (.string (kS m.k ++ kS m.h ++ Q ++ textB m.a)) W := fun W => run_string_add_sum W _ _ (by rw [ByteArray.size_append, ByteArray.size_append]; omega)
  have HN := Lib.hid (newE w m)
  clear hps hks hts hhs hd1 hd2 hp ha h hw
  go_enter Try.func17, Try.ntmps17
  go_upto_region 1 with fail
  change Code.wp _ _ _ _ (w.alloc (.cells m.cells 30))
  obtain ⟨x0, x1, x2, x3, x4, x5, x6, x7⟩ := BoxE.cells HN.out.2
  obtain ⟨W0, hW⟩ : ∃ X, X = w.alloc (.cells m.cells 30) := ⟨_, rfl⟩
  rw [← hW] at HN x0 x1 x2 x3 x4 x5 x6 x7 ⊢
  clear hW
  go_wp2_with fail
  refine (HR.out _).mono ?_
  rintro e v1 ⟨rfl, b1⟩
  have N1 := Lib.hid (keepE HN.out b1)
  clear b1 x0 x1 x2 x3 x4 x5 x6 x7
  obtain ⟨x0, x1, x2, x3, x4, x5, x6, x7⟩ := BoxE.cells N1.out.2
  go_wp2_with fail
  refine (HP.out _).mono ?_
  rintro e v2 ⟨rfl, b2⟩
  have h0 := keepE N1.out b2.drew
  clear b2 x0 x1 x2 x3 x4 x5 x6 x7
  go_upto_region 6 with fail
  refine wp_region_held_drew (S := (fun W => Below w.heap.size w W ∧ BoxE W w.heap.size m)) (by kernel_rfl) h0 (fun hHeld => ?_)
  refine wpAnyH_take (i := 0) (oi := _) (v := ?_) rfl (by kernel_rfl) (by kernel_rfl) (by kernel_rfl) (fun _ _ _ h => h) (Or.inl ⟨by rfl, ?_⟩) (by assumption) ?_
  rotate_left
  · (intro W hSw; (try dsimp only at hSw); go_simp; try with_reducible rfl)
  try simp only [Act.put, List.getElem_toArray, List.getElem_cons_zero, List.setIfInBounds_toArray, List.set_cons_zero, List.set_cons_succ]
  refine wpAnyH_take (i := 1) (oi := _) (v := ?_) rfl (by kernel_rfl) (by kernel_rfl) (by kernel_rfl) (fun _ _ _ h => h) (Or.inl ⟨by rfl, ?_⟩) (by assumption) ?_
  rotate_left
  · (intro W hSw; (obtain ⟨x0, x1, x2, x3, x4, x5, x6, x7⟩ := BoxE.cells hSw.2; clear hSw; go_simp; try with_reducible rfl))
  try simp only [Act.put, List.getElem_toArray, List.getElem_cons_succ, List.getElem_cons_zero, List.setIfInBounds_toArray, List.set_cons_zero, List.set_cons_succ]
  refine wpAnyH_take (i := 2) (oi := _) (v := ?_) rfl (by kernel_rfl) (by kernel_rfl) (by kernel_rfl) (fun _ _ _ h => h) (Or.inl ⟨by rfl, ?_⟩) (by assumption) ?_
  rotate_left
  · (intro W hSw; (try dsimp only at hSw); go_simp; try with_reducible rfl)
  try simp only [Act.put, List.getElem_toArray, List.getElem_cons_succ, List.getElem_cons_zero, List.setIfInBounds_toArray, List.set_cons_zero, List.set_cons_succ]
  refine wpAnyH_take (i := 4) (oi := _) (v := ?_) rfl (by kernel_rfl) (by kernel_rfl) (by kernel_rfl) (fun _ _ _ h => h) (Or.inl ⟨by rfl, ?_⟩) (by assumption) ?_
  rotate_left
  · (intro W hSw; (try dsimp only at hSw); go_simp; try with_reducible rfl)
  try simp only [Act.put, List.getElem_toArray, List.getElem_cons_succ, List.getElem_cons_zero, List.setIfInBounds_toArray, List.set_cons_zero, List.set_cons_succ]
  refine wpAnyH_take (i := 5) (oi := _) (v := ?_) rfl (by kernel_rfl) (by kernel_rfl) (by kernel_rfl) (fun _ _ _ h => h) (Or.inl ⟨by rfl, ?_⟩) (by assumption) ?_
  rotate_left
  · (intro W hSw; (obtain ⟨x0, x1, x2, x3, x4, x5, x6, x7⟩ := BoxE.cells hSw.2; clear hSw; go_simp; try with_reducible rfl))
  try simp only [Act.put, List.getElem_toArray, List.getElem_cons_succ, List.getElem_cons_zero, List.setIfInBounds_toArray, List.set_cons_zero, List.set_cons_succ]
  refine wpAnyH_take (i := 8) (oi := _) (v := ?_) rfl (by kernel_rfl) (by kernel_rfl) (by kernel_rfl) (fun _ _ _ h => h) (Or.inl ⟨by rfl, ?_⟩) (by assumption) ?_
  rotate_left
  · (intro W hSw; (try dsimp only at hSw); go_simp; try with_reducible rfl)
  try simp only [Act.put, List.getElem_toArray, List.getElem_cons_succ, List.getElem_cons_zero, List.setIfInBounds_toArray, List.set_cons_zero, List.set_cons_succ]
  refine wpAnyH_ready (rs := [3]) (by kernel_rfl) (by simp) ?_
  refine AllReadyH.cons rfl (fun K hK => ?_) AllReadyH.nil
  simp only [List.getElem_toArray, List.getElem_cons_succ, List.getElem_cons_zero]
  rw [if_pos (by rfl)]
  go_simp
  (go_at_call 29; refine (num_int m.k hk0 hk1 _).mono ?_; rintro _ w1 ⟨rfl, b1⟩; have h1 := keepE hHeld b1)
  go_wp2_with fail
  refine hK.out _ _ h1 (fun hHeld => ?_)
  clear hK K
  try simp only [Act.put, List.getElem_toArray, List.getElem_cons_succ, List.getElem_cons_zero, List.setIfInBounds_toArray, List.set_cons_zero, List.set_cons_succ]
  refine wpAnyH_ready (rs := [6]) (by kernel_rfl) (by simp) ?_
  refine AllReadyH.cons rfl (fun K hK => ?_) AllReadyH.nil
  simp only [List.getElem_toArray, List.getElem_cons_succ, List.getElem_cons_zero]
  rw [if_pos (by rfl)]
  go_simp
  (go_at_call 29; refine (num_int m.h hh0 hh1 _).mono ?_; rintro _ w2 ⟨rfl, b2⟩; have h2 := keepE h1 b2)
  go_wp2_with fail
  refine hK.out _ _ h2 (fun hHeld => ?_)
  clear hK K
  try simp only [Act.put, List.getElem_toArray, List.getElem_cons_succ, List.getElem_cons_zero, List.setIfInBounds_toArray, List.set_cons_zero, List.set_cons_succ]
  refine wpAnyH_take (i := 7) (oi := _) (v := ?_) rfl (by kernel_rfl) (by kernel_rfl) (by kernel_rfl) (fun _ _ _ h => h) (Or.inl ⟨by rfl, ?_⟩) (by assumption) ?_
  rotate_left
  · (intro W hSw; (try dsimp only at hSw); go_simp; try with_reducible rfl)
  try simp only [Act.put, List.getElem_toArray, List.getElem_cons_succ, List.getElem_cons_zero, List.setIfInBounds_toArray, List.set_cons_zero, List.set_cons_succ]
  refine wpAnyH_take (i := 9) (oi := _) (v := ?_) rfl (by kernel_rfl) (by kernel_rfl) (by kernel_rfl) (fun _ _ _ h => h) (Or.inl ⟨by rfl, ?_⟩) (by assumption) ?_
  rotate_left
  · (intro W hSw; (try dsimp only at hSw); go_simp; try with_reducible rfl)
  try simp only [Act.put, List.getElem_toArray, List.getElem_cons_succ, List.getElem_cons_zero, List.setIfInBounds_toArray, List.set_cons_zero, List.set_cons_succ]
  refine wpAnyH_take (i := 10) (oi := _) (v := ?_) rfl (by kernel_rfl) (by kernel_rfl) (by kernel_rfl) (fun _ _ _ h => h) (Or.inl ⟨by rfl, ?_⟩) (by assumption) ?_
  rotate_left
  · (intro W hSw; (try dsimp only at hSw); go_simp; try with_reducible rfl)
  try simp only [Act.put, List.getElem_toArray, List.getElem_cons_succ, List.getElem_cons_zero, List.setIfInBounds_toArray, List.set_cons_zero, List.set_cons_succ]
  refine wpAnyH_done (by kernel_rfl) ?_ _
  have N3 := Lib.hid h2
  clear h0 h1 h2 b1 b2
  obtain ⟨x0, x1, x2, x3, x4, x5, x6, x7⟩ := BoxE.cells N3.out.2
  go_wp2_with fail
  refine (hasack_any m.k _).mono ?_
  rintro _ v3 ⟨rfl, hv⟩
  obtain rfl := hv.symm
  clear hv
  by_cases h3 : m.k = 2 ∨ m.k = 3
  · have HB2 := Lib.hid (show B = kS m.k ++ kS m.h ++ Q ++ textB m.a by rw [HB.out, if_pos h3])
    rw [decide_eq_true h3]
    clear h3
    go_wp2_with fail
    refine (HT.out _).mono ?_
    rintro e w4 ⟨rfl, b4⟩
    have X4 := Lib.hid (keepE N3.out b4)
    clear b4 x0 x1 x2 x3 x4 x5 x6 x7
    go_wp2
    go_ret2
    exact ⟨by rw [HB2.out]; rfl, X4.out.1⟩
  · have HB2 := Lib.hid (show B = kS m.k ++ kS m.h ++ Q by rw [HB.out, if_neg h3])
    rw [decide_eq_false h3]
    clear h3
    go_wp2
    go_ret2
    exact ⟨by rw [HB2.out]; rfl, N3.out.1⟩

set_option maxRecDepth 20000 in
set_option maxHeartbeats 2000000 in
theorem reput_yes (m : E8) (h : eright m = true) (hw : m.wf) (w : World) :
    Calls Try.prog 8 #[.agg #[.int .i64 m.k, .int .u64 m.h, .int .i64 m.c, .int .i64 m.f, .int .u64 m.s, .int .u64 m.t, .string m.d, .string m.a]] w fun e w' => e = .returned (.string m.bytes) ∧ Below w.heap.size w w' := by
  obtain ⟨hp, ha, hk⟩ := eright_parts h
  have hps := pbytes_size m.p hp.2.2.2
  have hks := kS_size m.k
  have hhs := kS_size m.h
  have hts := Packet.textB_size m.a ha
  have HB : Hid (m.bytes = if m.k = 2 ∨ m.k = 3 then kS m.k ++ kS m.h ++ m.p.bytes ++ textB m.a else kS m.k ++ kS m.h ++ m.p.bytes) := Lib.hid rfl
  have hk0 : 0 ≤ m.k := by omega
  have hk1 : m.k < 18446744073709551616 := by omega
  have hkw : IntKind.u64.wrap m.k = m.k := IntWalk.u64_in _ ⟨by omega, by omega⟩
  have hh0 := hw.1.1
  have hh1 := hw.1.2
  have HP : Hid (∀ W, Calls Try.prog 19 #[.agg #[.int .i64 m.c, .int .i64 m.f, .int .u64 m.s, .int .u64 m.t, .string m.d]] W fun e w' => e = .returned (.string m.p.bytes) ∧ Below W.heap.size W w') := Lib.hid fun W => Packet.rput_yes m.p hp hw.2 W
  have hd1 : m.a.size ≤ 140737488355328 := by omega
  have HT : Hid (∀ W, Calls Try.prog 20 #[.string m.a] W fun e w' => e = .returned (.string (textB m.a)) ∧ Below W.heap.size W w') := Lib.hid fun W => ref_text_any m.a W hd1
  generalize m.p.bytes = Q at HP HB hps
  generalize m.bytes = B at HB
  have k1 : ∀ W, (Op.stringOp .add (kS m.k) (kS m.h)).run Try.prog W = .ok (.string (kS m.k ++ kS m.h)) W := fun W => run_string_add_sum W _ _ (by omega)
  have k2 : ∀ W, (Op.stringOp .add (kS m.k ++ kS m.h) Q).run Try.prog W = .ok (.string (kS m.k ++ kS m.h ++ Q)) W := fun W => run_string_add_sum W _ _ (by rw [ByteArray.size_append]; omega)
  have k3 : ∀ W, (Op.stringOp .add (kS m.k ++ kS m.h ++ Q) (textB m.a)).run Try.prog W = .ok (.string (kS m.k ++ kS m.h ++ Q ++ textB m.a)) W := fun W => run_string_add_sum W _ _ (by rw [ByteArray.size_append, ByteArray.size_append]; omega)
  have HN := Lib.hid (newE w m)
  clear hps hks hts hhs hd1 hp ha h hw
  go_enter Try.func8, Try.ntmps8
  go_upto_region 1 with fail
  change Code.wp _ _ _ _ (w.alloc (.cells m.cells 30))
  have h0 := keepE HN.out (Below.refl _ _).drew
  obtain ⟨W0, hW⟩ : ∃ X, X = w.alloc (.cells m.cells 30) := ⟨_, rfl⟩
  rw [← hW] at h0 ⊢
  clear hW HN
  refine wp_region_held_drew (S := (fun W => Below w.heap.size w W ∧ BoxE W w.heap.size m)) (by kernel_rfl) h0 (fun hHeld => ?_)
  refine wpAnyH_take (i := 0) (oi := _) (v := ?_) rfl (by kernel_rfl) (by kernel_rfl) (by kernel_rfl) (fun _ _ _ h => h) (Or.inl ⟨by rfl, ?_⟩) (by assumption) ?_
  rotate_left
  · (intro W hSw; (try dsimp only at hSw); go_simp; try with_reducible rfl)
  try simp only [Act.put, List.getElem_toArray, List.getElem_cons_zero, List.setIfInBounds_toArray, List.set_cons_zero, List.set_cons_succ]
  refine wpAnyH_take (i := 1) (oi := _) (v := ?_) rfl (by kernel_rfl) (by kernel_rfl) (by kernel_rfl) (fun _ _ _ h => h) (Or.inl ⟨by rfl, ?_⟩) (by assumption) ?_
  rotate_left
  · (intro W hSw; (obtain ⟨x0, x1, x2, x3, x4, x5, x6, x7⟩ := BoxE.cells hSw.2; clear hSw; go_simp; try with_reducible rfl))
  try simp only [Act.put, List.getElem_toArray, List.getElem_cons_succ, List.getElem_cons_zero, List.setIfInBounds_toArray, List.set_cons_zero, List.set_cons_succ]
  refine wpAnyH_take (i := 2) (oi := _) (v := ?_) rfl (by kernel_rfl) (by kernel_rfl) (by kernel_rfl) (fun _ _ _ h => h) (Or.inl ⟨by rfl, ?_⟩) (by assumption) ?_
  rotate_left
  · (intro W hSw; (try dsimp only at hSw); go_simp; try with_reducible rfl)
  try simp only [Act.put, List.getElem_toArray, List.getElem_cons_succ, List.getElem_cons_zero, List.setIfInBounds_toArray, List.set_cons_zero, List.set_cons_succ]
  refine wpAnyH_take (i := 4) (oi := _) (v := ?_) rfl (by kernel_rfl) (by kernel_rfl) (by kernel_rfl) (fun _ _ _ h => h) (Or.inl ⟨by rfl, ?_⟩) (by assumption) ?_
  rotate_left
  · (intro W hSw; (try dsimp only at hSw); go_simp; try with_reducible rfl)
  try simp only [Act.put, List.getElem_toArray, List.getElem_cons_succ, List.getElem_cons_zero, List.setIfInBounds_toArray, List.set_cons_zero, List.set_cons_succ]
  refine wpAnyH_take (i := 5) (oi := _) (v := ?_) rfl (by kernel_rfl) (by kernel_rfl) (by kernel_rfl) (fun _ _ _ h => h) (Or.inl ⟨by rfl, ?_⟩) (by assumption) ?_
  rotate_left
  · (intro W hSw; (obtain ⟨x0, x1, x2, x3, x4, x5, x6, x7⟩ := BoxE.cells hSw.2; clear hSw; go_simp; try with_reducible rfl))
  try simp only [Act.put, List.getElem_toArray, List.getElem_cons_succ, List.getElem_cons_zero, List.setIfInBounds_toArray, List.set_cons_zero, List.set_cons_succ]
  refine wpAnyH_take (i := 8) (oi := _) (v := ?_) rfl (by kernel_rfl) (by kernel_rfl) (by kernel_rfl) (fun _ _ _ h => h) (Or.inl ⟨by rfl, ?_⟩) (by assumption) ?_
  rotate_left
  · (intro W hSw; (try dsimp only at hSw); go_simp; try with_reducible rfl)
  try simp only [Act.put, List.getElem_toArray, List.getElem_cons_succ, List.getElem_cons_zero, List.setIfInBounds_toArray, List.set_cons_zero, List.set_cons_succ]
  refine wpAnyH_take (i := 9) (oi := _) (v := ?_) rfl (by kernel_rfl) (by kernel_rfl) (by kernel_rfl) (fun _ _ _ h => h) (Or.inl ⟨by rfl, ?_⟩) (by assumption) ?_
  rotate_left
  · (intro W hSw; (obtain ⟨x0, x1, x2, x3, x4, x5, x6, x7⟩ := BoxE.cells hSw.2; clear hSw; go_simp; try with_reducible rfl))
  try simp only [Act.put, List.getElem_toArray, List.getElem_cons_succ, List.getElem_cons_zero, List.setIfInBounds_toArray, List.set_cons_zero, List.set_cons_succ]
  refine wpAnyH_ready (rs := [3]) (by kernel_rfl) (by simp) ?_
  refine AllReadyH.cons rfl (fun K hK => ?_) AllReadyH.nil
  simp only [List.getElem_toArray, List.getElem_cons_succ, List.getElem_cons_zero]
  rw [if_pos (by rfl)]
  go_simp
  (go_at_call 18; refine (ref_num_int m.k hk0 hk1 _).mono ?_; rintro _ w1 ⟨rfl, b1⟩; have h1 := keepE hHeld b1)
  go_wp2_with fail
  refine hK.out _ _ h1 (fun hHeld => ?_)
  clear hK K
  try simp only [Act.put, List.getElem_toArray, List.getElem_cons_succ, List.getElem_cons_zero, List.setIfInBounds_toArray, List.set_cons_zero, List.set_cons_succ]
  refine wpAnyH_ready (rs := [6]) (by kernel_rfl) (by simp) ?_
  refine AllReadyH.cons rfl (fun K hK => ?_) AllReadyH.nil
  simp only [List.getElem_toArray, List.getElem_cons_succ, List.getElem_cons_zero]
  rw [if_pos (by rfl)]
  go_simp
  (go_at_call 18; refine (ref_num_int m.h hh0 hh1 _).mono ?_; rintro _ w2 ⟨rfl, b2⟩; have h2 := keepE h1 b2)
  go_wp2_with fail
  refine hK.out _ _ h2 (fun hHeld => ?_)
  clear hK K
  try simp only [Act.put, List.getElem_toArray, List.getElem_cons_succ, List.getElem_cons_zero, List.setIfInBounds_toArray, List.set_cons_zero, List.set_cons_succ]
  refine wpAnyH_take (i := 7) (oi := _) (v := ?_) rfl (by kernel_rfl) (by kernel_rfl) (by kernel_rfl) (fun _ _ _ h => h) (Or.inl ⟨by rfl, ?_⟩) (by assumption) ?_
  rotate_left
  · (intro W hSw; (try dsimp only at hSw); go_simp; try with_reducible rfl)
  try simp only [Act.put, List.getElem_toArray, List.getElem_cons_succ, List.getElem_cons_zero, List.setIfInBounds_toArray, List.set_cons_zero, List.set_cons_succ]
  refine wpAnyH_ready (rs := [10]) (by kernel_rfl) (by simp) ?_
  refine AllReadyH.cons rfl (fun K hK => ?_) AllReadyH.nil
  simp only [List.getElem_toArray, List.getElem_cons_succ, List.getElem_cons_zero]
  rw [if_pos (by rfl)]
  go_simp
  (go_at_call 19; refine (HP.out _).mono ?_; rintro _ w3 ⟨rfl, b3⟩; have h3 := keepE h2 b3)
  go_wp2_with fail
  refine hK.out _ _ h3 (fun hHeld => ?_)
  clear hK K
  try simp only [Act.put, List.getElem_toArray, List.getElem_cons_succ, List.getElem_cons_zero, List.setIfInBounds_toArray, List.set_cons_zero, List.set_cons_succ]
  refine wpAnyH_take (i := 11) (oi := _) (v := ?_) rfl (by kernel_rfl) (by kernel_rfl) (by kernel_rfl) (fun _ _ _ h => h) (Or.inl ⟨by rfl, ?_⟩) (by assumption) ?_
  rotate_left
  · (intro W hSw; (try dsimp only at hSw); go_simp; try with_reducible rfl)
  try simp only [Act.put, List.getElem_toArray, List.getElem_cons_succ, List.getElem_cons_zero, List.setIfInBounds_toArray, List.set_cons_zero, List.set_cons_succ]
  refine wpAnyH_take (i := 12) (oi := _) (v := ?_) rfl (by kernel_rfl) (by kernel_rfl) (by kernel_rfl) (fun _ _ _ h => h) (Or.inl ⟨by rfl, ?_⟩) (by assumption) ?_
  rotate_left
  · (intro W hSw; (try dsimp only at hSw); go_simp; try with_reducible rfl)
  try simp only [Act.put, List.getElem_toArray, List.getElem_cons_succ, List.getElem_cons_zero, List.setIfInBounds_toArray, List.set_cons_zero, List.set_cons_succ]
  refine wpAnyH_done (by kernel_rfl) ?_ _
  have N3 := Lib.hid h3
  clear h0 h1 h2 h3 b1 b2 b3
  obtain ⟨x0, x1, x2, x3, x4, x5, x6, x7⟩ := BoxE.cells N3.out.2
  by_cases h3 : m.k = 2 ∨ m.k = 3
  · have HB2 := Lib.hid (show B = kS m.k ++ kS m.h ++ Q ++ textB m.a by rw [HB.out, if_pos h3])
    by_cases h2 : m.k = 2
    · have e2 : (m.k == 2) = true := by simpa using h2
      clear h2 h3
      go_wp2_with fail
      refine (HT.out _).mono ?_
      rintro e w4 ⟨rfl, b4⟩
      have X4 := Lib.hid (keepE N3.out b4)
      clear b4 x0 x1 x2 x3 x4 x5 x6 x7
      go_wp2
      go_ret
      exact ⟨by rw [HB2.out]; rfl, X4.out.1⟩
    · have e2 : (m.k == 2) = false := by simpa using h2
      have e3 : (m.k == 3) = true := by simp; omega
      clear h2 h3
      go_wp2_with fail
      refine (HT.out _).mono ?_
      rintro e w4 ⟨rfl, b4⟩
      have X4 := Lib.hid (keepE N3.out b4)
      clear b4 x0 x1 x2 x3 x4 x5 x6 x7
      go_wp2
      go_ret
      exact ⟨by rw [HB2.out]; rfl, X4.out.1⟩
  · have HB2 := Lib.hid (show B = kS m.k ++ kS m.h ++ Q by rw [HB.out, if_neg h3])
    have e2 : (m.k == 2) = false := by simp; omega
    have e3 : (m.k == 3) = false := by simp; omega
    clear h3
    go_wp2
    go_ret
    exact ⟨by rw [HB2.out]; rfl, N3.out.1⟩
end Go.Proofs.Ythamemaomedldaa.Ev
