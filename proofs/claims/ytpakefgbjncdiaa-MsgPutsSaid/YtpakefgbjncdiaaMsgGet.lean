/- msg.Get: the message of bytes; what was put is read as it was. -/
import Derived.Test.YtpakefgbjncdiaaMsgTake
import Derived.Test.YtpakefgbjncdiaaMsgPut
namespace Go.Proofs.Ytpakefgbjncdiaa.Rd
open Go Go.RowKit Num Texts Packet
open Msg (M7 mright mright_any)

theorem msg_back (m : M7) (h : mright m = true) (hw : m.wf) (s rest : ByteArray) (hs : s.data.toList = m.bytes.data.toList ++ rest.data.toList) : (R2.mk s 0).msg = (m, ⟨rest, 0⟩) := by
  obtain ⟨hp, ha, hk⟩ := Msg.mright_parts h
  have hkS : kS m.k = numS (m.k.toNat % 18446744073709551616) := rfl
  have hkb : m.k.toNat % 18446744073709551616 = m.k.toNat := by omega
  rw [hkb] at hkS
  by_cases h3 : m.k = 3
  · have hb : m.bytes = kS m.k ++ m.p.bytes ++ textB m.a := by unfold Msg.M7.bytes; rw [if_pos h3]
    have l1 := num_back 4 m.k.toNat s (m.p.bytes ++ (textB m.a ++ rest)) (by omega) (by omega) (by rw [hs, hb, hkS]; simp)
    have l2 := packet_back m.p hp hw (m.p.bytes ++ (textB m.a ++ rest)) (textB m.a ++ rest) (by simp)
    have l3 := text_back 64 (textB m.a ++ rest) m.a rest ha (by omega) (by simp [textB, textL])
    unfold R2.msg
    simp only [R2.num_ok l1, l2]
    rw [if_pos (show m.k.toNat = 3 by omega)]
    simp only [R2.text_ok l3, R2.failed_ok]
    rw [if_neg (by simp)]
    clear l1 l2 l3 hb hs hkS hkb
    obtain ⟨k, c, f, s', t, d, a⟩ := m
    dsimp only [Msg.M7.p] at *
    congr 2
    omega
  · have hb : m.bytes = kS m.k ++ m.p.bytes := by unfold Msg.M7.bytes; rw [if_neg h3]
    have l1 := num_back 4 m.k.toNat s (m.p.bytes ++ rest) (by omega) (by omega) (by rw [hs, hb, hkS]; simp)
    have l2 := packet_back m.p hp hw (m.p.bytes ++ rest) rest (by simp)
    have hae : m.a = ⟨#[]⟩ := by
      rcases hk with h | h
      · exact absurd h h3
      · exact Msg.empty_of h.1
    unfold R2.msg
    simp only [R2.num_ok l1, l2]
    rw [if_neg (show ¬ m.k.toNat = 3 by omega)]
    simp only [R2.failed_ok]
    rw [if_neg (by simp)]
    clear l1 l2 hb hs hkS hkb
    obtain ⟨k, c, f, s', t, d, a⟩ := m
    dsimp only [Msg.M7.p] at *
    subst hae
    congr 2
    omega
theorem res_mget (tmps : Array Value) (w : World) (g : Nat) (C : Array Value) (n : Int) (hz : C.size = 7) (hp : tmps.getD 2 undef = .pointer (some ⟨g, 0, none⟩)) (h3 : tmps.getD 3 undef = .int .i64 n)
    (hg : w.heap[g]? = some (.cells C 26 (0, 0))) : (results Try.f12 tmps).run Try.prog w = .ok (.tuple #[.agg C, .int .i64 n]) w := by
  have hp' : tmps[2]?.getD undef = .pointer (some ⟨g, 0, none⟩) := by simpa using hp
  have h3' : tmps[3]?.getD undef = .int .i64 n := by simpa using h3
  simp [results, Try.results12, hp', h3', asAddr, run_loadVar_row w g 26 26 C (0, 0) _ hg Try.underlying26 rfl (i7 C hz)]
theorem hst7 (w1 : World) (C : Array Value) (hz : C.size = 7) (ho : C.all (·.oneCell') = true) : (storeCells ⟨w1.heap.size, 0, none⟩ C.toList).run Try.prog (w1.alloc (.cells #[.int .i64 0, .int .i64 0, .int .i64 0, .int .u64 0, .int .u64 0, .string ⟨#[]⟩, .string ⟨#[]⟩] 26)) = .ok () ((w1.alloc (.cells #[.int .i64 0, .int .i64 0, .int .i64 0, .int .u64 0, .int .u64 0, .string ⟨#[]⟩, .string ⟨#[]⟩] 26)).setRow w1.heap.size C) := by
  obtain ⟨Y, hY⟩ : ∃ Y : Array Value, Y = #[.int .i64 0, .int .i64 0, .int .i64 0, .int .u64 0, .int .u64 0, .string ⟨#[]⟩, .string ⟨#[]⟩] := ⟨_, rfl⟩
  rw [← hY]
  have hzz : Y.size = 7 := by rw [hY]; rfl
  clear hY
  have h := run_storeCells_at (P := Try.prog) w1.heap.size 0 26 C.toList 0 Y (w1.alloc (.cells Y 26)) (heap_alloc_new w1 _) (by rw [Array.length_toList, hz, hzz]; decide) (fun u hu => (Array.all_eq_true'.1 ho) u (by simpa using hu))
  simp only [Nat.add_zero, List.take_zero, List.nil_append, Nat.zero_add] at h
  rw [h, List.drop_of_length_le (by rw [Array.length_toList, hzz, Array.length_toList, hz]; exact Nat.le_refl _), List.append_nil]

/-- the message of bytes, or why they are none -/
def getM (s : ByteArray) : M7 × Int := if (R2.mk s 0).msg.2.end' ≠ 0 then (zeroM, (R2.mk s 0).msg.2.end') else if mright (R2.mk s 0).msg.1 then ((R2.mk s 0).msg.1, 0) else (zeroM, 3)
theorem getM_back (m : M7) (h : mright m = true) (hw : m.wf) : getM m.bytes = (m, 0) := by
  have := msg_back m h hw m.bytes ⟨#[]⟩ (by simp)
  unfold getM
  rw [this]
  dsimp only
  rw [if_neg (fun h => h rfl), if_pos h]

set_option maxRecDepth 20000 in
set_option maxHeartbeats 1000000 in
theorem mget_any (s : ByteArray) (hs : s.size ≤ 1099511627776) (W : World) :
    Calls Try.prog 12 #[.string s] W fun e w' => e = .returned (.tuple #[.agg (getM s).1.cells, .int .i64 (getM s).2]) ∧ Below W.heap.size W w' := by
  have HT := Lib.hid (fun (R : Nat) (V : World) (h : Lies V R ⟨s, 0⟩) => mtake_any R ⟨s, 0⟩ hs V h)
  have hg : getM s = if (R2.mk s 0).msg.2.end' ≠ 0 then (zeroM, (R2.mk s 0).msg.2.end') else if mright (R2.mk s 0).msg.1 then ((R2.mk s 0).msg.1, 0) else (zeroM, 3) := rfl
  generalize (R2.mk s 0).msg = x at *
  obtain ⟨q, r⟩ := x
  dsimp only at hg HT
  have HG := Lib.hid hg
  have HMR := Lib.hid (mright_any q)
  clear hg hs
  go_enter Try.func12, Try.ntmps12
  go_wp2_with fail
  refine (new_any s _).mono ?_
  rintro _ w1 ⟨rfl, hw⟩
  have hz1 : (W.alloc (.cells #[.int .i64 0, .int .i64 0, .int .i64 0, .int .u64 0, .int .u64 0, .string ⟨#[]⟩, .string ⟨#[]⟩] 26)).heap.size = W.heap.size + 1 := by simp
  have hA : w1.heap[W.heap.size]? = some (.cells zeroM.cells 26 (0, 0)) := by rw [hw, Below.heap_alloc _ _ _ (by simp)]; exact heap_alloc_new _ _
  have hR : Lies w1 (W.heap.size + 1) ⟨s, 0⟩ := by
    rw [hw]
    have := heap_alloc_new (W.alloc (.cells #[.int .i64 0, .int .i64 0, .int .i64 0, .int .u64 0, .int .u64 0, .string ⟨#[]⟩, .string ⟨#[]⟩] 26)) (.cells #[.string s, .int .i64 0] 50)
    rw [hz1] at this
    exact this
  have hB : Below W.heap.size W w1 := by rw [hw]; exact ((Below.refl _ _).alloc (Nat.le_refl _) _).alloc (by simp) _
  rw [hz1]
  clear hw hz1
  have HA := Lib.hid hA
  have HB := Lib.hid hB
  clear hA hB
  go_wp2_with fail
  refine (HT.out _ _ hR).mono ?_
  rintro _ w2 ⟨rfl, hR2, hO⟩
  have hA2 := (hO.block _ (Array.getElem?_eq_some_iff.1 HA.out).1 (by omega)).trans HA.out
  have hB2 := Only.below HB.out hO (by omega) HB.out.size
  clear hR HA HB hO HT
  have HA := Lib.hid hA2
  have HB := Lib.hid hB2
  have HR2 := Lib.hid hR2
  have hst := hst7 w2 q.cells rfl (cells7_one q)
  clear hA2 hB2 hR2
  go_upto_region 3 with fail
  obtain ⟨W3, hW3⟩ : ∃ X, X = (w2.alloc (.cells #[.int .i64 0, .int .i64 0, .int .i64 0, .int .u64 0, .int .u64 0, .string ⟨#[]⟩, .string ⟨#[]⟩] 26)).setRow w2.heap.size q.cells := ⟨_, rfl⟩
  rw [← hW3]
  have hz2 := (Array.getElem?_eq_some_iff.1 HR2.out).1
  have hA3 : W3.heap[W.heap.size]? = some (.cells zeroM.cells 26 (0, 0)) := by
    rw [hW3]; exact (setRow_other _ _ _ _ (by omega)).trans ((Below.heap_alloc _ _ _ (by omega)).trans HA.out)
  have hR3 : Lies W3 (W.heap.size + 1) r := by
    rw [hW3]; exact (setRow_other _ _ _ _ (by omega)).trans ((Below.heap_alloc _ _ _ (by omega)).trans HR2.out)
  have hC3 : W3.heap[w2.heap.size]? = some (.cells q.cells 26 (0, 0)) := by rw [hW3]; exact setRow_heap _ _ _ _ _ _ (heap_alloc_new w2 _)
  have hB3 : Below W.heap.size W W3 := by
    rw [hW3]
    have h1 := HB.out.alloc HB.out.size (.cells #[.int .i64 0, .int .i64 0, .int .i64 0, .int .u64 0, .int .u64 0, .string ⟨#[]⟩, .string ⟨#[]⟩] 26)
    exact ⟨h1.os, h1.tape, h1.output, by simpa using h1.size, fun i hi => (setRow_other _ _ _ _ (by omega)).trans (h1.block i hi)⟩
  have hQ : W.heap.size + 1 < w2.heap.size := hz2
  clear hW3 HA HB HR2 hst
  obtain ⟨Q, hQe⟩ : ∃ Q, Q = w2.heap.size := ⟨_, rfl⟩
  rw [← hQe] at hC3 hQ ⊢
  clear hQe hz2
  have HA := Lib.hid hA3
  have HB := Lib.hid hB3
  have HC := Lib.hid hC3
  have HE := Lib.hid (end_any (W.heap.size + 1) r W3 hR3)
  clear hA3 hR3 hC3 hB3
  go_wp2_with fail
  refine HE.out.mono ?_
  rintro _ w4 ⟨rfl, hw⟩
  obtain rfl := hw.symm
  clear hw HE
  generalize r.end' = e at *
  by_cases he : e = 0
  · subst he
    go_upto_region 6 with fail
    refine wp_region_lit ?_
    refine wpList_load_row rfl 26 _ rfl Q rfl 26 q.cells (0, 0) _ HC.out Try.underlying26 rfl (i7 _ rfl) ?_
    refine wpList_step (fun K hK => ?_)
    go_simp
    refine (HMR.out _).mono ?_
    rintro _ w5 ⟨rfl, b5⟩
    have HA5 := Lib.hid ((b5.block _ (Array.getElem?_eq_some_iff.1 HA.out).1).trans HA.out)
    have HC5 := Lib.hid ((b5.block _ (Array.getElem?_eq_some_iff.1 HC.out).1).trans HC.out)
    have HB5 := Lib.hid (HB.out.trans (b5.mono HB.out.size))
    clear b5 HA HB HC
    refine hK _ _ ?_
    clear hK K
    cases hmr : mright q with
    | true =>
      have HG2 : Hid (getM s = (q, 0)) := Lib.hid (by rw [HG.out, if_neg (by simp), if_pos hmr])
      clear HG hmr
      go_upto_region 8 with fail
      refine wp_region_lit ?_
      refine wpList_load_row rfl 26 _ rfl Q rfl 26 q.cells (0, 0) _ HC5.out Try.underlying26 rfl (i7 _ rfl) ?_
      refine wpList_store_rowTo rfl 26 _ _ rfl rfl W.heap.size q.cells rfl rfl 26 _ HA5.out (i7 _ rfl) rfl (cells7_one q) ?_
      have HR' := setRow_heap w5 W.heap.size _ q.cells 26 (0, 0) HA5.out
      have hB9 : Below W.heap.size W (w5.setRow W.heap.size q.cells) := ⟨HB5.out.os, HB5.out.tape, HB5.out.output, by simpa using HB5.out.size, fun i hi => (setRow_other _ _ _ _ (by omega)).trans (HB5.out.block i hi)⟩
      obtain ⟨W9, hW9⟩ : ∃ W9, W9 = w5.setRow W.heap.size q.cells := ⟨_, rfl⟩
      rw [← hW9] at HR' hB9 ⊢
      clear hW9 HA5 HB5 HC5
      go_wp2_with fail
      exact bodyPost_ret (res_mget _ _ W.heap.size q.cells 0 rfl rfl rfl HR') rfl ⟨by rw [HG2.out], hB9⟩
    | false =>
      have HG2 : Hid (getM s = (zeroM, 3)) := Lib.hid (by rw [HG.out, if_neg (by simp), hmr, if_neg (by simp)])
      clear HG hmr
      go_upto_region 7 with fail
      refine wp_region_lit ?_
      refine wpList_step (fun K hK => ?_)
      go_simp
      refine hK _ _ ?_
      clear hK K
      refine wpList_store_rowTo rfl 26 _ _ rfl rfl W.heap.size zeroM.cells rfl rfl 26 _ HA5.out (i7 _ rfl) rfl (cells7_one _) ?_
      have HR' := setRow_heap w5 W.heap.size _ zeroM.cells 26 (0, 0) HA5.out
      have hB9 : Below W.heap.size W (w5.setRow W.heap.size zeroM.cells) := ⟨HB5.out.os, HB5.out.tape, HB5.out.output, by simpa using HB5.out.size, fun i hi => (setRow_other _ _ _ _ (by omega)).trans (HB5.out.block i hi)⟩
      obtain ⟨W9, hW9⟩ : ∃ W9, W9 = w5.setRow W.heap.size zeroM.cells := ⟨_, rfl⟩
      rw [← hW9] at HR' hB9 ⊢
      clear hW9 HA5 HB5 HC5
      go_wp2_with fail
      exact bodyPost_ret (res_mget _ _ W.heap.size zeroM.cells 3 rfl rfl rfl HR') rfl ⟨by rw [HG2.out], hB9⟩
  · have he2 : (e == 0) = false := by simpa using he
    have HG2 : Hid (getM s = (zeroM, e)) := Lib.hid (by rw [HG.out, if_pos he])
    clear HG
    go_upto_region 5 with fail
    refine wp_region_lit ?_
    refine wpList_step (fun K hK => ?_)
    go_simp
    refine hK _ _ ?_
    clear hK K
    refine wpList_step (fun K hK => ?_)
    go_simp
    refine hK _ _ ?_
    clear hK K
    refine wpList_store_rowTo rfl 26 _ _ rfl rfl W.heap.size zeroM.cells rfl rfl 26 _ HA.out (i7 _ rfl) rfl (cells7_one _) ?_
    have HR' := setRow_heap W3 W.heap.size _ zeroM.cells 26 (0, 0) HA.out
    have hB9 : Below W.heap.size W (W3.setRow W.heap.size zeroM.cells) := ⟨HB.out.os, HB.out.tape, HB.out.output, by simpa using HB.out.size, fun i hi => (setRow_other _ _ _ _ (by omega)).trans (HB.out.block i hi)⟩
    obtain ⟨W9, hW9⟩ : ∃ W9, W9 = W3.setRow W.heap.size zeroM.cells := ⟨_, rfl⟩
    rw [← hW9] at HR' hB9 ⊢
    clear hW9 HA HB HC
    go_wp2_with fail
    exact bodyPost_ret (res_mget _ _ W.heap.size zeroM.cells e rfl rfl rfl HR') rfl ⟨by rw [HG2.out], hB9⟩
end Go.Proofs.Ytpakefgbjncdiaa.Rd
