/- event.Get: the event of bytes; what was put is read as it was. -/
import Derived.Test.YthamemaomedldaaPacketTake
import Derived.Test.YthamemaomedldaaEvPut
import Derived.Great.BuildSlice
namespace Go.Proofs.Ythamemaomedldaa.Rd
open Go Go.RowKit Num Texts Packet
open Ev (E8 eright eright_any)

def zeroE : E8 := ⟨0, 0, 0, 0, 0, 0, ⟨#[]⟩, ⟨#[]⟩⟩
/-- the event that is read, and the reader behind it -/
def R2.event (r : R2) : E8 × R2 :=
  let a := r.num 5
  let h := a.2.num 18446744073709551615
  let p := h.2.packet
  let q := if a.1 = 2 ∨ a.1 = 3 then p.2.text 64 else (⟨#[]⟩, p.2)
  (⟨(a.1 : Int), (h.1 : Int), p.1.c, p.1.f, p.1.s, p.1.t, p.1.d, q.1⟩, q.2)
theorem cells8_one (m : E8) : m.cells.all (·.oneCell') = true := by
  rw [Array.all_eq_true']
  intro x hx
  simp only [E8.cells, List.mem_toArray, List.mem_cons, List.not_mem_nil, or_false] at hx
  rcases hx with rfl | rfl | rfl | rfl | rfl | rfl | rfl | rfl <;> rfl
theorem i8 (C : Array Value) (h : C.size = 8) : (Try.prog.info? 30).map (·.size) = some C.size := by rw [h]; kernel_rfl

theorem event_back (m : E8) (h : eright m = true) (hw : m.wf) (s rest : ByteArray) (hs : s.data.toList = m.bytes.data.toList ++ rest.data.toList) : (R2.mk s 0).event = (m, ⟨rest, 0⟩) := by
  obtain ⟨hp, ha, hk⟩ := Ev.eright_parts h
  have hkS : kS m.k = numS (m.k.toNat % 18446744073709551616) := rfl
  have hkb : m.k.toNat % 18446744073709551616 = m.k.toNat := by omega
  rw [hkb] at hkS
  have hhS : kS m.h = numS (m.h.toNat % 18446744073709551616) := rfl
  have hhb : m.h.toNat % 18446744073709551616 = m.h.toNat := by have := hw.1; omega
  rw [hhb] at hhS
  have hh := hw.1
  by_cases h3 : m.k = 2 ∨ m.k = 3
  · have hb : m.bytes = kS m.k ++ kS m.h ++ m.p.bytes ++ textB m.a := by unfold Ev.E8.bytes; rw [if_pos h3]
    have l1 := num_back 5 m.k.toNat s (kS m.h ++ (m.p.bytes ++ (textB m.a ++ rest))) (by omega) (by omega) (by rw [hs, hb, hkS]; simp)
    have l0 := num_back 18446744073709551615 m.h.toNat (kS m.h ++ (m.p.bytes ++ (textB m.a ++ rest))) (m.p.bytes ++ (textB m.a ++ rest)) (by omega) (by omega) (by rw [hhS]; simp)
    have l2 := packet_back m.p hp hw.2 (m.p.bytes ++ (textB m.a ++ rest)) (textB m.a ++ rest) (by simp)
    have l3 := text_back 64 (textB m.a ++ rest) m.a rest ha (by omega) (by simp [textB, textL])
    unfold R2.event
    simp only [R2.num_ok l1, R2.num_ok l0, l2]
    rw [if_pos (show m.k.toNat = 2 ∨ m.k.toNat = 3 by omega)]
    simp only [R2.text_ok l3]
    clear l0 l1 l2 l3 hb hs hkS hkb hhS hhb
    obtain ⟨k, h', c, f, s', t, d, a⟩ := m
    dsimp only [Ev.E8.p] at *
    congr 2 <;> omega
  · have hb : m.bytes = kS m.k ++ kS m.h ++ m.p.bytes := by unfold Ev.E8.bytes; rw [if_neg h3]
    have l1 := num_back 5 m.k.toNat s (kS m.h ++ (m.p.bytes ++ rest)) (by omega) (by omega) (by rw [hs, hb, hkS]; simp)
    have l0 := num_back 18446744073709551615 m.h.toNat (kS m.h ++ (m.p.bytes ++ rest)) (m.p.bytes ++ rest) (by omega) (by omega) (by rw [hhS]; simp)
    have l2 := packet_back m.p hp hw.2 (m.p.bytes ++ rest) rest (by simp)
    have hae : m.a = ⟨#[]⟩ := by
      rcases hk with h | h
      · exact absurd h h3
      · apply ext_list
        exact List.eq_nil_of_length_eq_zero h.2
    unfold R2.event
    simp only [R2.num_ok l1, R2.num_ok l0, l2]
    rw [if_neg (show ¬ (m.k.toNat = 2 ∨ m.k.toNat = 3) by omega)]
    clear l0 l1 l2 hb hs hkS hkb hhS hhb
    obtain ⟨k, h', c, f, s', t, d, a⟩ := m
    dsimp only [Ev.E8.p] at *
    subst hae
    congr 2 <;> omega
theorem res_eget (tmps : Array Value) (w : World) (g : Nat) (C : Array Value) (n : Int) (hz : C.size = 8) (hp : tmps.getD 2 undef = .pointer (some ⟨g, 0, none⟩)) (h3 : tmps.getD 3 undef = .int .i64 n)
    (hg : w.heap[g]? = some (.cells C 30 (0, 0))) : (results Try.f22 tmps).run Try.prog w = .ok (.tuple #[.agg C, .int .i64 n]) w := by
  have hp' : tmps[2]?.getD undef = .pointer (some ⟨g, 0, none⟩) := by simpa using hp
  have h3' : tmps[3]?.getD undef = .int .i64 n := by simpa using h3
  simp [results, Try.results22, hp', h3', asAddr, run_loadVar_row w g 30 30 C (0, 0) _ hg Try.underlying30 rfl (i8 C hz)]
theorem hst8 (w1 : World) (C : Array Value) (hz : C.size = 8) (ho : C.all (·.oneCell') = true) : (storeCells ⟨w1.heap.size, 0, none⟩ C.toList).run Try.prog (w1.alloc (.cells #[.int .i64 0, .int .u64 0, .int .i64 0, .int .i64 0, .int .u64 0, .int .u64 0, .string ⟨#[]⟩, .string ⟨#[]⟩] 30)) = .ok () ((w1.alloc (.cells #[.int .i64 0, .int .u64 0, .int .i64 0, .int .i64 0, .int .u64 0, .int .u64 0, .string ⟨#[]⟩, .string ⟨#[]⟩] 30)).setRow w1.heap.size C) := by
  obtain ⟨Y, hY⟩ : ∃ Y : Array Value, Y = #[.int .i64 0, .int .u64 0, .int .i64 0, .int .i64 0, .int .u64 0, .int .u64 0, .string ⟨#[]⟩, .string ⟨#[]⟩] := ⟨_, rfl⟩
  rw [← hY]
  have hzz : Y.size = 8 := by rw [hY]; rfl
  clear hY
  have h := run_storeCells_at (P := Try.prog) w1.heap.size 0 30 C.toList 0 Y (w1.alloc (.cells Y 30)) (heap_alloc_new w1 _) (by rw [Array.length_toList, hz, hzz]; decide) (fun u hu => (Array.all_eq_true'.1 ho) u (by simpa using hu))
  simp only [Nat.add_zero, List.take_zero, List.nil_append, Nat.zero_add] at h
  rw [h, List.drop_of_length_le (by rw [Array.length_toList, hzz, Array.length_toList, hz]; exact Nat.le_refl _), List.append_nil]

/-- the event of bytes, or why they are none -/
def getE (s : ByteArray) : E8 × Int := if (R2.mk s 0).event.2.end' ≠ 0 then (zeroE, (R2.mk s 0).event.2.end') else if eright (R2.mk s 0).event.1 then ((R2.mk s 0).event.1, 0) else (zeroE, 3)
theorem getE_back (m : E8) (h : eright m = true) (hw : m.wf) : getE m.bytes = (m, 0) := by
  have := event_back m h hw m.bytes ⟨#[]⟩ (by simp)
  unfold getE
  rw [this]
  dsimp only
  rw [if_neg (fun h => h rfl), if_pos h]

set_option maxRecDepth 20000 in
set_option maxHeartbeats 4000000 in
theorem eget_any (s : ByteArray) (hs : s.size ≤ 1099511627776) (W : World) :
    Calls Try.prog 22 #[.string s] W fun e w' => e = .returned (.tuple #[.agg (getE s).1.cells, .int .i64 (getE s).2]) ∧ Below W.heap.size W w' := by
  have hg : getE s = if (R2.mk s 0).event.2.end' ≠ 0 then (zeroE, (R2.mk s 0).event.2.end') else if eright (R2.mk s 0).event.1 then ((R2.mk s 0).event.1, 0) else (zeroE, 3) := rfl
  have hpk : (R2.mk s 0).event = (let a := (R2.mk s 0).num 5
    let h := a.2.num 18446744073709551615
    let p := h.2.packet
    let q := if a.1 = 2 ∨ a.1 = 3 then p.2.text 64 else (⟨#[]⟩, p.2)
    (⟨(a.1 : Int), (h.1 : Int), p.1.c, p.1.f, p.1.s, p.1.t, p.1.d, q.1⟩, q.2)) := rfl
  generalize (R2.mk s 0).event = ev at hg hpk
  have HG := Lib.hid hg
  have HP := Lib.hid hpk
  clear hg hpk
  go_enter Try.func22, Try.ntmps22
  go_wp2_with fail
  refine (new_any s _).mono ?_
  rintro _ w1 ⟨rfl, hw⟩
  have hz1 : (W.alloc (.cells #[.int .i64 0, .int .u64 0, .int .i64 0, .int .i64 0, .int .u64 0, .int .u64 0, .string ⟨#[]⟩, .string ⟨#[]⟩] 30)).heap.size = W.heap.size + 1 := by simp
  have hA : w1.heap[W.heap.size]? = some (.cells zeroE.cells 30 (0, 0)) := by rw [hw, Below.heap_alloc _ _ _ (by simp)]; exact heap_alloc_new _ _
  have hR : Lies w1 (W.heap.size + 1) ⟨s, 0⟩ := by
    rw [hw]
    have := heap_alloc_new (W.alloc (.cells #[.int .i64 0, .int .u64 0, .int .i64 0, .int .i64 0, .int .u64 0, .int .u64 0, .string ⟨#[]⟩, .string ⟨#[]⟩] 30)) (.cells #[.string s, .int .i64 0] 70)
    rw [hz1] at this
    exact this
  have hB : Below W.heap.size W w1 := by rw [hw]; exact ((Below.refl _ _).alloc (Nat.le_refl _) _).alloc (by simp) _
  have hz2 : w1.heap.size = W.heap.size + 2 := by rw [hw]; simp
  rw [hz1]
  clear hw hz1
  go_upto_region 3 with fail
  obtain ⟨V0, hV⟩ : ∃ X, X = w1.alloc (.cells #[.int .i64 0, .int .u64 0, .int .i64 0, .int .i64 0, .int .u64 0, .int .u64 0, .string ⟨#[]⟩, .string ⟨#[]⟩] 30) := ⟨_, rfl⟩
  have hlA := (Array.getElem?_eq_some_iff.1 hA).1
  have hlR := (Array.getElem?_eq_some_iff.1 hR).1
  have HA0 := Lib.hid (show V0.heap[W.heap.size]? = some (.cells zeroE.cells 30 (0, 0)) by rw [hV, Below.heap_alloc _ _ _ hlA]; exact hA)
  have HR0 := Lib.hid (show Lies V0 (W.heap.size + 1) ⟨s, 0⟩ by rw [hV]; unfold Lies; rw [Below.heap_alloc _ _ _ hlR]; exact hR)
  have HB0 := Lib.hid (show V0.heap[W.heap.size + 2]? = some (.cells #[.int .i64 0, .int .u64 0, .int .i64 0, .int .i64 0, .int .u64 0, .int .u64 0, .string ⟨#[]⟩, .string ⟨#[]⟩] 30 (0, 0)) by rw [hV, ← hz2]; exact heap_alloc_new _ _)
  have HO0 := Lib.hid (show Below W.heap.size W V0 by rw [hV]; exact hB.alloc hB.size _)
  rw [← hV]
  clear hV hA hR hB hz2 hlA hlR
  have HS0 := Lib.hid (show (R2.mk s 0).s.size ≤ 1099511627776 from hs)
  clear hs
  obtain ⟨r, hr⟩ : ∃ r, r = R2.mk s 0 := ⟨_, rfl⟩
  rw [← hr] at HP HS0
  have HR0 := Lib.hid (show Lies V0 (W.heap.size + 1) r by rw [hr]; exact HR0.out)
  clear hr
  go_wp2_with fail
  refine (rnum_any (W.heap.size + 1) r 5 (by decide) HS0.out _ HR0.out).mono ?_
  rintro _ w1' ⟨rfl, hR, hO⟩
  have hA := (hO.block _ (Array.getElem?_eq_some_iff.1 HA0.out).1 (by omega)).trans HA0.out
  have hB := (hO.block _ (Array.getElem?_eq_some_iff.1 HB0.out).1 (by omega)).trans HB0.out
  have hOO := Only.below HO0.out hO (by omega) HO0.out.size
  have hs1 : (r.num 5).2.s.size ≤ 1099511627776 := Nat.le_trans (R2.num_rest _ _) HS0.out
  have hn0 : (r.num 5).1 ≤ 5 := R2.num_val _ _
  generalize r.num 5 = x at *
  obtain ⟨n0, r1⟩ := x
  dsimp only at *
  have hi0 : (n0 : Int) ≤ 5 := by omega
  have cB : w1'.cell? ⟨W.heap.size + 2, 0, none⟩ = some (.int .i64 0) := cell_at hB 0
  have fB := free_at hB 0
  have hRn := set_off (i := 0) hR (show W.heap.size + 1 ≠ W.heap.size + 2 by omega) (.int .i64 (n0 : Int))
  have hAn := set_off (i := 0) hA (show W.heap.size ≠ W.heap.size + 2 by omega) (.int .i64 (n0 : Int))
  have hBn := set_at hB 0 (.int .i64 (n0 : Int))
  have hOn := hOO.setCell (p := ⟨W.heap.size + 2, 0, none⟩) (show W.heap.size ≤ W.heap.size + 2 by omega) (.int .i64 (n0 : Int))
  obtain ⟨V1, hV⟩ : ∃ X, X = w1'.setCell ⟨W.heap.size + 2, 0, none⟩ (.int .i64 (n0 : Int)) := ⟨_, rfl⟩
  rw [← hV] at hRn hAn hBn hOn
  have HS1 := Lib.hid hs1
  have HR1 := Lib.hid (show Lies V1 (W.heap.size + 1) r1 from hRn)
  have HA1 := Lib.hid hAn
  have HB1 := Lib.hid (show V1.heap[W.heap.size + 2]? = some (.cells #[.int .i64 (n0 : Int), .int .u64 0, .int .i64 0, .int .i64 0, .int .u64 0, .int .u64 0, .string ⟨#[]⟩, .string ⟨#[]⟩] 30 (0, 0)) from hBn)
  have HO1 := Lib.hid hOn
  have HV := Lib.hid hV
  clear hR hA hB hOO hO hs1 hRn hAn hBn hOn hV HR0 HA0 HB0 HO0 HS0
  go_upto_region 4 with fail
  rw [← HV.out]
  clear HV cB fB
  go_wp2_with fail
  refine (rnum_any (W.heap.size + 1) r1 18446744073709551615 (by decide) HS1.out _ HR1.out).mono ?_
  rintro _ w2' ⟨rfl, hR, hO⟩
  have hA := (hO.block _ (Array.getElem?_eq_some_iff.1 HA1.out).1 (by omega)).trans HA1.out
  have hB := (hO.block _ (Array.getElem?_eq_some_iff.1 HB1.out).1 (by omega)).trans HB1.out
  have hOO := Only.below HO1.out hO (by omega) HO1.out.size
  have hs2 : (r1.num 18446744073709551615).2.s.size ≤ 1099511627776 := Nat.le_trans (R2.num_rest _ _) HS1.out
  have hn1 : (r1.num 18446744073709551615).1 ≤ 18446744073709551615 := R2.num_val _ _
  generalize r1.num 18446744073709551615 = x at *
  obtain ⟨n1, r2⟩ := x
  dsimp only at *
  have hi1 : (n1 : Int) ≤ 18446744073709551615 := by omega
  have cB : w2'.cell? ⟨W.heap.size + 2, 1, none⟩ = some (.int .u64 0) := cell_at hB 1
  have fB := free_at hB 1
  have hRn := set_off (i := 1) hR (show W.heap.size + 1 ≠ W.heap.size + 2 by omega) (.int .u64 (n1 : Int))
  have hAn := set_off (i := 1) hA (show W.heap.size ≠ W.heap.size + 2 by omega) (.int .u64 (n1 : Int))
  have hBn := set_at hB 1 (.int .u64 (n1 : Int))
  have hOn := hOO.setCell (p := ⟨W.heap.size + 2, 1, none⟩) (show W.heap.size ≤ W.heap.size + 2 by omega) (.int .u64 (n1 : Int))
  obtain ⟨V2, hV⟩ : ∃ X, X = w2'.setCell ⟨W.heap.size + 2, 1, none⟩ (.int .u64 (n1 : Int)) := ⟨_, rfl⟩
  rw [← hV] at hRn hAn hBn hOn
  have HS2 := Lib.hid hs2
  have HR2 := Lib.hid (show Lies V2 (W.heap.size + 1) r2 from hRn)
  have HA2 := Lib.hid hAn
  have HB2 := Lib.hid (show V2.heap[W.heap.size + 2]? = some (.cells #[.int .i64 (n0 : Int), .int .u64 (n1 : Int), .int .i64 0, .int .i64 0, .int .u64 0, .int .u64 0, .string ⟨#[]⟩, .string ⟨#[]⟩] 30 (0, 0)) from hBn)
  have HO2 := Lib.hid hOn
  have HV := Lib.hid hV
  clear hR hA hB hOO hO hs2 hRn hAn hBn hOn hV HR1 HA1 HB1 HO1 HS1
  go_upto_region 5 with fail
  rw [← HV.out]
  clear HV cB fB
  go_wp2_with fail
  refine (take_any (W.heap.size + 1) r2 HS2.out _ HR2.out).mono ?_
  rintro _ w3' ⟨rfl, hR, hO⟩
  have hA := (hO.block _ (Array.getElem?_eq_some_iff.1 HA2.out).1 (by omega)).trans HA2.out
  have hB2 := (hO.block _ (Array.getElem?_eq_some_iff.1 HB2.out).1 (by omega)).trans HB2.out
  have hOO := Only.below HO2.out hO (by omega) HO2.out.size
  have hs3 : r2.packet.2.s.size ≤ 1099511627776 := Nat.le_trans (R2.packet_rest _) HS2.out
  generalize r2.packet = x at *
  obtain ⟨⟨c, f, sq, t, d⟩, r3⟩ := x
  unfold P5.cells
  dsimp only at *
  obtain ⟨b0, b1, b2, b3, b4, b5, b6, b7⟩ : _ ∧ _ ∧ _ ∧ _ ∧ _ ∧ _ ∧ _ ∧ _ := ⟨cell_at hB2 0, cell_at hB2 1, cell_at hB2 2, cell_at hB2 3, cell_at hB2 4, cell_at hB2 5, cell_at hB2 6, cell_at hB2 7⟩
  have fb := fun i => free_at hB2 i
  have f2 := fb 2
  have f3 := fb 3
  have f4 := fb 4
  have f5 := fb 5
  have f6 := fb 6
  clear fb
  go_upto_region 6 with fail
  obtain ⟨V3, hV⟩ : ∃ X, X = ((((w3'.setCell ⟨W.heap.size + 2, 2, none⟩ (.int .i64 c)).setCell ⟨W.heap.size + 2, 3, none⟩ (.int .i64 f)).setCell ⟨W.heap.size + 2, 4, none⟩ (.int .u64 sq)).setCell ⟨W.heap.size + 2, 5, none⟩ (.int .u64 t)).setCell ⟨W.heap.size + 2, 6, none⟩ (.string d) := ⟨_, rfl⟩
  have hB3 : V3.heap[W.heap.size + 2]? = some (.cells #[.int .i64 (n0 : Int), .int .u64 (n1 : Int), .int .i64 c, .int .i64 f, .int .u64 sq, .int .u64 t, .string d, .string ⟨#[]⟩] 30 (0, 0)) := by rw [hV]; exact set_at (set_at (set_at (set_at (set_at hB2 2 _) 3 _) 4 _) 5 _) 6 _
  have hA3 : V3.heap[W.heap.size]? = some (.cells zeroE.cells 30 (0, 0)) := by rw [hV]; exact set_off (set_off (set_off (set_off (set_off hA (by omega) _) (by omega) _) (by omega) _) (by omega) _) (by omega) _
  have hR3 : Lies V3 (W.heap.size + 1) r3 := by rw [hV]; exact set_off (set_off (set_off (set_off (set_off hR (by omega) _) (by omega) _) (by omega) _) (by omega) _) (by omega) _
  have hO3 : Below W.heap.size W V3 := by
    rw [hV]
    have hle : ∀ i, W.heap.size ≤ (⟨W.heap.size + 2, i, none⟩ : Addr).block := fun i => by show W.heap.size ≤ W.heap.size + 2; omega
    exact ((((hOO.setCell (hle 2) _).setCell (hle 3) _).setCell (hle 4) _).setCell (hle 5) _).setCell (hle 6) _
  rw [← hV]
  clear hV hO hA hB2 hOO hR b0 b1 b2 b3 b4 b5 b6 b7 f2 f3 f4 f5 f6 HA2 HB2 HR2 HO2 HS2
  have b0 : V3.cell? ⟨W.heap.size + 2, 0, none⟩ = some (.int .i64 (n0 : Int)) := cell_at hB3 0
  have HB3 := Lib.hid hB3
  have HA3 := Lib.hid hA3
  have HR3 := Lib.hid hR3
  have HO3 := Lib.hid hO3
  clear hB3 hA3 hR3 hO3
  go_wp2_with fail
  refine (Ev.hasack_any (n0 : Int) _).mono ?_
  rintro _ v3 ⟨rfl, hv⟩
  obtain rfl := hv.symm
  clear hv
  by_cases h3 : n0 = 2 ∨ n0 = 3
  · rw [decide_eq_true (show (n0 : Int) = 2 ∨ (n0 : Int) = 3 by omega)]
    go_wp2_with fail
    refine (rtext_any (W.heap.size + 1) r3 64 (by decide) hs3 _ HR3.out).mono ?_
    rintro _ w4 ⟨rfl, hR, hO⟩
    have hA := (hO.block _ (Array.getElem?_eq_some_iff.1 HA3.out).1 (by omega)).trans HA3.out
    have hB := (hO.block _ (Array.getElem?_eq_some_iff.1 HB3.out).1 (by omega)).trans HB3.out
    have hOO := Only.below HO3.out hO (by omega) HO3.out.size
    have HP2 : Hid (ev = (⟨(n0 : Int), (n1 : Int), c, f, sq, t, d, (r3.text 64).1⟩, (r3.text 64).2)) := Lib.hid (by rw [HP.out, if_pos h3])
    generalize r3.text 64 = x at *
    obtain ⟨a, r4⟩ := x
    dsimp only at *
    have c7 : w4.cell? ⟨W.heap.size + 2, 7, none⟩ = some (.string ⟨#[]⟩) := cell_at hB 7
    have f7 := free_at hB 7
    clear b0 h3 HP
    go_upto_region 8 with fail
    obtain ⟨V5, hV⟩ : ∃ X, X = w4.setCell ⟨W.heap.size + 2, 7, none⟩ (.string a) := ⟨_, rfl⟩
    have hB5 : V5.heap[W.heap.size + 2]? = some (.cells #[.int .i64 (n0 : Int), .int .u64 (n1 : Int), .int .i64 c, .int .i64 f, .int .u64 sq, .int .u64 t, .string d, .string a] 30 (0, 0)) := by rw [hV]; exact set_at hB 7 _
    have hA5 : V5.heap[W.heap.size]? = some (.cells zeroE.cells 30 (0, 0)) := by rw [hV]; exact set_off hA (by omega) _
    have hR5 : Lies V5 (W.heap.size + 1) r4 := by rw [hV]; exact set_off hR (by omega) _
    have hO5 : Below W.heap.size W V5 := by rw [hV]; exact hOO.setCell (p := ⟨W.heap.size + 2, 7, none⟩) (show W.heap.size ≤ W.heap.size + 2 by omega) _
    rw [← hV]
    clear hV hA hB hR hO hOO c7 f7 HA3 HB3 HR3 HO3
    obtain ⟨em, hem⟩ : ∃ em : E8, em = ⟨(n0 : Int), (n1 : Int), c, f, sq, t, d, a⟩ := ⟨_, rfl⟩
    obtain ⟨C, hC⟩ : ∃ C : Array Value, C = #[.int .i64 (n0 : Int), .int .u64 (n1 : Int), .int .i64 c, .int .i64 f, .int .u64 sq, .int .u64 t, .string d, .string a] := ⟨_, rfl⟩
    have hCm : C = em.cells := by rw [hem, hC]; rfl
    have HEv : Hid (ev = (em, r4)) := Lib.hid (by rw [HP2.out, hem])
    rw [← hC] at hB5
    clear hC hem HP2
    have hz : C.size = 8 := by rw [hCm]; rfl
    have ho : C.all (·.oneCell') = true := by rw [hCm]; exact cells8_one _
    have HC := Lib.hid hCm
    have hEr := eright_any em
    unfold E8.cells at hEr hCm
    rw [← hCm] at hEr
    have HEr := Lib.hid hEr
    have HB5 := Lib.hid hB5
    have HA5 := Lib.hid hA5
    have HR5 := Lib.hid hR5
    have HO5 := Lib.hid hO5
    clear hCm hB5 hA5 hR5 hO5 hEr
    go_wp2_with fail
    refine (end_any (W.heap.size + 1) r4 _ HR5.out).mono ?_
    rintro _ w6 ⟨rfl, hw⟩
    obtain rfl := hw.symm
    clear hw HR5
    obtain ⟨e, hee⟩ : ∃ e, e = r4.end' := ⟨_, rfl⟩
    rw [← hee]
    have HEe : Hid (r4.end' = e) := Lib.hid hee.symm
    clear hee
    by_cases he : e = 0
    · subst he
      go_upto_region 11 with fail
      refine wp_region_lit ?_
      refine wpList_load_row rfl 30 _ rfl (W.heap.size + 2) rfl 30 C (0, 0) _ HB5.out Try.underlying30 rfl (i8 _ hz) ?_
      refine wpList_step (fun K hK => ?_)
      go_simp
      refine (HEr.out _).mono ?_
      rintro _ w7 ⟨rfl, b7⟩
      have HA7 := Lib.hid ((b7.block _ (Array.getElem?_eq_some_iff.1 HA5.out).1).trans HA5.out)
      have HC7 := Lib.hid ((b7.block _ (Array.getElem?_eq_some_iff.1 HB5.out).1).trans HB5.out)
      have HB7 := Lib.hid (HO5.out.trans (b7.mono HO5.out.size))
      clear b7 HA5 HB5 HO5
      refine hK _ _ ?_
      clear hK K
      cases hmr : eright em with
      | true =>
        have HG2 : Hid (getE s = (em, 0)) := Lib.hid (by rw [HG.out, HEv.out]; dsimp only; rw [HEe.out, if_neg (by simp), if_pos hmr])
        clear HG hmr
        go_upto_region 13 with fail
        refine wp_region_lit ?_
        refine wpList_load_row rfl 30 _ rfl (W.heap.size + 2) rfl 30 C (0, 0) _ HC7.out Try.underlying30 rfl (i8 _ hz) ?_
        refine wpList_store_rowTo rfl 30 _ _ rfl rfl W.heap.size C rfl rfl 30 _ HA7.out (i8 _ hz) (by rw [hz]; rfl) ho ?_
        have HR' := setRow_heap w7 W.heap.size _ C 30 (0, 0) HA7.out
        have hB9 : Below W.heap.size W (w7.setRow W.heap.size C) := ⟨HB7.out.os, HB7.out.tape, HB7.out.output, by simpa using HB7.out.size, fun i hi => (setRow_other _ _ _ _ (by omega)).trans (HB7.out.block i hi)⟩
        obtain ⟨W9, hW9⟩ : ∃ W9, W9 = w7.setRow W.heap.size C := ⟨_, rfl⟩
        rw [← hW9] at HR' hB9 ⊢
        clear hW9 HA7 HB7 HC7
        go_wp2_with fail
        exact bodyPost_ret (res_eget _ _ W.heap.size C 0 hz rfl rfl HR') rfl ⟨by rw [HG2.out, HC.out], hB9⟩
      | false =>
        have HG2 : Hid (getE s = (zeroE, 3)) := Lib.hid (by rw [HG.out, HEv.out]; dsimp only; rw [HEe.out, if_neg (by simp), hmr, if_neg (by simp)])
        clear HG hmr
        go_upto_region 12 with fail
        refine wp_region_lit ?_
        refine wpList_step (fun K hK => ?_)
        go_simp
        refine hK _ _ ?_
        clear hK K
        refine wpList_store_rowTo rfl 30 _ _ rfl rfl W.heap.size zeroE.cells rfl rfl 30 _ HA7.out (i8 _ rfl) rfl (cells8_one _) ?_
        have HR' := setRow_heap w7 W.heap.size _ zeroE.cells 30 (0, 0) HA7.out
        have hB9 : Below W.heap.size W (w7.setRow W.heap.size zeroE.cells) := ⟨HB7.out.os, HB7.out.tape, HB7.out.output, by simpa using HB7.out.size, fun i hi => (setRow_other _ _ _ _ (by omega)).trans (HB7.out.block i hi)⟩
        obtain ⟨W9, hW9⟩ : ∃ W9, W9 = w7.setRow W.heap.size zeroE.cells := ⟨_, rfl⟩
        rw [← hW9] at HR' hB9 ⊢
        clear hW9 HA7 HB7 HC7
        go_wp2_with fail
        exact bodyPost_ret (res_eget _ _ W.heap.size zeroE.cells 3 rfl rfl rfl HR') rfl ⟨by rw [HG2.out], hB9⟩
    · have he2 : (e == 0) = false := by simpa using he
      have HG2 : Hid (getE s = (zeroE, e)) := Lib.hid (by rw [HG.out, HEv.out]; dsimp only; rw [HEe.out, if_pos he])
      clear HG HEr
      go_upto_region 10 with fail
      refine wp_region_lit ?_
      refine wpList_step (fun K hK => ?_)
      go_simp
      refine hK _ _ ?_
      clear hK K
      refine wpList_step (fun K hK => ?_)
      go_simp
      refine hK _ _ ?_
      clear hK K
      refine wpList_store_rowTo rfl 30 _ _ rfl rfl W.heap.size zeroE.cells rfl rfl 30 _ HA5.out (i8 _ rfl) rfl (cells8_one _) ?_
      have HR' := setRow_heap V5 W.heap.size _ zeroE.cells 30 (0, 0) HA5.out
      have hB9 : Below W.heap.size W (V5.setRow W.heap.size zeroE.cells) := ⟨HO5.out.os, HO5.out.tape, HO5.out.output, by simpa using HO5.out.size, fun i hi => (setRow_other _ _ _ _ (by omega)).trans (HO5.out.block i hi)⟩
      obtain ⟨W9, hW9⟩ : ∃ W9, W9 = V5.setRow W.heap.size zeroE.cells := ⟨_, rfl⟩
      rw [← hW9] at HR' hB9 ⊢
      clear hW9 HA5 HB5 HO5
      go_wp2_with fail
      exact bodyPost_ret (res_eget _ _ W.heap.size zeroE.cells e rfl rfl rfl HR') rfl ⟨by rw [HG2.out], hB9⟩
  · rw [decide_eq_false (show ¬ ((n0 : Int) = 2 ∨ (n0 : Int) = 3) by omega)]
    have HP2 : Hid (ev = (⟨(n0 : Int), (n1 : Int), c, f, sq, t, d, ⟨#[]⟩⟩, r3)) := Lib.hid (by rw [HP.out, if_neg h3])
    obtain ⟨r4, hr4⟩ : ∃ x, x = r3 := ⟨_, rfl⟩
    rw [← hr4] at HP2
    obtain ⟨V5, hV⟩ : ∃ X, X = V3 := ⟨_, rfl⟩
    have hB5 : V5.heap[W.heap.size + 2]? = some (.cells #[.int .i64 (n0 : Int), .int .u64 (n1 : Int), .int .i64 c, .int .i64 f, .int .u64 sq, .int .u64 t, .string d, .string ⟨#[]⟩] 30 (0, 0)) := by rw [hV]; exact HB3.out
    have hA5 : V5.heap[W.heap.size]? = some (.cells zeroE.cells 30 (0, 0)) := by rw [hV]; exact HA3.out
    have hR5 : Lies V5 (W.heap.size + 1) r4 := by rw [hV, hr4]; exact HR3.out
    have hO5 : Below W.heap.size W V5 := by rw [hV]; exact HO3.out
    rw [← hV]
    clear hV hr4 b0 h3 HP HA3 HB3 HR3 HO3
    obtain ⟨em, hem⟩ : ∃ em : E8, em = ⟨(n0 : Int), (n1 : Int), c, f, sq, t, d, ⟨#[]⟩⟩ := ⟨_, rfl⟩
    obtain ⟨C, hC⟩ : ∃ C : Array Value, C = #[.int .i64 (n0 : Int), .int .u64 (n1 : Int), .int .i64 c, .int .i64 f, .int .u64 sq, .int .u64 t, .string d, .string ⟨#[]⟩] := ⟨_, rfl⟩
    have hCm : C = em.cells := by rw [hem, hC]; rfl
    have HEv : Hid (ev = (em, r4)) := Lib.hid (by rw [HP2.out, hem])
    rw [← hC] at hB5
    clear hC hem HP2
    have hz : C.size = 8 := by rw [hCm]; rfl
    have ho : C.all (·.oneCell') = true := by rw [hCm]; exact cells8_one _
    have HC := Lib.hid hCm
    have hEr := eright_any em
    unfold E8.cells at hEr hCm
    rw [← hCm] at hEr
    have HEr := Lib.hid hEr
    have HB5 := Lib.hid hB5
    have HA5 := Lib.hid hA5
    have HR5 := Lib.hid hR5
    have HO5 := Lib.hid hO5
    clear hCm hB5 hA5 hR5 hO5 hEr
    go_wp2_with fail
    refine (end_any (W.heap.size + 1) r4 _ HR5.out).mono ?_
    rintro _ w6 ⟨rfl, hw⟩
    obtain rfl := hw.symm
    clear hw HR5
    obtain ⟨e, hee⟩ : ∃ e, e = r4.end' := ⟨_, rfl⟩
    rw [← hee]
    have HEe : Hid (r4.end' = e) := Lib.hid hee.symm
    clear hee
    by_cases he : e = 0
    · subst he
      go_upto_region 11 with fail
      refine wp_region_lit ?_
      refine wpList_load_row rfl 30 _ rfl (W.heap.size + 2) rfl 30 C (0, 0) _ HB5.out Try.underlying30 rfl (i8 _ hz) ?_
      refine wpList_step (fun K hK => ?_)
      go_simp
      refine (HEr.out _).mono ?_
      rintro _ w7 ⟨rfl, b7⟩
      have HA7 := Lib.hid ((b7.block _ (Array.getElem?_eq_some_iff.1 HA5.out).1).trans HA5.out)
      have HC7 := Lib.hid ((b7.block _ (Array.getElem?_eq_some_iff.1 HB5.out).1).trans HB5.out)
      have HB7 := Lib.hid (HO5.out.trans (b7.mono HO5.out.size))
      clear b7 HA5 HB5 HO5
      refine hK _ _ ?_
      clear hK K
      cases hmr : eright em with
      | true =>
        have HG2 : Hid (getE s = (em, 0)) := Lib.hid (by rw [HG.out, HEv.out]; dsimp only; rw [HEe.out, if_neg (by simp), if_pos hmr])
        clear HG hmr
        go_upto_region 13 with fail
        refine wp_region_lit ?_
        refine wpList_load_row rfl 30 _ rfl (W.heap.size + 2) rfl 30 C (0, 0) _ HC7.out Try.underlying30 rfl (i8 _ hz) ?_
        refine wpList_store_rowTo rfl 30 _ _ rfl rfl W.heap.size C rfl rfl 30 _ HA7.out (i8 _ hz) (by rw [hz]; rfl) ho ?_
        have HR' := setRow_heap w7 W.heap.size _ C 30 (0, 0) HA7.out
        have hB9 : Below W.heap.size W (w7.setRow W.heap.size C) := ⟨HB7.out.os, HB7.out.tape, HB7.out.output, by simpa using HB7.out.size, fun i hi => (setRow_other _ _ _ _ (by omega)).trans (HB7.out.block i hi)⟩
        obtain ⟨W9, hW9⟩ : ∃ W9, W9 = w7.setRow W.heap.size C := ⟨_, rfl⟩
        rw [← hW9] at HR' hB9 ⊢
        clear hW9 HA7 HB7 HC7
        go_wp2_with fail
        exact bodyPost_ret (res_eget _ _ W.heap.size C 0 hz rfl rfl HR') rfl ⟨by rw [HG2.out, HC.out], hB9⟩
      | false =>
        have HG2 : Hid (getE s = (zeroE, 3)) := Lib.hid (by rw [HG.out, HEv.out]; dsimp only; rw [HEe.out, if_neg (by simp), hmr, if_neg (by simp)])
        clear HG hmr
        go_upto_region 12 with fail
        refine wp_region_lit ?_
        refine wpList_step (fun K hK => ?_)
        go_simp
        refine hK _ _ ?_
        clear hK K
        refine wpList_store_rowTo rfl 30 _ _ rfl rfl W.heap.size zeroE.cells rfl rfl 30 _ HA7.out (i8 _ rfl) rfl (cells8_one _) ?_
        have HR' := setRow_heap w7 W.heap.size _ zeroE.cells 30 (0, 0) HA7.out
        have hB9 : Below W.heap.size W (w7.setRow W.heap.size zeroE.cells) := ⟨HB7.out.os, HB7.out.tape, HB7.out.output, by simpa using HB7.out.size, fun i hi => (setRow_other _ _ _ _ (by omega)).trans (HB7.out.block i hi)⟩
        obtain ⟨W9, hW9⟩ : ∃ W9, W9 = w7.setRow W.heap.size zeroE.cells := ⟨_, rfl⟩
        rw [← hW9] at HR' hB9 ⊢
        clear hW9 HA7 HB7 HC7
        go_wp2_with fail
        exact bodyPost_ret (res_eget _ _ W.heap.size zeroE.cells 3 rfl rfl rfl HR') rfl ⟨by rw [HG2.out], hB9⟩
    · have he2 : (e == 0) = false := by simpa using he
      have HG2 : Hid (getE s = (zeroE, e)) := Lib.hid (by rw [HG.out, HEv.out]; dsimp only; rw [HEe.out, if_pos he])
      clear HG HEr
      go_upto_region 10 with fail
      refine wp_region_lit ?_
      refine wpList_step (fun K hK => ?_)
      go_simp
      refine hK _ _ ?_
      clear hK K
      refine wpList_step (fun K hK => ?_)
      go_simp
      refine hK _ _ ?_
      clear hK K
      refine wpList_store_rowTo rfl 30 _ _ rfl rfl W.heap.size zeroE.cells rfl rfl 30 _ HA5.out (i8 _ rfl) rfl (cells8_one _) ?_
      have HR' := setRow_heap V5 W.heap.size _ zeroE.cells 30 (0, 0) HA5.out
      have hB9 : Below W.heap.size W (V5.setRow W.heap.size zeroE.cells) := ⟨HO5.out.os, HO5.out.tape, HO5.out.output, by simpa using HO5.out.size, fun i hi => (setRow_other _ _ _ _ (by omega)).trans (HO5.out.block i hi)⟩
      obtain ⟨W9, hW9⟩ : ∃ W9, W9 = V5.setRow W.heap.size zeroE.cells := ⟨_, rfl⟩
      rw [← hW9] at HR' hB9 ⊢
      clear hW9 HA5 HB5 HO5
      go_wp2_with fail
      exact bodyPost_ret (res_eget _ _ W.heap.size zeroE.cells e rfl rfl rfl HR') rfl ⟨by rw [HG2.out], hB9⟩
end Go.Proofs.Ythamemaomedldaa.Rd
