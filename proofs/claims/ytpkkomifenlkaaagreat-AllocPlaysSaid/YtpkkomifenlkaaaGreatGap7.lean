/- gap: container/heap's Push, Remove, Pop at up to two runs. -/
import Derived.Test.YtpkkomifenlkaaaGreatGap6
namespace Go.Proofs.YtpkkomifenlkaaaGreat.Gp
open Go Go.RowKit

set_option maxRecDepth 20000 in
set_option maxHeartbeats 2000000 in
theorem hpush0 (B H : Nat) (v : Value) (x : Int × Int) (W : World) (h : HpO B W H v []) (hB : B ≤ W.heap.size) : Calls Tryz.prog 71 #[IH H, .iface TRn (.agg #[.int .u64 x.1, .int .u64 x.2])] W fun e w' => e = .returned (.tuple #[]) ∧ ∃ v', HpO B w' H v' [x] ∧ Below B W w' ∧ Fr H v v' W w' := by
  have hm := m_push H W
  have HPu := Lib.hid (push_any B H v [] x W h hB (by simp))
  clear h
  unfold IH
  go_enter Tryz.func71, Tryz.ntmps71
  go_wp2_with fail
  refine HPu.out.mono ?_
  rintro _ w1 ⟨rfl, v1, hP1, b1, fr1⟩
  obtain ⟨A1, c1, rfl⟩ := own_form2 hP1.row
  have hl := m_len H _ w1 (cell_of_row w1 H 0 _ _ (0, 0) hP1.box)
  have hP3 := Lib.hid hP1
  have hb3 := Lib.hid (And.intro b1 fr1)
  clear hP1 b1 fr1 hm HPu
  go_wp2_with fail
  refine (rlen_any _ _ _ _).mono ?_
  rintro _ w2 ⟨rfl, rfl⟩
  go_wp2_with fail
  refine (up0 H _).mono ?_
  rintro _ w3 ⟨rfl, rfl⟩
  
  go_wp2
  go_end0
  exact ⟨rfl, _, hP3.out, hb3.out⟩
set_option maxRecDepth 20000 in
set_option maxHeartbeats 2000000 in
theorem hpush1 (B H : Nat) (v : Value) (x y : Int × Int) (W : World) (h : HpO B W H v [y]) (hB : B ≤ W.heap.size) : Calls Tryz.prog 71 #[IH H, .iface TRn (.agg #[.int .u64 x.1, .int .u64 x.2])] W fun e w' => e = .returned (.tuple #[]) ∧ ∃ v', HpO B w' H v' (if x.1 < y.1 then [x, y] else [y, x]) ∧ Below B W w' ∧ Fr H v v' W w' := by
  have hm := m_push H W
  have HPu := Lib.hid (push_any B H v [y] x W h hB (by simp))
  clear h
  generalize hL : (if x.1 < y.1 then [x, y] else [y, x]) = L
  have HL := Lib.hid hL
  clear hL
  unfold IH
  go_enter Tryz.func71, Tryz.ntmps71
  go_wp2_with fail
  refine HPu.out.mono ?_
  rintro _ w1 ⟨rfl, v1, hP1, b1, fr1⟩
  obtain ⟨A1, c1, rfl⟩ := own_form2 hP1.row
  have hl := m_len H _ w1 (cell_of_row w1 H 0 _ _ (0, 0) hP1.box)
  have hP3 := Lib.hid hP1
  have hb3 := Lib.hid (And.intro b1 fr1)
  clear hP1 b1 fr1 hm HPu
  go_wp2_with fail
  refine (rlen_any _ _ _ _).mono ?_
  rintro _ w2 ⟨rfl, rfl⟩
  go_wp2_with fail
  refine (up1 B H _ y x _ hP3.out).mono ?_
  rintro _ w3 ⟨rfl, v3, h3, b3, fr3⟩
  rw [HL.out] at h3; have HE := Lib.hid (And.intro h3 (And.intro (hb3.out.1.trans b3) (hb3.out.2.trans fr3))); clear h3 b3 fr3
  go_wp2
  go_end0
  exact ⟨rfl, _, HE.out⟩
set_option maxRecDepth 20000 in
set_option maxHeartbeats 2000000 in
theorem hrem1 (B H : Nat) (v : Value) (x : Int × Int) (W : World) (h : HpO B W H v [x]) (hB : B ≤ W.heap.size) : Calls Tryz.prog 99 #[IH H, .int .i64 0] W fun e w' => e = .returned (.iface TRn (.agg #[.int .u64 x.1, .int .u64 x.2])) ∧ ∃ v', HpO B w' H v' [] ∧ Below B W w' ∧ Fr H v v' W w' := by
  obtain ⟨A, c, rfl⟩ := own_form2 h.row
  have hl := m_len H _ W (cell_of_row W H 0 _ _ (0, 0) h.box)
  have hm := m_pop H W
  have HPo := Lib.hid (pop_any B H _ [] x W h hB)
  clear h
  unfold IH
  go_enter Tryz.func99, Tryz.ntmps99
  go_wp2_with fail
  refine (rlen_any _ _ _ _).mono ?_
  rintro _ w2 ⟨rfl, rfl⟩
  go_wp2_with fail
  refine HPo.out.mono ?_
  rintro _ w3 ⟨rfl, v3, h3, b3⟩
  have HE := Lib.hid (And.intro h3 b3); clear h3 b3
  go_wp2
  go_ret
  exact ⟨rfl, _, HE.out⟩
set_option maxRecDepth 20000 in
set_option maxHeartbeats 2000000 in
theorem hrem2 (B H : Nat) (v : Value) (x y : Int × Int) (W : World) (h : HpO B W H v [x, y]) (hB : B ≤ W.heap.size) : Calls Tryz.prog 99 #[IH H, .int .i64 0] W fun e w' => e = .returned (.iface TRn (.agg #[.int .u64 x.1, .int .u64 x.2])) ∧ ∃ v', HpO B w' H v' [y] ∧ Below B W w' ∧ Fr H v v' W w' := by
  obtain ⟨g, cap, rfl, ht⟩ := two_of h
  have hl := m_len H _ W (cell_of_row W H 0 _ _ (0, 0) h.box)
  have hs := m_swap H _ W (cell_of_row W H 0 _ _ (0, 0) h.box)
  have HT := Lib.hid ht
  clear h ht
  unfold IH
  go_enter Tryz.func99, Tryz.ntmps99
  go_wp2_with fail
  refine (rlen_any _ _ _ _).mono ?_
  rintro _ w1 ⟨rfl, rfl⟩
  go_wp2_with fail
  refine (swap_two g cap x y _ HT.out.c.1 HT.out.c.2.1 HT.out.c.2.2.1 HT.out.c.2.2.2 HT.out.f).mono ?_
  rintro _ w2 ⟨rfl, hw2⟩
  have hsw := HT.out.swapped hw2
  have hm := m_pop H w2
  have hB2 : B ≤ w2.heap.size := Nat.le_trans hB (hsw.2.1 w1 (Below.refl B w1)).size
  have HPo := Lib.hid (pop_any B H _ [y] x w2 hsw.1 hB2)
  have HB := Lib.hid (And.intro (hsw.2.1 w1 (Below.refl B w1)) hsw.2.2)
  clear hsw hw2 hl hs HT hB2
  go_wp2_with fail
  refine (down01 H _).mono ?_
  rintro _ w3 ⟨rfl, rfl⟩
  go_wp2_with fail
  refine (up0 H _).mono ?_
  rintro _ w4 ⟨rfl, rfl⟩
  go_wp2_with fail
  refine HPo.out.mono ?_
  rintro _ w5 ⟨rfl, v5, h5, b5, fr5⟩
  have HE := Lib.hid (And.intro h5 (And.intro (HB.out.1.trans b5) (HB.out.2.trans fr5))); clear h5 b5 fr5
  go_wp2
  go_ret
  exact ⟨rfl, _, HE.out⟩
set_option maxRecDepth 20000 in
set_option maxHeartbeats 2000000 in
theorem hpop2 (B H : Nat) (v : Value) (x y : Int × Int) (W : World) (h : HpO B W H v [x, y]) (hB : B ≤ W.heap.size) : Calls Tryz.prog 66 #[IH H] W fun e w' => e = .returned (.iface TRn (.agg #[.int .u64 x.1, .int .u64 x.2])) ∧ ∃ v', HpO B w' H v' [y] ∧ Below B W w' ∧ Fr H v v' W w' := by
  obtain ⟨g, cap, rfl, ht⟩ := two_of h
  have hl := m_len H _ W (cell_of_row W H 0 _ _ (0, 0) h.box)
  have hs := m_swap H _ W (cell_of_row W H 0 _ _ (0, 0) h.box)
  have HT := Lib.hid ht
  clear h ht
  unfold IH
  go_enter Tryz.func66, Tryz.ntmps66
  go_wp2_with fail
  refine (rlen_any _ _ _ _).mono ?_
  rintro _ w1 ⟨rfl, rfl⟩
  go_wp2_with fail
  refine (swap_two g cap x y _ HT.out.c.1 HT.out.c.2.1 HT.out.c.2.2.1 HT.out.c.2.2.2 HT.out.f).mono ?_
  rintro _ w2 ⟨rfl, hw2⟩
  have hsw := HT.out.swapped hw2
  have hm := m_pop H w2
  have hB2 : B ≤ w2.heap.size := Nat.le_trans hB (hsw.2.1 w1 (Below.refl B w1)).size
  have HPo := Lib.hid (pop_any B H _ [y] x w2 hsw.1 hB2)
  have HB := Lib.hid (And.intro (hsw.2.1 w1 (Below.refl B w1)) hsw.2.2)
  clear hsw hw2 hl hs HT hB2
  go_wp2_with fail
  refine (down01 H _).mono ?_
  rintro _ w3 ⟨rfl, rfl⟩
  go_wp2_with fail
  refine HPo.out.mono ?_
  rintro _ w5 ⟨rfl, v5, h5, b5, fr5⟩
  have HE := Lib.hid (And.intro h5 (And.intro (HB.out.1.trans b5) (HB.out.2.trans fr5))); clear h5 b5 fr5
  go_wp2
  go_ret
  exact ⟨rfl, _, HE.out⟩
end Go.Proofs.YtpkkomifenlkaaaGreat.Gp
