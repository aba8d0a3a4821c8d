import Derived.Test.YtnjcenbmdcogpaaGreatDoorStpRow
import Derived.Test.YtnjcenbmdcogpaaGreatDoorStpRight
import Derived.Test.YtnjcenbmdcogpaaGreatDoorHexA
import Derived.Test.YtnjcenbmdcogpaaGreatDoorPgStWords
import Derived.Deep.RegionHeld3
/- Steps: a step's line, by the program. -/
namespace Go.Proofs.YtnjcenbmdcogpaaGreatDoor.Sp
open Go Go.Lib Go.RowKit

def lineB (x : St) : ByteArray := ⟨(lineL x).toArray⟩
theorem dec_len (u : Nat) (h : u < 18446744073709551616) : (decDigits u).length ≤ 20 := Dec.dec_len20 u h
theorem wd_len (k : Nat) : (wd k).length ≤ 7 := by unfold wd; split <;> decide
theorem hexS_len (l : Bs) (h : l.length ≤ 64) : (hexS l).length ≤ 128 := by
  unfold hexS
  split
  · decide
  · rw [hexL_len]; omega
theorem news_4 (W : World) (a b c d : ByteArray) : ∀ j u, ([.string a, .string b, .string c, .string d] : List Value)[j]? = some u → (W.alloc (.cells #[.string a, .string b, .string c, .string d] 9)).cell? ((⟨W.heap.size, 0, none⟩ : Addr).add j) = some u := by
  intro j u hj
  match j, hj with
  | 0, hj => simp at hj; subst hj; simp [Addr.add]
  | 1, hj => simp at hj; subst hj; simp [Addr.add]
  | 2, hj => simp at hj; subst hj; simp [Addr.add]
  | 3, hj => simp at hj; subst hj; simp [Addr.add]
theorem one_4 (a b c d : ByteArray) : ∀ u ∈ ([.string a, .string b, .string c, .string d] : List Value), u.oneCell' = true := by
  intro u hu; simp at hu; rcases hu with rfl | rfl | rfl | rfl <;> rfl

set_option maxHeartbeats 1000000 in
set_option maxRecDepth 100000 in
theorem line_1 (n : Int) (n0 : 0 ≤ n) (n1 : n ≤ 2147483647) (w : World) (ht : Dec.Tab w) : Calls Tryz.prog 9 #[.agg #[.int .i64 1, .int .i64 0, .int .i64 n, .int .i64 0, .int .i64 0, .int .u64 0, .int .u64 0, .string ⟨#[]⟩]] w fun e w' => e = .returned (.tuple #[.string (lineB (⟨1, 0, n, 0, 0, 0, 0, ⟨#[]⟩⟩ : St)), .int .i64 0]) ∧ Below w.heap.size w w' := by
  have HRt := Lib.hid (fun W => right_1 0 n 0 0 0 0 ⟨#[]⟩ W)
  rw [show decide (rightP (⟨1, 0, n, 0, 0, 0, 0, ⟨#[]⟩⟩ : St)) = true from decide_eq_true ((rightP_1 _ _ _ _ _ _ _).2 ⟨by omega, by omega, by omega, by omega, rfl, rfl, rfl, rfl, rfl⟩)] at HRt
  rw [show lineB (⟨1, 0, n, 0, 0, 0, 0, ⟨#[]⟩⟩ : St) = ⟨(jn [wd 1, decDigits n.toNat]).toArray⟩ from rfl]
  have HLen : Hid ((jn [wd 1, decDigits n.toNat]).length ≤ 1000000) := Lib.hid (by
    have := wd_len 1
    have := dec_len n.toNat (by omega)
    simp only [jn, List.length_append, List.length_cons]
    omega)
  obtain ⟨i0, hinf, hy0, hy1, hy2⟩ := info_parts infoS
  have HI := Lib.hid (And.intro hinf (And.intro hy0 (And.intro hy1 hy2)))
  clear hinf hy0 hy1 hy2
  obtain ⟨x, hx⟩ : ∃ x, x = (⟨1, 0, n, 0, 0, 0, 0, ⟨#[]⟩⟩ : St) := ⟨_, rfl⟩
  go_enter Tryz.func9, Tryz.ntmps9
  go_wp2_with fail
  refine (HRt.out _).mono ?_
  rintro _ w1 ⟨rfl, hb⟩
  have HX1 : Hid (LX w x w1) := Lib.hid (LX.start ht (by rw [hx]; exact hb))
  obtain ⟨c0, c1, c2, c3, c4, c6, c7⟩ := HX1.out.cells
  rw [hx] at c0 c1 c2 c3 c4 c6 c7
  dsimp only at c0 c1 c2 c3 c4 c6 c7
  have lt := HX1.out.lt
  clear hb ht
  go_wp2_with fail
  refine (parts_1 _).mono ?_
  rintro _ w2 ⟨rfl, hw2⟩
  obtain rfl := hw2.symm
  go_wp2_with fail
  refine (word_1 _).mono ?_
  rintro _ w3 ⟨rfl, hw3⟩
  obtain rfl := hw3.symm
  have HR1 := Lib.hid (LR.make HX1.out (wdB 1))
  go_wp2_with fail
  refine (Dec.itoa_any n (by omega) (by omega) _ HR1.out.x.tab).mono ?_
  rintro _ w4 ⟨rfl, hb4⟩
  have HR4 := Lib.hid (HR1.out.below hb4)
  rw [itoa_nn (by omega)] at *
  obtain ⟨c0, c1, c2, c3, c4, c6, c7⟩ := HR4.out.x.cells
  rw [hx] at c0 c1 c2 c3 c4 c6 c7
  dsimp only at c0 c1 c2 c3 c4 c6 c7
  have lt := HR4.out.x.lt
  clear hb4
  go_wp2_with (at_builtin; refine wpList_append_own _ rfl _ _ 38 rfl (w.heap.size + 1) 9 i0 (.string ⟨#[]⟩) 1 16 Tryz.underlying38 HI.out.1 HI.out.2.1 HI.out.2.2.1 HI.out.2.2.2 rfl (by decide) _ _ _ rfl (HR4.out.r.alloc _) ⟨w4.heap.size, 0, none⟩ 1 1 [.string ⟨(decDigits n.toNat).toArray⟩] rfl rfl (news_s w4 _) (one_s _) (by unfold maxLen; simp) (by simp) (by simp; omega) ?_)
  intro v5 w5 hown5 hg5 _
  have HR5 : Hid (LR w x w5 v5 [wdB 1, ⟨(decDigits n.toNat).toArray⟩]) := Lib.hid ⟨(HR4.out.x.below ((Below.refl _ _).alloc (Nat.le_refl _) _)).grown (HR4.out.r.alloc _) hg5, hown5⟩
  obtain ⟨A5, d5, rfl⟩ := own_form HR5.out.r
  obtain ⟨c0, c1, c2, c3, c4, c6, c7⟩ := HR5.out.x.cells
  rw [hx] at c0 c1 c2 c3 c4 c6 c7
  dsimp only at c0 c1 c2 c3 c4 c6 c7
  have lt := HR5.out.x.lt
  clear hown5 hg5
  go_wp2_with fail
  refine (join_own (w.heap.size + 1) _ _ _ HR5.out.r (by simp) (by simp) HLen.out).mono ?_
  rintro _ wf ⟨rfl, hbf⟩
  have HBf := Lib.hid (HR5.out.x.b.trans (hbf.mono HR5.out.x.b.size))
  clear hbf
  go_wp2
  go_ret2
  exact ⟨rfl, HBf.out⟩

set_option maxHeartbeats 1000000 in
set_option maxRecDepth 100000 in
theorem line_2 (sd : Int) (s0 : 0 ≤ sd) (s1 : sd ≤ 1) (w : World) (ht : Dec.Tab w) : Calls Tryz.prog 9 #[.agg #[.int .i64 2, .int .i64 sd, .int .i64 0, .int .i64 0, .int .i64 0, .int .u64 0, .int .u64 0, .string ⟨#[]⟩]] w fun e w' => e = .returned (.tuple #[.string (lineB (⟨2, sd, 0, 0, 0, 0, 0, ⟨#[]⟩⟩ : St)), .int .i64 0]) ∧ Below w.heap.size w w' := by
  have HRt := Lib.hid (fun W => right_2 sd 0 0 0 0 0 ⟨#[]⟩ W)
  rw [show decide (rightP (⟨2, sd, 0, 0, 0, 0, 0, ⟨#[]⟩⟩ : St)) = true from decide_eq_true ((rightP_2 _ _ _ _ _ _ _).2 ⟨by omega, by omega, by omega, by omega, rfl, rfl, rfl, rfl, rfl⟩)] at HRt
  rw [show lineB (⟨2, sd, 0, 0, 0, 0, 0, ⟨#[]⟩⟩ : St) = ⟨(jn [wd 2, decDigits sd.toNat]).toArray⟩ from rfl]
  have HLen : Hid ((jn [wd 2, decDigits sd.toNat]).length ≤ 1000000) := Lib.hid (by
    have := wd_len 2
    have := dec_len sd.toNat (by omega)
    simp only [jn, List.length_append, List.length_cons]
    omega)
  obtain ⟨i0, hinf, hy0, hy1, hy2⟩ := info_parts infoS
  have HI := Lib.hid (And.intro hinf (And.intro hy0 (And.intro hy1 hy2)))
  clear hinf hy0 hy1 hy2
  obtain ⟨x, hx⟩ : ∃ x, x = (⟨2, sd, 0, 0, 0, 0, 0, ⟨#[]⟩⟩ : St) := ⟨_, rfl⟩
  go_enter Tryz.func9, Tryz.ntmps9
  go_wp2_with fail
  refine (HRt.out _).mono ?_
  rintro _ w1 ⟨rfl, hb⟩
  have HX1 : Hid (LX w x w1) := Lib.hid (LX.start ht (by rw [hx]; exact hb))
  obtain ⟨c0, c1, c2, c3, c4, c6, c7⟩ := HX1.out.cells
  rw [hx] at c0 c1 c2 c3 c4 c6 c7
  dsimp only at c0 c1 c2 c3 c4 c6 c7
  have lt := HX1.out.lt
  clear hb ht
  go_wp2_with fail
  refine (parts_2 _).mono ?_
  rintro _ w2 ⟨rfl, hw2⟩
  obtain rfl := hw2.symm
  go_wp2_with fail
  refine (word_2 _).mono ?_
  rintro _ w3 ⟨rfl, hw3⟩
  obtain rfl := hw3.symm
  have HR1 := Lib.hid (LR.make HX1.out (wdB 2))
  go_wp2_with fail
  refine (Dec.itoa_any sd (by omega) (by omega) _ HR1.out.x.tab).mono ?_
  rintro _ w4 ⟨rfl, hb4⟩
  have HR4 := Lib.hid (HR1.out.below hb4)
  rw [itoa_nn (by omega)] at *
  obtain ⟨c0, c1, c2, c3, c4, c6, c7⟩ := HR4.out.x.cells
  rw [hx] at c0 c1 c2 c3 c4 c6 c7
  dsimp only at c0 c1 c2 c3 c4 c6 c7
  have lt := HR4.out.x.lt
  clear hb4
  go_wp2_with (at_builtin; refine wpList_append_own _ rfl _ _ 38 rfl (w.heap.size + 1) 9 i0 (.string ⟨#[]⟩) 1 16 Tryz.underlying38 HI.out.1 HI.out.2.1 HI.out.2.2.1 HI.out.2.2.2 rfl (by decide) _ _ _ rfl (HR4.out.r.alloc _) ⟨w4.heap.size, 0, none⟩ 1 1 [.string ⟨(decDigits sd.toNat).toArray⟩] rfl rfl (news_s w4 _) (one_s _) (by unfold maxLen; simp) (by simp) (by simp; omega) ?_)
  intro v5 w5 hown5 hg5 _
  have HR5 : Hid (LR w x w5 v5 [wdB 2, ⟨(decDigits sd.toNat).toArray⟩]) := Lib.hid ⟨(HR4.out.x.below ((Below.refl _ _).alloc (Nat.le_refl _) _)).grown (HR4.out.r.alloc _) hg5, hown5⟩
  obtain ⟨A5, d5, rfl⟩ := own_form HR5.out.r
  obtain ⟨c0, c1, c2, c3, c4, c6, c7⟩ := HR5.out.x.cells
  rw [hx] at c0 c1 c2 c3 c4 c6 c7
  dsimp only at c0 c1 c2 c3 c4 c6 c7
  have lt := HR5.out.x.lt
  clear hown5 hg5
  go_wp2_with fail
  refine (join_own (w.heap.size + 1) _ _ _ HR5.out.r (by simp) (by simp) HLen.out).mono ?_
  rintro _ wf ⟨rfl, hbf⟩
  have HBf := Lib.hid (HR5.out.x.b.trans (hbf.mono HR5.out.x.b.size))
  clear hbf
  go_wp2
  go_ret2
  exact ⟨rfl, HBf.out⟩

set_option maxHeartbeats 1000000 in
set_option maxRecDepth 100000 in
theorem line_4 (sd : Int) (s0 : 0 ≤ sd) (s1 : sd ≤ 1) (w : World) (ht : Dec.Tab w) : Calls Tryz.prog 9 #[.agg #[.int .i64 4, .int .i64 sd, .int .i64 0, .int .i64 0, .int .i64 0, .int .u64 0, .int .u64 0, .string ⟨#[]⟩]] w fun e w' => e = .returned (.tuple #[.string (lineB (⟨4, sd, 0, 0, 0, 0, 0, ⟨#[]⟩⟩ : St)), .int .i64 0]) ∧ Below w.heap.size w w' := by
  have HRt := Lib.hid (fun W => right_4 sd 0 0 0 0 0 ⟨#[]⟩ W)
  rw [show decide (rightP (⟨4, sd, 0, 0, 0, 0, 0, ⟨#[]⟩⟩ : St)) = true from decide_eq_true ((rightP_4 _ _ _ _ _ _ _).2 ⟨by omega, by omega, by omega, by omega, rfl, rfl, rfl, rfl, rfl⟩)] at HRt
  rw [show lineB (⟨4, sd, 0, 0, 0, 0, 0, ⟨#[]⟩⟩ : St) = ⟨(jn [wd 4, decDigits sd.toNat]).toArray⟩ from rfl]
  have HLen : Hid ((jn [wd 4, decDigits sd.toNat]).length ≤ 1000000) := Lib.hid (by
    have := wd_len 4
    have := dec_len sd.toNat (by omega)
    simp only [jn, List.length_append, List.length_cons]
    omega)
  obtain ⟨i0, hinf, hy0, hy1, hy2⟩ := info_parts infoS
  have HI := Lib.hid (And.intro hinf (And.intro hy0 (And.intro hy1 hy2)))
  clear hinf hy0 hy1 hy2
  obtain ⟨x, hx⟩ : ∃ x, x = (⟨4, sd, 0, 0, 0, 0, 0, ⟨#[]⟩⟩ : St) := ⟨_, rfl⟩
  go_enter Tryz.func9, Tryz.ntmps9
  go_wp2_with fail
  refine (HRt.out _).mono ?_
  rintro _ w1 ⟨rfl, hb⟩
  have HX1 : Hid (LX w x w1) := Lib.hid (LX.start ht (by rw [hx]; exact hb))
  obtain ⟨c0, c1, c2, c3, c4, c6, c7⟩ := HX1.out.cells
  rw [hx] at c0 c1 c2 c3 c4 c6 c7
  dsimp only at c0 c1 c2 c3 c4 c6 c7
  have lt := HX1.out.lt
  clear hb ht
  go_wp2_with fail
  refine (parts_4 _).mono ?_
  rintro _ w2 ⟨rfl, hw2⟩
  obtain rfl := hw2.symm
  go_wp2_with fail
  refine (word_4 _).mono ?_
  rintro _ w3 ⟨rfl, hw3⟩
  obtain rfl := hw3.symm
  have HR1 := Lib.hid (LR.make HX1.out (wdB 4))
  go_wp2_with fail
  refine (Dec.itoa_any sd (by omega) (by omega) _ HR1.out.x.tab).mono ?_
  rintro _ w4 ⟨rfl, hb4⟩
  have HR4 := Lib.hid (HR1.out.below hb4)
  rw [itoa_nn (by omega)] at *
  obtain ⟨c0, c1, c2, c3, c4, c6, c7⟩ := HR4.out.x.cells
  rw [hx] at c0 c1 c2 c3 c4 c6 c7
  dsimp only at c0 c1 c2 c3 c4 c6 c7
  have lt := HR4.out.x.lt
  clear hb4
  go_wp2_with (at_builtin; refine wpList_append_own _ rfl _ _ 38 rfl (w.heap.size + 1) 9 i0 (.string ⟨#[]⟩) 1 16 Tryz.underlying38 HI.out.1 HI.out.2.1 HI.out.2.2.1 HI.out.2.2.2 rfl (by decide) _ _ _ rfl (HR4.out.r.alloc _) ⟨w4.heap.size, 0, none⟩ 1 1 [.string ⟨(decDigits sd.toNat).toArray⟩] rfl rfl (news_s w4 _) (one_s _) (by unfold maxLen; simp) (by simp) (by simp; omega) ?_)
  intro v5 w5 hown5 hg5 _
  have HR5 : Hid (LR w x w5 v5 [wdB 4, ⟨(decDigits sd.toNat).toArray⟩]) := Lib.hid ⟨(HR4.out.x.below ((Below.refl _ _).alloc (Nat.le_refl _) _)).grown (HR4.out.r.alloc _) hg5, hown5⟩
  obtain ⟨A5, d5, rfl⟩ := own_form HR5.out.r
  obtain ⟨c0, c1, c2, c3, c4, c6, c7⟩ := HR5.out.x.cells
  rw [hx] at c0 c1 c2 c3 c4 c6 c7
  dsimp only at c0 c1 c2 c3 c4 c6 c7
  have lt := HR5.out.x.lt
  clear hown5 hg5
  go_wp2_with fail
  refine (join_own (w.heap.size + 1) _ _ _ HR5.out.r (by simp) (by simp) HLen.out).mono ?_
  rintro _ wf ⟨rfl, hbf⟩
  have HBf := Lib.hid (HR5.out.x.b.trans (hbf.mono HR5.out.x.b.size))
  clear hbf
  go_wp2
  go_ret2
  exact ⟨rfl, HBf.out⟩

set_option maxHeartbeats 1000000 in
set_option maxRecDepth 100000 in
theorem line_5 (n : Int) (n0 : 0 ≤ n) (n1 : n ≤ 7) (w : World) (ht : Dec.Tab w) : Calls Tryz.prog 9 #[.agg #[.int .i64 5, .int .i64 0, .int .i64 n, .int .i64 0, .int .i64 0, .int .u64 0, .int .u64 0, .string ⟨#[]⟩]] w fun e w' => e = .returned (.tuple #[.string (lineB (⟨5, 0, n, 0, 0, 0, 0, ⟨#[]⟩⟩ : St)), .int .i64 0]) ∧ Below w.heap.size w w' := by
  have HRt := Lib.hid (fun W => right_5 0 n 0 0 0 0 ⟨#[]⟩ W)
  rw [show decide (rightP (⟨5, 0, n, 0, 0, 0, 0, ⟨#[]⟩⟩ : St)) = true from decide_eq_true ((rightP_5 _ _ _ _ _ _ _).2 ⟨by omega, by omega, by omega, by omega, rfl, rfl, rfl, rfl, rfl⟩)] at HRt
  rw [show lineB (⟨5, 0, n, 0, 0, 0, 0, ⟨#[]⟩⟩ : St) = ⟨(jn [wd 5, decDigits n.toNat]).toArray⟩ from rfl]
  have HLen : Hid ((jn [wd 5, decDigits n.toNat]).length ≤ 1000000) := Lib.hid (by
    have := wd_len 5
    have := dec_len n.toNat (by omega)
    simp only [jn, List.length_append, List.length_cons]
    omega)
  obtain ⟨i0, hinf, hy0, hy1, hy2⟩ := info_parts infoS
  have HI := Lib.hid (And.intro hinf (And.intro hy0 (And.intro hy1 hy2)))
  clear hinf hy0 hy1 hy2
  obtain ⟨x, hx⟩ : ∃ x, x = (⟨5, 0, n, 0, 0, 0, 0, ⟨#[]⟩⟩ : St) := ⟨_, rfl⟩
  go_enter Tryz.func9, Tryz.ntmps9
  go_wp2_with fail
  refine (HRt.out _).mono ?_
  rintro _ w1 ⟨rfl, hb⟩
  have HX1 : Hid (LX w x w1) := Lib.hid (LX.start ht (by rw [hx]; exact hb))
  obtain ⟨c0, c1, c2, c3, c4, c6, c7⟩ := HX1.out.cells
  rw [hx] at c0 c1 c2 c3 c4 c6 c7
  dsimp only at c0 c1 c2 c3 c4 c6 c7
  have lt := HX1.out.lt
  clear hb ht
  go_wp2_with fail
  refine (parts_5 _).mono ?_
  rintro _ w2 ⟨rfl, hw2⟩
  obtain rfl := hw2.symm
  go_wp2_with fail
  refine (word_5 _).mono ?_
  rintro _ w3 ⟨rfl, hw3⟩
  obtain rfl := hw3.symm
  have HR1 := Lib.hid (LR.make HX1.out (wdB 5))
  go_wp2_with fail
  refine (Dec.itoa_any n (by omega) (by omega) _ HR1.out.x.tab).mono ?_
  rintro _ w4 ⟨rfl, hb4⟩
  have HR4 := Lib.hid (HR1.out.below hb4)
  rw [itoa_nn (by omega)] at *
  obtain ⟨c0, c1, c2, c3, c4, c6, c7⟩ := HR4.out.x.cells
  rw [hx] at c0 c1 c2 c3 c4 c6 c7
  dsimp only at c0 c1 c2 c3 c4 c6 c7
  have lt := HR4.out.x.lt
  clear hb4
  go_wp2_with (at_builtin; refine wpList_append_own _ rfl _ _ 38 rfl (w.heap.size + 1) 9 i0 (.string ⟨#[]⟩) 1 16 Tryz.underlying38 HI.out.1 HI.out.2.1 HI.out.2.2.1 HI.out.2.2.2 rfl (by decide) _ _ _ rfl (HR4.out.r.alloc _) ⟨w4.heap.size, 0, none⟩ 1 1 [.string ⟨(decDigits n.toNat).toArray⟩] rfl rfl (news_s w4 _) (one_s _) (by unfold maxLen; simp) (by simp) (by simp; omega) ?_)
  intro v5 w5 hown5 hg5 _
  have HR5 : Hid (LR w x w5 v5 [wdB 5, ⟨(decDigits n.toNat).toArray⟩]) := Lib.hid ⟨(HR4.out.x.below ((Below.refl _ _).alloc (Nat.le_refl _) _)).grown (HR4.out.r.alloc _) hg5, hown5⟩
  obtain ⟨A5, d5, rfl⟩ := own_form HR5.out.r
  obtain ⟨c0, c1, c2, c3, c4, c6, c7⟩ := HR5.out.x.cells
  rw [hx] at c0 c1 c2 c3 c4 c6 c7
  dsimp only at c0 c1 c2 c3 c4 c6 c7
  have lt := HR5.out.x.lt
  clear hown5 hg5
  go_wp2_with fail
  refine (join_own (w.heap.size + 1) _ _ _ HR5.out.r (by simp) (by simp) HLen.out).mono ?_
  rintro _ wf ⟨rfl, hbf⟩
  have HBf := Lib.hid (HR5.out.x.b.trans (hbf.mono HR5.out.x.b.size))
  clear hbf
  go_wp2
  go_ret2
  exact ⟨rfl, HBf.out⟩

set_option maxHeartbeats 1000000 in
set_option maxRecDepth 100000 in
theorem line_6 (sd n : Int) (s0 : 0 ≤ sd) (s1 : sd ≤ 1) (n0 : 1 ≤ n) (n1 : n ≤ 4) (w : World) (ht : Dec.Tab w) : Calls Tryz.prog 9 #[.agg #[.int .i64 6, .int .i64 sd, .int .i64 n, .int .i64 0, .int .i64 0, .int .u64 0, .int .u64 0, .string ⟨#[]⟩]] w fun e w' => e = .returned (.tuple #[.string (lineB (⟨6, sd, n, 0, 0, 0, 0, ⟨#[]⟩⟩ : St)), .int .i64 0]) ∧ Below w.heap.size w w' := by
  have HRt := Lib.hid (fun W => right_6 sd n 0 0 0 0 ⟨#[]⟩ W)
  rw [show decide (rightP (⟨6, sd, n, 0, 0, 0, 0, ⟨#[]⟩⟩ : St)) = true from decide_eq_true ((rightP_6 _ _ _ _ _ _ _).2 ⟨by omega, by omega, by omega, by omega, rfl, rfl, rfl, rfl, rfl⟩)] at HRt
  rw [show lineB (⟨6, sd, n, 0, 0, 0, 0, ⟨#[]⟩⟩ : St) = ⟨(jn [wd 6, decDigits sd.toNat, decDigits n.toNat]).toArray⟩ from rfl]
  have HLen : Hid ((jn [wd 6, decDigits sd.toNat, decDigits n.toNat]).length ≤ 1000000) := Lib.hid (by
    have := wd_len 6
    have := dec_len sd.toNat (by omega)
    have := dec_len n.toNat (by omega)
    simp only [jn, List.length_append, List.length_cons]
    omega)
  obtain ⟨i0, hinf, hy0, hy1, hy2⟩ := info_parts infoS
  have HI := Lib.hid (And.intro hinf (And.intro hy0 (And.intro hy1 hy2)))
  clear hinf hy0 hy1 hy2
  obtain ⟨x, hx⟩ : ∃ x, x = (⟨6, sd, n, 0, 0, 0, 0, ⟨#[]⟩⟩ : St) := ⟨_, rfl⟩
  go_enter Tryz.func9, Tryz.ntmps9
  go_wp2_with fail
  refine (HRt.out _).mono ?_
  rintro _ w1 ⟨rfl, hb⟩
  have HX1 : Hid (LX w x w1) := Lib.hid (LX.start ht (by rw [hx]; exact hb))
  obtain ⟨c0, c1, c2, c3, c4, c6, c7⟩ := HX1.out.cells
  rw [hx] at c0 c1 c2 c3 c4 c6 c7
  dsimp only at c0 c1 c2 c3 c4 c6 c7
  have lt := HX1.out.lt
  clear hb ht
  go_wp2_with fail
  refine (parts_6 _).mono ?_
  rintro _ w2 ⟨rfl, hw2⟩
  obtain rfl := hw2.symm
  go_wp2_with fail
  refine (word_6 _).mono ?_
  rintro _ w3 ⟨rfl, hw3⟩
  obtain rfl := hw3.symm
  have HR1 := Lib.hid (LR.make HX1.out (wdB 6))
  go_wp2_with fail
  refine (Dec.itoa_any sd (by omega) (by omega) _ HR1.out.x.tab).mono ?_
  rintro _ w4 ⟨rfl, hb4⟩
  have HR4 := Lib.hid (HR1.out.below hb4)
  rw [itoa_nn (by omega)] at *
  obtain ⟨c0, c1, c2, c3, c4, c6, c7⟩ := HR4.out.x.cells
  rw [hx] at c0 c1 c2 c3 c4 c6 c7
  dsimp only at c0 c1 c2 c3 c4 c6 c7
  have lt := HR4.out.x.lt
  clear hb4
  go_wp2_with (at_builtin; refine wpList_append_own _ rfl _ _ 38 rfl (w.heap.size + 1) 9 i0 (.string ⟨#[]⟩) 1 16 Tryz.underlying38 HI.out.1 HI.out.2.1 HI.out.2.2.1 HI.out.2.2.2 rfl (by decide) _ _ _ rfl (HR4.out.r.alloc _) ⟨w4.heap.size, 0, none⟩ 1 1 [.string ⟨(decDigits sd.toNat).toArray⟩] rfl rfl (news_s w4 _) (one_s _) (by unfold maxLen; simp) (by simp) (by simp; omega) ?_)
  intro v5 w5 hown5 hg5 _
  have HR5 : Hid (LR w x w5 v5 [wdB 6, ⟨(decDigits sd.toNat).toArray⟩]) := Lib.hid ⟨(HR4.out.x.below ((Below.refl _ _).alloc (Nat.le_refl _) _)).grown (HR4.out.r.alloc _) hg5, hown5⟩
  obtain ⟨A5, d5, rfl⟩ := own_form HR5.out.r
  obtain ⟨c0, c1, c2, c3, c4, c6, c7⟩ := HR5.out.x.cells
  rw [hx] at c0 c1 c2 c3 c4 c6 c7
  dsimp only at c0 c1 c2 c3 c4 c6 c7
  have lt := HR5.out.x.lt
  clear hown5 hg5
  go_wp2_with fail
  refine (Dec.itoa_any n (by omega) (by omega) _ HR5.out.x.tab).mono ?_
  rintro _ w6 ⟨rfl, hb6⟩
  have HR6 := Lib.hid (HR5.out.below hb6)
  rw [itoa_nn (by omega)] at *
  obtain ⟨c0, c1, c2, c3, c4, c6, c7⟩ := HR6.out.x.cells
  rw [hx] at c0 c1 c2 c3 c4 c6 c7
  dsimp only at c0 c1 c2 c3 c4 c6 c7
  have lt := HR6.out.x.lt
  clear hb6
  go_wp2_with (at_builtin; refine wpList_append_own _ rfl _ _ 38 rfl (w.heap.size + 1) 9 i0 (.string ⟨#[]⟩) 1 16 Tryz.underlying38 HI.out.1 HI.out.2.1 HI.out.2.2.1 HI.out.2.2.2 rfl (by decide) _ _ _ rfl (HR6.out.r.alloc _) ⟨w6.heap.size, 0, none⟩ 1 1 [.string ⟨(decDigits n.toNat).toArray⟩] rfl rfl (news_s w6 _) (one_s _) (by unfold maxLen; simp) (by simp) (by simp; omega) ?_)
  intro v7 w7 hown7 hg7 _
  have HR7 : Hid (LR w x w7 v7 [wdB 6, ⟨(decDigits sd.toNat).toArray⟩, ⟨(decDigits n.toNat).toArray⟩]) := Lib.hid ⟨(HR6.out.x.below ((Below.refl _ _).alloc (Nat.le_refl _) _)).grown (HR6.out.r.alloc _) hg7, hown7⟩
  obtain ⟨A7, d7, rfl⟩ := own_form HR7.out.r
  obtain ⟨c0, c1, c2, c3, c4, c6, c7⟩ := HR7.out.x.cells
  rw [hx] at c0 c1 c2 c3 c4 c6 c7
  dsimp only at c0 c1 c2 c3 c4 c6 c7
  have lt := HR7.out.x.lt
  clear hown7 hg7
  go_wp2_with fail
  refine (join_own (w.heap.size + 1) _ _ _ HR7.out.r (by simp) (by simp) HLen.out).mono ?_
  rintro _ wf ⟨rfl, hbf⟩
  have HBf := Lib.hid (HR7.out.x.b.trans (hbf.mono HR7.out.x.b.size))
  clear hbf
  go_wp2
  go_ret2
  exact ⟨rfl, HBf.out⟩

set_option maxHeartbeats 1000000 in
set_option maxRecDepth 100000 in
theorem line_7   (w : World) (ht : Dec.Tab w) : Calls Tryz.prog 9 #[.agg #[.int .i64 7, .int .i64 0, .int .i64 0, .int .i64 0, .int .i64 0, .int .u64 0, .int .u64 0, .string ⟨#[]⟩]] w fun e w' => e = .returned (.tuple #[.string (lineB (⟨7, 0, 0, 0, 0, 0, 0, ⟨#[]⟩⟩ : St)), .int .i64 0]) ∧ Below w.heap.size w w' := by
  have HRt := Lib.hid (fun W => right_7 0 0 0 0 0 0 ⟨#[]⟩ W)
  rw [show decide (rightP (⟨7, 0, 0, 0, 0, 0, 0, ⟨#[]⟩⟩ : St)) = true from decide_eq_true ((rightP_7 _ _ _ _ _ _ _).2 ⟨by omega, by omega, by omega, by omega, rfl, rfl, rfl, rfl, rfl⟩)] at HRt
  rw [show lineB (⟨7, 0, 0, 0, 0, 0, 0, ⟨#[]⟩⟩ : St) = ⟨(jn [wd 7]).toArray⟩ from rfl]
  have HLen : Hid ((jn [wd 7]).length ≤ 1000000) := Lib.hid (by
    have := wd_len 7
    simp only [jn]
    omega)
  obtain ⟨i0, hinf, hy0, hy1, hy2⟩ := info_parts infoS
  have HI := Lib.hid (And.intro hinf (And.intro hy0 (And.intro hy1 hy2)))
  clear hinf hy0 hy1 hy2
  obtain ⟨x, hx⟩ : ∃ x, x = (⟨7, 0, 0, 0, 0, 0, 0, ⟨#[]⟩⟩ : St) := ⟨_, rfl⟩
  go_enter Tryz.func9, Tryz.ntmps9
  go_wp2_with fail
  refine (HRt.out _).mono ?_
  rintro _ w1 ⟨rfl, hb⟩
  have HX1 : Hid (LX w x w1) := Lib.hid (LX.start ht (by rw [hx]; exact hb))
  obtain ⟨c0, c1, c2, c3, c4, c6, c7⟩ := HX1.out.cells
  rw [hx] at c0 c1 c2 c3 c4 c6 c7
  dsimp only at c0 c1 c2 c3 c4 c6 c7
  have lt := HX1.out.lt
  clear hb ht
  go_wp2_with fail
  refine (parts_7 _).mono ?_
  rintro _ w2 ⟨rfl, hw2⟩
  obtain rfl := hw2.symm
  go_wp2_with fail
  refine (word_7 _).mono ?_
  rintro _ w3 ⟨rfl, hw3⟩
  obtain rfl := hw3.symm
  have HR1 := Lib.hid (LR.make HX1.out (wdB 7))
  go_wp2_with fail
  refine (join_own (w.heap.size + 1) _ _ _ HR1.out.r (by simp) (by simp) HLen.out).mono ?_
  rintro _ wf ⟨rfl, hbf⟩
  have HBf := Lib.hid (HR1.out.x.b.trans (hbf.mono HR1.out.x.b.size))
  clear hbf
  go_wp2
  go_ret2
  exact ⟨rfl, HBf.out⟩

set_option maxHeartbeats 1000000 in
set_option maxRecDepth 100000 in
theorem line_8   (w : World) (ht : Dec.Tab w) : Calls Tryz.prog 9 #[.agg #[.int .i64 8, .int .i64 0, .int .i64 0, .int .i64 0, .int .i64 0, .int .u64 0, .int .u64 0, .string ⟨#[]⟩]] w fun e w' => e = .returned (.tuple #[.string (lineB (⟨8, 0, 0, 0, 0, 0, 0, ⟨#[]⟩⟩ : St)), .int .i64 0]) ∧ Below w.heap.size w w' := by
  have HRt := Lib.hid (fun W => right_8 0 0 0 0 0 0 ⟨#[]⟩ W)
  rw [show decide (rightP (⟨8, 0, 0, 0, 0, 0, 0, ⟨#[]⟩⟩ : St)) = true from decide_eq_true ((rightP_8 _ _ _ _ _ _ _).2 ⟨by omega, by omega, by omega, by omega, rfl, rfl, rfl, rfl, rfl⟩)] at HRt
  rw [show lineB (⟨8, 0, 0, 0, 0, 0, 0, ⟨#[]⟩⟩ : St) = ⟨(jn [wd 8]).toArray⟩ from rfl]
  have HLen : Hid ((jn [wd 8]).length ≤ 1000000) := Lib.hid (by
    have := wd_len 8
    simp only [jn]
    omega)
  obtain ⟨i0, hinf, hy0, hy1, hy2⟩ := info_parts infoS
  have HI := Lib.hid (And.intro hinf (And.intro hy0 (And.intro hy1 hy2)))
  clear hinf hy0 hy1 hy2
  obtain ⟨x, hx⟩ : ∃ x, x = (⟨8, 0, 0, 0, 0, 0, 0, ⟨#[]⟩⟩ : St) := ⟨_, rfl⟩
  go_enter Tryz.func9, Tryz.ntmps9
  go_wp2_with fail
  refine (HRt.out _).mono ?_
  rintro _ w1 ⟨rfl, hb⟩
  have HX1 : Hid (LX w x w1) := Lib.hid (LX.start ht (by rw [hx]; exact hb))
  obtain ⟨c0, c1, c2, c3, c4, c6, c7⟩ := HX1.out.cells
  rw [hx] at c0 c1 c2 c3 c4 c6 c7
  dsimp only at c0 c1 c2 c3 c4 c6 c7
  have lt := HX1.out.lt
  clear hb ht
  go_wp2_with fail
  refine (parts_8 _).mono ?_
  rintro _ w2 ⟨rfl, hw2⟩
  obtain rfl := hw2.symm
  go_wp2_with fail
  refine (word_8 _).mono ?_
  rintro _ w3 ⟨rfl, hw3⟩
  obtain rfl := hw3.symm
  have HR1 := Lib.hid (LR.make HX1.out (wdB 8))
  go_wp2_with fail
  refine (join_own (w.heap.size + 1) _ _ _ HR1.out.r (by simp) (by simp) HLen.out).mono ?_
  rintro _ wf ⟨rfl, hbf⟩
  have HBf := Lib.hid (HR1.out.x.b.trans (hbf.mono HR1.out.x.b.size))
  clear hbf
  go_wp2
  go_ret2
  exact ⟨rfl, HBf.out⟩

set_option maxHeartbeats 2000000 in
set_option maxRecDepth 100000 in
theorem line_3 (c f : Int) (u : Nat) (d : ByteArray) (k0 : 0 ≤ c) (k1 : c < 4) (f0 : 0 ≤ f) (f1 : f ≤ 1) (hu : u < 18446744073709551616) (hd : d.size ≤ 64) (w : World) (ht : Dec.Tab w) : Calls Tryz.prog 9 #[.agg #[.int .i64 3, .int .i64 0, .int .i64 0, .int .i64 c, .int .i64 f, .int .u64 0, .int .u64 (u : Int), .string d]] w fun e w' => e = .returned (.tuple #[.string (lineB (⟨3, 0, 0, c, f, 0, (u : Int), d⟩ : St)), .int .i64 0]) ∧ Below w.heap.size w w' := by
  have HRt := Lib.hid (fun W => right_3 0 0 c f 0 (u : Int) d W)
  rw [show decide (rightP (⟨3, 0, 0, c, f, 0, (u : Int), d⟩ : St)) = true from decide_eq_true ((rightP_3 _ _ _ _ _ _ _).2 ⟨by omega, by omega, by omega, by omega, k0, k1, by show f = 0 ∨ f = 1; omega, hd, rfl⟩)] at HRt
  rw [show lineB (⟨3, 0, 0, c, f, 0, (u : Int), d⟩ : St) = ⟨(jn [wd 3, decDigits c.toNat, decDigits f.toNat, decDigits u, hexS d.data.toList]).toArray⟩ from by unfold lineB lineL wordsOf; rfl]
  have HLen : Hid ((jn [wd 3, decDigits c.toNat, decDigits f.toNat, decDigits u, hexS d.data.toList]).length ≤ 1000000) := Lib.hid (by
    have := wd_len 3
    have := dec_len c.toNat (by omega)
    have := dec_len f.toNat (by omega)
    have := dec_len u hu
    have := hexS_len d.data.toList (by simpa using hd)
    simp only [jn, List.length_append, List.length_cons]
    omega)
  have HU := Lib.hid hu
  have HD := Lib.hid hd
  clear hu hd
  obtain ⟨i0, hinf, hy0, hy1, hy2⟩ := info_parts infoS
  have HI := Lib.hid (And.intro hinf (And.intro hy0 (And.intro hy1 hy2)))
  clear hinf hy0 hy1 hy2
  obtain ⟨x, hx⟩ : ∃ x, x = (⟨3, 0, 0, c, f, 0, (u : Int), d⟩ : St) := ⟨_, rfl⟩
  go_enter Tryz.func9, Tryz.ntmps9
  go_wp2_with fail
  refine (HRt.out _).mono ?_
  rintro _ w1 ⟨rfl, hb⟩
  have HX1 : Hid (LX w x w1) := Lib.hid (LX.start ht (by rw [hx]; exact hb))
  obtain ⟨c0, c1, c2, c3, c4, c6, c7⟩ := HX1.out.cells
  rw [hx] at c0 c1 c2 c3 c4 c6 c7
  dsimp only at c0 c1 c2 c3 c4 c6 c7
  have lt := HX1.out.lt
  clear hb ht
  go_wp2_with fail
  refine (parts_3 _).mono ?_
  rintro _ w2 ⟨rfl, hw2⟩
  obtain rfl := hw2.symm
  go_wp2_with fail
  refine (word_3 _).mono ?_
  rintro _ w3 ⟨rfl, hw3⟩
  obtain rfl := hw3.symm
  have HR1 := Lib.hid (LR.make HX1.out (wdB 3))
  go_upto_region 10 with fail
  generalize hW1 : w1.alloc (.cells #[.string (wdB 3)] 9) = W1 at HR1 ⊢
  generalize hv1 : Value.slice (some ⟨w1.heap.size, 0, none⟩) 1 1 = v1 at HR1 ⊢
  have HV1 := Lib.hid hv1.symm
  clear hW1 hv1 c0 c1 c2 c3 c4 c6 c7 lt HX1
  refine wp_region_held_drew (S := fun W => LX w x W) (by kernel_rfl) (LX.drew HR1.out.x) (fun hHeld => ?_)
  have HR2 := Lib.hid (HR1.out.below (Below.refl _ _).drew)
  obtain ⟨W2, hW2⟩ : ∃ W2, W2 = W1.drew := ⟨_, rfl⟩
  rw [← hW2] at HR2 hHeld ⊢
  clear hW2 HR1
  refine wpAnyH_take (i := 0) (oi := _) (v := ?_) rfl (by kernel_rfl) (by kernel_rfl) (by kernel_rfl) (fun _ _ _ h => h) (Or.inl ⟨by rfl, ?_⟩) (by assumption) ?_
  rotate_left
  · (intro W hSw; have hcc := LX.cells hSw; rw [hx] at hcc; obtain ⟨c0, c1, c2, c3, c4, c6, c7⟩ := hcc; dsimp only at c0 c1 c2 c3 c4 c6 c7; have lt := LX.lt hSw; go_simp; try with_reducible rfl)
  try simp only [Act.put, List.getElem_toArray, List.getElem_cons_zero, List.setIfInBounds_toArray, List.set_cons_zero, List.set_cons_succ]
  refine wpAnyH_take (i := 1) (oi := _) (v := ?_) rfl (by kernel_rfl) (by kernel_rfl) (by kernel_rfl) (fun _ _ _ h => h) (Or.inl ⟨by rfl, ?_⟩) (by assumption) ?_
  rotate_left
  · (intro W hSw; have hcc := LX.cells hSw; rw [hx] at hcc; obtain ⟨c0, c1, c2, c3, c4, c6, c7⟩ := hcc; dsimp only at c0 c1 c2 c3 c4 c6 c7; have lt := LX.lt hSw; go_simp; try with_reducible rfl)
  try simp only [Act.put, List.getElem_toArray, List.getElem_cons_succ, List.getElem_cons_zero, List.setIfInBounds_toArray, List.set_cons_zero, List.set_cons_succ]
  refine wpAnyH_take (i := 2) (oi := _) (v := ?_) rfl (by kernel_rfl) (by kernel_rfl) (by kernel_rfl) (fun _ _ _ h => h) (Or.inl ⟨by rfl, ?_⟩) (by assumption) ?_
  rotate_left
  · (intro W hSw; have hcc := LX.cells hSw; rw [hx] at hcc; obtain ⟨c0, c1, c2, c3, c4, c6, c7⟩ := hcc; dsimp only at c0 c1 c2 c3 c4 c6 c7; have lt := LX.lt hSw; go_simp; try with_reducible rfl)
  try simp only [Act.put, List.getElem_toArray, List.getElem_cons_succ, List.getElem_cons_zero, List.setIfInBounds_toArray, List.set_cons_zero, List.set_cons_succ]
  refine wpAnyH_take (i := 3) (oi := _) (v := ?_) rfl (by kernel_rfl) (by kernel_rfl) (by kernel_rfl) (fun _ _ _ h => h) (Or.inl ⟨by rfl, ?_⟩) (by assumption) ?_
  rotate_left
  · (intro W hSw; have hcc := LX.cells hSw; rw [hx] at hcc; obtain ⟨c0, c1, c2, c3, c4, c6, c7⟩ := hcc; dsimp only at c0 c1 c2 c3 c4 c6 c7; have lt := LX.lt hSw; go_simp; try with_reducible rfl)
  try simp only [Act.put, List.getElem_toArray, List.getElem_cons_succ, List.getElem_cons_zero, List.setIfInBounds_toArray, List.set_cons_zero, List.set_cons_succ]
  refine wpAnyH_take (i := 5) (oi := _) (v := ?_) rfl (by kernel_rfl) (by kernel_rfl) (by kernel_rfl) (fun _ _ _ h => h) (Or.inl ⟨by rfl, ?_⟩) (by assumption) ?_
  rotate_left
  · (intro W hSw; have hcc := LX.cells hSw; rw [hx] at hcc; obtain ⟨c0, c1, c2, c3, c4, c6, c7⟩ := hcc; dsimp only at c0 c1 c2 c3 c4 c6 c7; have lt := LX.lt hSw; go_simp; try with_reducible rfl)
  try simp only [Act.put, List.getElem_toArray, List.getElem_cons_succ, List.getElem_cons_zero, List.setIfInBounds_toArray, List.set_cons_zero, List.set_cons_succ]
  refine wpAnyH_take (i := 6) (oi := _) (v := ?_) rfl (by kernel_rfl) (by kernel_rfl) (by kernel_rfl) (fun _ _ _ h => h) (Or.inl ⟨by rfl, ?_⟩) (by assumption) ?_
  rotate_left
  · (intro W hSw; have hcc := LX.cells hSw; rw [hx] at hcc; obtain ⟨c0, c1, c2, c3, c4, c6, c7⟩ := hcc; dsimp only at c0 c1 c2 c3 c4 c6 c7; have lt := LX.lt hSw; go_simp; try with_reducible rfl)
  try simp only [Act.put, List.getElem_toArray, List.getElem_cons_succ, List.getElem_cons_zero, List.setIfInBounds_toArray, List.set_cons_zero, List.set_cons_succ]
  refine wpAnyH_take (i := 7) (oi := _) (v := ?_) rfl (by kernel_rfl) (by kernel_rfl) (by kernel_rfl) (fun _ _ _ h => h) (Or.inl ⟨by rfl, ?_⟩) (by assumption) ?_
  rotate_left
  · (intro W hSw; have hcc := LX.cells hSw; rw [hx] at hcc; obtain ⟨c0, c1, c2, c3, c4, c6, c7⟩ := hcc; dsimp only at c0 c1 c2 c3 c4 c6 c7; have lt := LX.lt hSw; go_simp; try with_reducible rfl)
  try simp only [Act.put, List.getElem_toArray, List.getElem_cons_succ, List.getElem_cons_zero, List.setIfInBounds_toArray, List.set_cons_zero, List.set_cons_succ]
  refine wpAnyH_take (i := 9) (oi := _) (v := ?_) rfl (by kernel_rfl) (by kernel_rfl) (by kernel_rfl) (fun _ _ _ h => h) (Or.inl ⟨by rfl, ?_⟩) (by assumption) ?_
  rotate_left
  · (intro W hSw; have hcc := LX.cells hSw; rw [hx] at hcc; obtain ⟨c0, c1, c2, c3, c4, c6, c7⟩ := hcc; dsimp only at c0 c1 c2 c3 c4 c6 c7; have lt := LX.lt hSw; go_simp; try with_reducible rfl)
  try simp only [Act.put, List.getElem_toArray, List.getElem_cons_succ, List.getElem_cons_zero, List.setIfInBounds_toArray, List.set_cons_zero, List.set_cons_succ]
  refine wpAnyH_take (i := 10) (oi := _) (v := ?_) rfl (by kernel_rfl) (by kernel_rfl) (by kernel_rfl) (fun _ _ _ h => h) (Or.inl ⟨by rfl, ?_⟩) (by assumption) ?_
  rotate_left
  · (intro W hSw; have hcc := LX.cells hSw; rw [hx] at hcc; obtain ⟨c0, c1, c2, c3, c4, c6, c7⟩ := hcc; dsimp only at c0 c1 c2 c3 c4 c6 c7; have lt := LX.lt hSw; go_simp; try with_reducible rfl)
  try simp only [Act.put, List.getElem_toArray, List.getElem_cons_succ, List.getElem_cons_zero, List.setIfInBounds_toArray, List.set_cons_zero, List.set_cons_succ]
  refine wpAnyH_take (i := 11) (oi := _) (v := ?_) rfl (by kernel_rfl) (by kernel_rfl) (by kernel_rfl) (fun _ _ _ h => h) (Or.inl ⟨by rfl, ?_⟩) (by assumption) ?_
  rotate_left
  · (intro W hSw; have hcc := LX.cells hSw; rw [hx] at hcc; obtain ⟨c0, c1, c2, c3, c4, c6, c7⟩ := hcc; dsimp only at c0 c1 c2 c3 c4 c6 c7; have lt := LX.lt hSw; go_simp; try with_reducible rfl)
  try simp only [Act.put, List.getElem_toArray, List.getElem_cons_succ, List.getElem_cons_zero, List.setIfInBounds_toArray, List.set_cons_zero, List.set_cons_succ]
  refine wpAnyH_take (i := 13) (oi := _) (v := ?_) rfl (by kernel_rfl) (by kernel_rfl) (by kernel_rfl) (fun _ _ _ h => h) (Or.inl ⟨by rfl, ?_⟩) (by assumption) ?_
  rotate_left
  · (intro W hSw; have hcc := LX.cells hSw; rw [hx] at hcc; obtain ⟨c0, c1, c2, c3, c4, c6, c7⟩ := hcc; dsimp only at c0 c1 c2 c3 c4 c6 c7; have lt := LX.lt hSw; go_simp; try with_reducible rfl)
  try simp only [Act.put, List.getElem_toArray, List.getElem_cons_succ, List.getElem_cons_zero, List.setIfInBounds_toArray, List.set_cons_zero, List.set_cons_succ]
  refine wpAnyH_take (i := 14) (oi := _) (v := ?_) rfl (by kernel_rfl) (by kernel_rfl) (by kernel_rfl) (fun _ _ _ h => h) (Or.inl ⟨by rfl, ?_⟩) (by assumption) ?_
  rotate_left
  · (intro W hSw; have hcc := LX.cells hSw; rw [hx] at hcc; obtain ⟨c0, c1, c2, c3, c4, c6, c7⟩ := hcc; dsimp only at c0 c1 c2 c3 c4 c6 c7; have lt := LX.lt hSw; go_simp; try with_reducible rfl)
  try simp only [Act.put, List.getElem_toArray, List.getElem_cons_succ, List.getElem_cons_zero, List.setIfInBounds_toArray, List.set_cons_zero, List.set_cons_succ]
  refine wpAnyH_take (i := 15) (oi := _) (v := ?_) rfl (by kernel_rfl) (by kernel_rfl) (by kernel_rfl) (fun _ _ _ h => h) (Or.inl ⟨by rfl, ?_⟩) (by assumption) ?_
  rotate_left
  · (intro W hSw; have hcc := LX.cells hSw; rw [hx] at hcc; obtain ⟨c0, c1, c2, c3, c4, c6, c7⟩ := hcc; dsimp only at c0 c1 c2 c3 c4 c6 c7; have lt := LX.lt hSw; go_simp; try with_reducible rfl)
  try simp only [Act.put, List.getElem_toArray, List.getElem_cons_succ, List.getElem_cons_zero, List.setIfInBounds_toArray, List.set_cons_zero, List.set_cons_succ]
  refine wpAnyH_ready (rs := [4]) (by kernel_rfl) (by simp) ?_
  refine AllReadyH.cons rfl (fun K hK => ?_) AllReadyH.nil
  simp only [List.getElem_toArray, List.getElem_cons_succ, List.getElem_cons_zero]
  rw [if_pos (by rfl)]
  go_simp
  refine (Dec.itoa_any c (by omega) (by omega) _ (LX.tab hHeld)).mono ?_
  rintro _ w3 ⟨rfl, hb3⟩
  have HR3 := Lib.hid (HR2.out.below hb3)
  go_wp2_with fail
  refine hK.out _ _ (LX.below hHeld hb3) (fun hHeld => ?_)
  clear hK K
  try simp only [Act.put, List.getElem_toArray, List.getElem_cons_succ, List.getElem_cons_zero, List.setIfInBounds_toArray, List.set_cons_zero, List.set_cons_succ]
  refine wpAnyH_ready (rs := [8]) (by kernel_rfl) (by simp) ?_
  refine AllReadyH.cons rfl (fun K hK => ?_) AllReadyH.nil
  simp only [List.getElem_toArray, List.getElem_cons_succ, List.getElem_cons_zero]
  rw [if_pos (by rfl)]
  go_simp
  refine (Dec.itoa_any f (by omega) (by omega) _ (LX.tab hHeld)).mono ?_
  rintro _ w4 ⟨rfl, hb4⟩
  have HR4 := Lib.hid (HR3.out.below hb4)
  go_wp2_with fail
  refine hK.out _ _ (LX.below hHeld hb4) (fun hHeld => ?_)
  clear hK K
  try simp only [Act.put, List.getElem_toArray, List.getElem_cons_succ, List.getElem_cons_zero, List.setIfInBounds_toArray, List.set_cons_zero, List.set_cons_succ]
  refine wpAnyH_ready (rs := [12]) (by kernel_rfl) (by simp) ?_
  refine AllReadyH.cons rfl (fun K hK => ?_) AllReadyH.nil
  simp only [List.getElem_toArray, List.getElem_cons_succ, List.getElem_cons_zero]
  rw [if_pos (by rfl)]
  go_simp
  refine (Dec.fmt_any u HU.out _ (LX.tab hHeld)).mono ?_
  rintro _ w5 ⟨rfl, hb5⟩
  have HR5 := Lib.hid (HR4.out.below hb5)
  go_wp2_with fail
  refine hK.out _ _ (LX.below hHeld hb5) (fun hHeld => ?_)
  clear hK K
  try simp only [Act.put, List.getElem_toArray, List.getElem_cons_succ, List.getElem_cons_zero, List.setIfInBounds_toArray, List.set_cons_zero, List.set_cons_succ]
  refine wpAnyH_ready (rs := [16]) (by kernel_rfl) (by simp) ?_
  refine AllReadyH.cons rfl (fun K hK => ?_) AllReadyH.nil
  simp only [List.getElem_toArray, List.getElem_cons_succ, List.getElem_cons_zero]
  rw [if_pos (by rfl)]
  go_simp
  refine (hex_any d (by have := HD.out; omega) _).mono ?_
  rintro _ w6 ⟨rfl, hb6⟩
  have HR6 := Lib.hid (HR5.out.below hb6)
  go_wp2_with fail
  refine hK.out _ _ (LX.below hHeld hb6) (fun hHeld => ?_)
  clear hK K
  try simp only [Act.put, List.getElem_toArray, List.getElem_cons_succ, List.getElem_cons_zero, List.setIfInBounds_toArray, List.set_cons_zero, List.set_cons_succ]
  rw [itoa_nn k0, itoa_nn f0]
  refine wpAnyH_ready (rs := [17]) (by kernel_rfl) (by simp) ?_
  refine AllReadyH.cons rfl (fun K hK => ?_) AllReadyH.nil
  simp only [List.getElem_toArray, List.getElem_cons_succ, List.getElem_cons_zero]
  rw [if_pos (by rfl)]
  go_simp
  refine hK.out _ _ (LX.below hHeld ((Below.refl _ _).alloc (Nat.le_refl _) _)) (fun hHeld => ?_)
  clear hK K
  try simp only [Act.put, List.getElem_toArray, List.getElem_cons_succ, List.getElem_cons_zero, List.setIfInBounds_toArray, List.set_cons_zero, List.set_cons_succ]
  refine wpAnyH_ready (rs := [18]) (by kernel_rfl) (by simp) ?_
  refine AllReadyH.cons rfl (fun K hK => ?_) AllReadyH.nil
  simp only [List.getElem_toArray, List.getElem_cons_succ, List.getElem_cons_zero]
  rw [if_pos (by rfl)]
  refine wp_append_any _ _ 38 rfl (w.heap.size + 1) 9 i0 (.string ⟨#[]⟩) 1 16 Tryz.underlying38 HI.out.1 HI.out.2.1 HI.out.2.2.1 HI.out.2.2.2 rfl (by decide) v1 1 _ rfl (HR6.out.r.alloc _) (some ⟨w6.heap.size, 0, none⟩) 4 4 [.string ⟨(decDigits c.toNat).toArray⟩, .string ⟨(decDigits f.toNat).toArray⟩, .string ⟨(decDigits u).toArray⟩, .string ⟨(hexS d.data.toList).toArray⟩] rfl rfl (fun ad had => by obtain rfl := (Option.some.inj had).symm; exact news_4 w6 _ _ _ _) (fun h => by cases h) (one_4 _ _ _ _) (by unfold maxLen; simp) (by simp) (by have := HR6.out.x.lt; simp; omega) ?_
  intro v7 w7 hown7 hg7
  have HR7 : Hid (LR w x w7 v7 [wdB 3, ⟨(decDigits c.toNat).toArray⟩, ⟨(decDigits f.toNat).toArray⟩, ⟨(decDigits u).toArray⟩, ⟨(hexS d.data.toList).toArray⟩]) := Lib.hid ⟨(LX.below HR6.out.x ((Below.refl _ _).alloc (Nat.le_refl _) _)).grown (HR6.out.r.alloc _) hg7, hown7⟩
  clear hown7 hg7
  refine hK.out _ _ HR7.out.x (fun hHeld => ?_)
  clear hK K
  try simp only [Act.put, List.setIfInBounds_toArray, List.set_cons_zero, List.set_cons_succ]
  refine wpAnyH_take (i := 19) (oi := _) (v := ?_) rfl (by kernel_rfl) (by kernel_rfl) (by kernel_rfl) (fun _ _ _ h => h) (Or.inl ⟨by rfl, ?_⟩) (by assumption) ?_
  rotate_left
  · (intro W hSw; (try dsimp only at hSw); go_simp; try with_reducible rfl)
  try simp only [Act.put, List.getElem_toArray, List.getElem_cons_succ, List.getElem_cons_zero, List.setIfInBounds_toArray, List.set_cons_zero, List.set_cons_succ]
  refine wpAnyH_done (by kernel_rfl) ?_ _
  go_wp2_with fail
  refine (join_own (w.heap.size + 1) _ _ _ HR7.out.r (by simp) (by simp) HLen.out).mono ?_
  rintro _ wf ⟨rfl, hbf⟩
  have HBf := Lib.hid (HR7.out.x.b.trans (hbf.mono HR7.out.x.b.size))
  clear hbf
  go_wp2
  go_ret2
  exact ⟨rfl, HBf.out⟩

theorem line_bad (x : St) (h : ¬ rightP x) (w : World) : Calls Tryz.prog 9 #[.agg x.cells] w fun e w' => e = .returned (.tuple #[.string ⟨#[]⟩, .int .i64 1]) ∧ Below w.heap.size w w' := by
  have HRt := Lib.hid (fun W => right_any x W)
  rw [show decide (rightP x) = false from decide_eq_false h] at HRt
  obtain ⟨k, sd, n, c, f, s, t, d⟩ := x
  unfold St.cells at HRt ⊢
  dsimp only at HRt ⊢
  clear h
  go_enter Tryz.func9, Tryz.ntmps9
  go_wp2_with fail
  refine (HRt.out _).mono ?_
  rintro _ w1 ⟨rfl, hb⟩
  have HB := Lib.hid (((Below.refl w.heap.size w).alloc (Nat.le_refl _) (.cells #[.int .i64 k, .int .i64 sd, .int .i64 n, .int .i64 c, .int .i64 f, .int .u64 s, .int .u64 t, .string d] 26)).trans (hb.mono (by simp)))
  clear hb
  go_wp2
  go_ret2
  exact ⟨rfl, HB.out⟩
theorem line_ok (x : St) (h : rightP x) (t0 : 0 ≤ x.t) (t1 : x.t < 18446744073709551616) (w : World) (ht : Dec.Tab w) : Calls Tryz.prog 9 #[.agg x.cells] w fun e w' => e = .returned (.tuple #[.string (lineB x), .int .i64 0]) ∧ Below w.heap.size w w' := by
  obtain ⟨k, sd, n, c, f, s, t, d⟩ := x
  rcases h with ⟨h1, h2, h3, h4, p1, p2, p3, p4, p5⟩ | ⟨h1, h2, h3, p1, p2, p3, p4, p5⟩ | ⟨h1, h2, h3, p1, p2, p3, p4, p5⟩ | ⟨h1, h2, h3, p1, p2, p3, p4, p5⟩ | ⟨h1, h2, h3, h4, p1, p2, p3, p4, p5⟩ | ⟨h1, h2, h3, h4, p1, p2, p3, p4, p5⟩ | ⟨h1, h2, h3, p1, p2, p3, p4, p5⟩ | ⟨h1, h2, h3, p1, p2, p3, p4, p5⟩
  all_goals simp only at *
  · subst h1 h2 p1 p2 p3 p4 p5; exact line_1 n h3 h4 w ht
  · subst h1 h3 p1 p2 p3 p4 p5; exact line_2 sd (by omega) (by omega) w ht
  · subst h1 h2 h3 p5
    obtain ⟨u, rfl⟩ : ∃ u : Nat, t = (u : Int) := ⟨t.toNat, by omega⟩
    exact line_3 c f u d p1 p2 (by omega) (by omega) (by omega) p4 w ht
  · subst h1 h3 p1 p2 p3 p4 p5; exact line_4 sd (by omega) (by omega) w ht
  · subst h1 h2 p1 p2 p3 p4 p5; exact line_5 n h3 h4 w ht
  · subst h1 p1 p2 p3 p4 p5; exact line_6 sd n (by omega) (by omega) h3 h4 w ht
  · subst h1 h2 h3 p1 p2 p3 p4 p5; exact line_7 w ht
  · subst h1 h2 h3 p1 p2 p3 p4 p5; exact line_8 w ht

end Go.Proofs.YtnjcenbmdcogpaaGreatDoor.Sp
