/- Parse of a line, by the program. -/
import Derived.Test.YtnjcenbmdcogpaaGreatDoorStpParse0
import Derived.Laws.EntriesVeiled
namespace Go.Proofs.YtnjcenbmdcogpaaGreatDoor.Sp
open Go Go.Lib Go.RowKit

theorem wz (u : Nat) : wrap64 (u : Int) = IntKind.i64.wrap (u : Int) := by rw [IntKind.wrap_i64, wrap64]
theorem pE_ok {s : ByteArray} {x : St} (hx : loose (sp s.data.toList) = x) (hr : rightP x) (hl : lineB x = s) : pE s = .returned (.tuple #[.agg x.cells, .int .i64 0]) := by
  have : lineL x = s.data.toList := by rw [← hl]; rfl
  unfold pE parseL
  rw [hx, if_pos ⟨hr, this⟩]
theorem pE_bad {s : ByteArray} {x : St} (hx : loose (sp s.data.toList) = x) (h : ¬ (rightP x ∧ lineB x = s)) : pE s = .returned (.tuple #[.agg St0.cells, .int .i64 3]) := by
  unfold pE parseL
  rw [hx, if_neg]
  rintro ⟨h1, h2⟩
  exact h ⟨h1, by unfold lineB; rw [h2]⟩
theorem loose_k {s : ByteArray} {k : Nat} (hk : kL (hd (spB s)).data.toList = k) : loose (sp s.data.toList) = looseK k ((spB s).getD 1 ⟨#[]⟩).data.toList ((spB s).getD 2 ⟨#[]⟩).data.toList ((spB s).getD 3 ⟨#[]⟩).data.toList ((spB s).getD 4 ⟨#[]⟩).data.toList := by
  unfold loose
  rw [sp_getD, sp_getD, sp_getD, sp_getD, sp_getD, show (spB s).getD 0 ⟨#[]⟩ = hd (spB s) from rfl, hk]

set_option maxHeartbeats 2000000 in
set_option maxRecDepth 100000 in
theorem parse_0 (s : ByteArray) (hs : s.size ≤ 2000) (hk : kL (hd (spB s)).data.toList = 0) (w : World) (ht : Dec.Tab w) (hE : ErrsLie w) : Calls Tryz.prog 13 #[.string s] w fun e w' => e = pE s ∧ Below w.heap.size w w' := by
  have hlo := loose_k hk
  have HL1 := Lib.hid (show (spB s).length ≤ 2001 by have := spB_len s; omega)
  have HSz := Lib.hid (fun i => Nat.le_trans (spB_sz s i) hs)
  have HF := Lib.hid (errs_far hE)
  have HS := Lib.hid hs
  have HT := Lib.hid (And.intro ht hE)
  have HKi := Lib.hid (kind_any (hd (spB s)))
  rw [hk] at HKi
  clear hk ht hE hs
  go_enter Tryz.func13, Tryz.ntmps13
  go_wp2_with fail
  refine (split_any s _ (by have := HS.out; omega)).mono ?_
  rintro _ w1 ⟨rfl, hw1⟩
  have hz1 : w1.heap.size = w.heap.size + 2 := by rw [hw1]; simp
  have hr1 : w1.heap[w.heap.size]? = some (.cells St0.cells 26 (0, 0)) := by rw [hw1, Below.heap_alloc _ _ _ (by simp)]; exact heap_alloc_new _ _
  have hg1 : w1.heap[w.heap.size + 1]? = some (.cells ((spB s).map Value.string).toArray 9 (0, 0)) := by
    rw [hw1]
    have := heap_alloc_new (w.alloc (.cells St0.cells 26)) (.cells ((spB s).map Value.string).toArray 9)
    rw [World.size_alloc] at this
    exact this
  have hb1 : Below w.heap.size w w1 := by rw [hw1]; exact ((Below.refl _ _).alloc (Nat.le_refl _) _).alloc (by simp) _
  simp only [World.size_alloc]
  clear hw1
  have HW1 := Lib.hid (And.intro hr1 (And.intro hg1 hb1))
  have HZ1 := Lib.hid hz1
  clear hr1 hg1 hb1 hz1
  go_upto_region 4 with fail
  rw [HZ1.out]
  have HY3 := Lib.hid (PY.start HZ1.out HW1.out.1 HW1.out.2.1 HW1.out.2.2 HT.out.1 HT.out.2)
  rw [show w.heap.size + 2 + 1 = w.heap.size + 3 from rfl]
  generalize (w1.alloc (.cells #[.slice (some ⟨w.heap.size + 1, 0, none⟩) (spB s).length (spB s).length] 38)).alloc (.cells #[.func (.func 44) #[] #[.pointer (some ⟨w.heap.size + 2, 0, none⟩)]] 65) = W3 at HY3 ⊢
  have cN : W3.cell? ⟨w.heap.size + 3, 0, none⟩ = some (.func (.func 44) #[] #[.pointer (some ⟨w.heap.size + 2, 0, none⟩)]) := by rw [Lib.cell_of_heap HY3.out.nb]; rfl
  clear HW1 HZ1
  go_wp2_with fail
  refine (next_any (w.heap.size + 2) (w.heap.size + 1) (spB s) (by have := HL1.out; omega) W3 HY3.out.nx).mono ?_
  rintro _ w4 ⟨rfl, hn4, ho4⟩
  have HY4 := Lib.hid (HY3.out.oh ho4 hn4)
  clear hn4 ho4 cN HY3
  go_wp2_with fail
  refine (HKi.out _).mono ?_
  rintro _ w5 ⟨rfl, hw5⟩
  obtain rfl := hw5.symm
  go_upto_region 5 with fail
  have HP0 := Lib.hid (HY4.out.px (⟨0, 0, 0, 0, 0, 0, 0, ⟨#[]⟩⟩ : St))
  rw [show (spB s).tail = (spB s).drop 1 from List.drop_one.symm] at HP0
  generalize hT : w4.heap.size = T at HP0 ⊢
  unfold St.cells at HP0
  dsimp only at HP0
  generalize w4.alloc (.cells #[.int .i64 0, .int .i64 0, .int .i64 0, .int .i64 0, .int .i64 0, .int .u64 0, .int .u64 0, .string ⟨#[]⟩] 26) = W5 at HP0 ⊢
  clear hT HY4
  obtain ⟨⟨c0, c1, c2, c3, c4, c6, c7⟩, z1, z2, z3, z4, z6, z7⟩ := HP0.out.cells
  dsimp only at c0 c1 c2 c3 c4 c6 c7
  have hTw := HP0.out.hT
  have cN : W5.cell? ⟨w.heap.size + 3, 0, none⟩ = some (.func (.func 44) #[] #[.pointer (some ⟨w.heap.size + 2, 0, none⟩)]) := by rw [Lib.cell_of_heap HP0.out.nb]; rfl
  go_wp2_with fail
  refine (parts_o 0 (by decide) (by decide) (by decide) (by decide) (by decide) (by decide) (by decide) (by decide) _).mono ?_
  rintro _ w6 ⟨rfl, hw6⟩
  obtain rfl := hw6.symm
  have HLo : Hid (loose (sp s.data.toList) = (⟨0, 0, 0, 0, 0, 0, 0, ⟨#[]⟩⟩ : St)) := Lib.hid (by
    rw [hlo]
    unfold looseK
    skip
    rfl)
  have HT0 : Hid ((0 : Int) ≤ (0 : Int) ∧ (0 : Int) < 18446744073709551616) := Lib.hid ⟨t00, t01⟩
  clear hlo
  go_upto_region 15 with fail
  refine wp_region_lit ?_
  refine wpList_load_row rfl 26 _ rfl T rfl 26 (⟨0, 0, 0, 0, 0, 0, 0, ⟨#[]⟩⟩ : St).cells (0, 0) _ HP0.out.t Tryz.underlying26 rfl (hi8 (⟨0, 0, 0, 0, 0, 0, 0, ⟨#[]⟩⟩ : St)) ?_
  go_wp2_with fail
  by_cases hr : rightP (⟨0, 0, 0, 0, 0, 0, 0, ⟨#[]⟩⟩ : St)
  · refine (line_ok (⟨0, 0, 0, 0, 0, 0, 0, ⟨#[]⟩⟩ : St) hr HT0.out.1 HT0.out.2 _ HP0.out.tab).mono ?_
    rintro _ wl ⟨rfl, hbl⟩
    have HPf := Lib.hid (HP0.out.below hbl)
    by_cases hl : lineB (⟨0, 0, 0, 0, 0, 0, 0, ⟨#[]⟩⟩ : St) = s
    · have HE := Lib.hid (pE_ok HLo.out hr hl)
      have e1 : ((lineB (⟨0, 0, 0, 0, 0, 0, 0, ⟨#[]⟩⟩ : St)).toList == s.toList) = true := by rw [hl]; simp
      generalize lineB (⟨0, 0, 0, 0, 0, 0, 0, ⟨#[]⟩⟩ : St) = y at *
      clear hbl hr hl
      go_upto_region 18 with fail
      refine wp_region_lit ?_
      refine wpList_load_row rfl 26 _ rfl T rfl 26 (⟨0, 0, 0, 0, 0, 0, 0, ⟨#[]⟩⟩ : St).cells (0, 0) _ HPf.out.t Tryz.underlying26 rfl (hi8 (⟨0, 0, 0, 0, 0, 0, 0, ⟨#[]⟩⟩ : St)) ?_
      refine wpList_store_rowTo rfl 26 _ _ rfl rfl w.heap.size (⟨0, 0, 0, 0, 0, 0, 0, ⟨#[]⟩⟩ : St).cells rfl rfl 26 _ HPf.out.r (hi8 (⟨0, 0, 0, 0, 0, 0, 0, ⟨#[]⟩⟩ : St)) rfl (cells8_one _) ?_
      have HR' := setRow_heap wl w.heap.size _ (⟨0, 0, 0, 0, 0, 0, 0, ⟨#[]⟩⟩ : St).cells 26 (0, 0) HPf.out.r
      have hB9 : Below w.heap.size w (wl.setRow w.heap.size (⟨0, 0, 0, 0, 0, 0, 0, ⟨#[]⟩⟩ : St).cells) := ⟨HPf.out.b.os, HPf.out.b.tape, HPf.out.b.output, by simpa using HPf.out.b.size, fun i hi => (setRow_other _ _ _ _ (by omega)).trans (HPf.out.b.block i hi)⟩
      obtain ⟨W9, hW9⟩ : ∃ W9, W9 = wl.setRow w.heap.size (⟨0, 0, 0, 0, 0, 0, 0, ⟨#[]⟩⟩ : St).cells := ⟨_, rfl⟩
      rw [← hW9] at HR' hB9 ⊢
      clear hW9
      go_wp2_with fail
      exact bodyPost_ret (res8 _ _ w.heap.size (⟨0, 0, 0, 0, 0, 0, 0, ⟨#[]⟩⟩ : St) 0 rfl rfl HR') rfl ⟨HE.out.symm, hB9⟩
    · have HE := Lib.hid (pE_bad HLo.out fun h => hl h.2)
      have e1 : ((lineB (⟨0, 0, 0, 0, 0, 0, 0, ⟨#[]⟩⟩ : St)).toList == s.toList) = false := tl_ne hl
      generalize lineB (⟨0, 0, 0, 0, 0, 0, 0, ⟨#[]⟩⟩ : St) = y at *
      clear hbl hr hl
      go_upto_region 17 with fail
      refine wp_region_lit ?_
      refine wpList_step (fun K hK => ?_)
      go_simp
      refine hK _ _ ?_
      clear hK K
      refine wpList_store_rowTo rfl 26 _ _ rfl rfl w.heap.size St0.cells rfl rfl 26 _ HPf.out.r (hi8 St0) rfl (cells8_one _) ?_
      have HR' := setRow_heap wl w.heap.size _ St0.cells 26 (0, 0) HPf.out.r
      have hB9 : Below w.heap.size w (wl.setRow w.heap.size St0.cells) := ⟨HPf.out.b.os, HPf.out.b.tape, HPf.out.b.output, by simpa using HPf.out.b.size, fun i hi => (setRow_other _ _ _ _ (by omega)).trans (HPf.out.b.block i hi)⟩
      obtain ⟨W9, hW9⟩ : ∃ W9, W9 = wl.setRow w.heap.size St0.cells := ⟨_, rfl⟩
      rw [← hW9] at HR' hB9 ⊢
      clear hW9
      go_wp2_with fail
      exact bodyPost_ret (res8 _ _ w.heap.size St0 3 rfl rfl HR') rfl ⟨HE.out.symm, hB9⟩
  · refine (line_bad (⟨0, 0, 0, 0, 0, 0, 0, ⟨#[]⟩⟩ : St) hr _).mono ?_
    rintro _ wl ⟨rfl, hbl⟩
    have HPf := Lib.hid (HP0.out.below hbl)
    have HE := Lib.hid (pE_bad HLo.out fun h => hr h.1)
    clear hbl hr
    go_upto_region 17 with fail
    refine wp_region_lit ?_
    refine wpList_step (fun K hK => ?_)
    go_simp
    refine hK _ _ ?_
    clear hK K
    refine wpList_store_rowTo rfl 26 _ _ rfl rfl w.heap.size St0.cells rfl rfl 26 _ HPf.out.r (hi8 St0) rfl (cells8_one _) ?_
    have HR' := setRow_heap wl w.heap.size _ St0.cells 26 (0, 0) HPf.out.r
    have hB9 : Below w.heap.size w (wl.setRow w.heap.size St0.cells) := ⟨HPf.out.b.os, HPf.out.b.tape, HPf.out.b.output, by simpa using HPf.out.b.size, fun i hi => (setRow_other _ _ _ _ (by omega)).trans (HPf.out.b.block i hi)⟩
    obtain ⟨W9, hW9⟩ : ∃ W9, W9 = wl.setRow w.heap.size St0.cells := ⟨_, rfl⟩
    rw [← hW9] at HR' hB9 ⊢
    clear hW9
    go_wp2_with fail
    exact bodyPost_ret (res8 _ _ w.heap.size St0 3 rfl rfl HR') rfl ⟨HE.out.symm, hB9⟩

set_option maxHeartbeats 2000000 in
set_option maxRecDepth 100000 in
theorem parse_1 (s : ByteArray) (hs : s.size ≤ 2000) (hk : kL (hd (spB s)).data.toList = 1) (w : World) (ht : Dec.Tab w) (hE : ErrsLie w) : Calls Tryz.prog 13 #[.string s] w fun e w' => e = pE s ∧ Below w.heap.size w w' := by
  have hlo := loose_k hk
  have HL1 := Lib.hid (show (spB s).length ≤ 2001 by have := spB_len s; omega)
  have HSz := Lib.hid (fun i => Nat.le_trans (spB_sz s i) hs)
  have HF := Lib.hid (errs_far hE)
  have HS := Lib.hid hs
  have HT := Lib.hid (And.intro ht hE)
  have HKi := Lib.hid (kind_any (hd (spB s)))
  rw [hk] at HKi
  clear hk ht hE hs
  go_enter Tryz.func13, Tryz.ntmps13
  go_wp2_with fail
  refine (split_any s _ (by have := HS.out; omega)).mono ?_
  rintro _ w1 ⟨rfl, hw1⟩
  have hz1 : w1.heap.size = w.heap.size + 2 := by rw [hw1]; simp
  have hr1 : w1.heap[w.heap.size]? = some (.cells St0.cells 26 (0, 0)) := by rw [hw1, Below.heap_alloc _ _ _ (by simp)]; exact heap_alloc_new _ _
  have hg1 : w1.heap[w.heap.size + 1]? = some (.cells ((spB s).map Value.string).toArray 9 (0, 0)) := by
    rw [hw1]
    have := heap_alloc_new (w.alloc (.cells St0.cells 26)) (.cells ((spB s).map Value.string).toArray 9)
    rw [World.size_alloc] at this
    exact this
  have hb1 : Below w.heap.size w w1 := by rw [hw1]; exact ((Below.refl _ _).alloc (Nat.le_refl _) _).alloc (by simp) _
  simp only [World.size_alloc]
  clear hw1
  have HW1 := Lib.hid (And.intro hr1 (And.intro hg1 hb1))
  have HZ1 := Lib.hid hz1
  clear hr1 hg1 hb1 hz1
  go_upto_region 4 with fail
  rw [HZ1.out]
  have HY3 := Lib.hid (PY.start HZ1.out HW1.out.1 HW1.out.2.1 HW1.out.2.2 HT.out.1 HT.out.2)
  rw [show w.heap.size + 2 + 1 = w.heap.size + 3 from rfl]
  generalize (w1.alloc (.cells #[.slice (some ⟨w.heap.size + 1, 0, none⟩) (spB s).length (spB s).length] 38)).alloc (.cells #[.func (.func 44) #[] #[.pointer (some ⟨w.heap.size + 2, 0, none⟩)]] 65) = W3 at HY3 ⊢
  have cN : W3.cell? ⟨w.heap.size + 3, 0, none⟩ = some (.func (.func 44) #[] #[.pointer (some ⟨w.heap.size + 2, 0, none⟩)]) := by rw [Lib.cell_of_heap HY3.out.nb]; rfl
  clear HW1 HZ1
  go_wp2_with fail
  refine (next_any (w.heap.size + 2) (w.heap.size + 1) (spB s) (by have := HL1.out; omega) W3 HY3.out.nx).mono ?_
  rintro _ w4 ⟨rfl, hn4, ho4⟩
  have HY4 := Lib.hid (HY3.out.oh ho4 hn4)
  clear hn4 ho4 cN HY3
  go_wp2_with fail
  refine (HKi.out _).mono ?_
  rintro _ w5 ⟨rfl, hw5⟩
  obtain rfl := hw5.symm
  go_upto_region 5 with fail
  have HP0 := Lib.hid (HY4.out.px (⟨1, 0, 0, 0, 0, 0, 0, ⟨#[]⟩⟩ : St))
  rw [show (spB s).tail = (spB s).drop 1 from List.drop_one.symm] at HP0
  generalize hT : w4.heap.size = T at HP0 ⊢
  unfold St.cells at HP0
  dsimp only at HP0
  generalize w4.alloc (.cells #[.int .i64 1, .int .i64 0, .int .i64 0, .int .i64 0, .int .i64 0, .int .u64 0, .int .u64 0, .string ⟨#[]⟩] 26) = W5 at HP0 ⊢
  clear hT HY4
  obtain ⟨⟨c0, c1, c2, c3, c4, c6, c7⟩, z1, z2, z3, z4, z6, z7⟩ := HP0.out.cells
  dsimp only at c0 c1 c2 c3 c4 c6 c7
  have hTw := HP0.out.hT
  have cN : W5.cell? ⟨w.heap.size + 3, 0, none⟩ = some (.func (.func 44) #[] #[.pointer (some ⟨w.heap.size + 2, 0, none⟩)]) := by rw [Lib.cell_of_heap HP0.out.nb]; rfl
  go_wp2_with fail
  refine (parts_1 _).mono ?_
  rintro _ w6 ⟨rfl, hw6⟩
  obtain rfl := hw6.symm
  go_wp2_with fail
  refine (num_next (w.heap.size + 3) (w.heap.size + 2) (w.heap.size + 1) ((spB s).drop 1) (by rw [List.length_drop]; have := HL1.out; omega) (by rw [hd_drop]; have := HSz.out 1; omega) _ HP0.out.nx HP0.out.nb HP0.out.errs HF.out).mono ?_
  rintro _ wa1 ⟨rfl, hn1, ho1⟩
  rw [List.tail_drop] at hn1
  rw [hd_drop]
  have HA1 := Lib.hid (HP0.out.oh ho1 hn1)
  obtain ⟨u1, hu1⟩ : ∃ u, numP ((spB s).getD 1 ⟨#[]⟩).data.toList = u := ⟨_, rfl⟩
  have HU1 := Lib.hid hu1
  rw [hu1]
  clear hn1 ho1 hu1 hw6
  clear c0 c1 c2 c3 c4 c6 c7 z1 z2 z3 z4 z6 z7 cN hTw
  obtain ⟨⟨c0, c1, c2, c3, c4, c6, c7⟩, z1, z2, z3, z4, z6, z7⟩ := HA1.out.cells
  dsimp only at c0 c1 c2 c3 c4 c6 c7
  have hTw := HA1.out.hT
  have cN : wa1.cell? ⟨w.heap.size + 3, 0, none⟩ = some (.func (.func 44) #[] #[.pointer (some ⟨w.heap.size + 2, 0, none⟩)]) := by rw [Lib.cell_of_heap HA1.out.nb]; rfl
  go_upto_region 10 with fail
  have HP1 := Lib.hid (HA1.out.set (x' := (⟨1, 0, wrap64 (u1 : Int), 0, 0, 0, 0, ⟨#[]⟩⟩ : St)) 2 (.int .i64 (wrap64 (u1 : Int))) rfl)
  generalize wa1.setCell ⟨T, 2, none⟩ (.int .i64 (wrap64 (u1 : Int))) = W6 at HP1 ⊢
  clear c0 c1 c2 c3 c4 c6 c7 z1 z2 z3 z4 z6 z7 cN hTw
  clear HA1
  obtain ⟨⟨c0, c1, c2, c3, c4, c6, c7⟩, z1, z2, z3, z4, z6, z7⟩ := HP1.out.cells
  dsimp only at c0 c1 c2 c3 c4 c6 c7
  have hTw := HP1.out.hT
  have cN : W6.cell? ⟨w.heap.size + 3, 0, none⟩ = some (.func (.func 44) #[] #[.pointer (some ⟨w.heap.size + 2, 0, none⟩)]) := by rw [Lib.cell_of_heap HP1.out.nb]; rfl
  have HLo : Hid (loose (sp s.data.toList) = (⟨1, 0, wrap64 (u1 : Int), 0, 0, 0, 0, ⟨#[]⟩⟩ : St)) := Lib.hid (by
    rw [hlo]
    unfold looseK
    unfold Sp.z1
    rw [HU1.out, wz u1]
    rfl)
  have HT0 : Hid ((0 : Int) ≤ (0 : Int) ∧ (0 : Int) < 18446744073709551616) := Lib.hid ⟨t00, t01⟩
  clear hlo
  go_upto_region 15 with fail
  refine wp_region_lit ?_
  refine wpList_load_row rfl 26 _ rfl T rfl 26 (⟨1, 0, wrap64 (u1 : Int), 0, 0, 0, 0, ⟨#[]⟩⟩ : St).cells (0, 0) _ HP1.out.t Tryz.underlying26 rfl (hi8 (⟨1, 0, wrap64 (u1 : Int), 0, 0, 0, 0, ⟨#[]⟩⟩ : St)) ?_
  go_wp2_with fail
  by_cases hr : rightP (⟨1, 0, wrap64 (u1 : Int), 0, 0, 0, 0, ⟨#[]⟩⟩ : St)
  · refine (line_ok (⟨1, 0, wrap64 (u1 : Int), 0, 0, 0, 0, ⟨#[]⟩⟩ : St) hr HT0.out.1 HT0.out.2 _ HP1.out.tab).mono ?_
    rintro _ wl ⟨rfl, hbl⟩
    have HPf := Lib.hid (HP1.out.below hbl)
    by_cases hl : lineB (⟨1, 0, wrap64 (u1 : Int), 0, 0, 0, 0, ⟨#[]⟩⟩ : St) = s
    · have HE := Lib.hid (pE_ok HLo.out hr hl)
      have e1 : ((lineB (⟨1, 0, wrap64 (u1 : Int), 0, 0, 0, 0, ⟨#[]⟩⟩ : St)).toList == s.toList) = true := by rw [hl]; simp
      generalize lineB (⟨1, 0, wrap64 (u1 : Int), 0, 0, 0, 0, ⟨#[]⟩⟩ : St) = y at *
      clear hbl hr hl
      go_upto_region 18 with fail
      refine wp_region_lit ?_
      refine wpList_load_row rfl 26 _ rfl T rfl 26 (⟨1, 0, wrap64 (u1 : Int), 0, 0, 0, 0, ⟨#[]⟩⟩ : St).cells (0, 0) _ HPf.out.t Tryz.underlying26 rfl (hi8 (⟨1, 0, wrap64 (u1 : Int), 0, 0, 0, 0, ⟨#[]⟩⟩ : St)) ?_
      refine wpList_store_rowTo rfl 26 _ _ rfl rfl w.heap.size (⟨1, 0, wrap64 (u1 : Int), 0, 0, 0, 0, ⟨#[]⟩⟩ : St).cells rfl rfl 26 _ HPf.out.r (hi8 (⟨1, 0, wrap64 (u1 : Int), 0, 0, 0, 0, ⟨#[]⟩⟩ : St)) rfl (cells8_one _) ?_
      have HR' := setRow_heap wl w.heap.size _ (⟨1, 0, wrap64 (u1 : Int), 0, 0, 0, 0, ⟨#[]⟩⟩ : St).cells 26 (0, 0) HPf.out.r
      have hB9 : Below w.heap.size w (wl.setRow w.heap.size (⟨1, 0, wrap64 (u1 : Int), 0, 0, 0, 0, ⟨#[]⟩⟩ : St).cells) := ⟨HPf.out.b.os, HPf.out.b.tape, HPf.out.b.output, by simpa using HPf.out.b.size, fun i hi => (setRow_other _ _ _ _ (by omega)).trans (HPf.out.b.block i hi)⟩
      obtain ⟨W9, hW9⟩ : ∃ W9, W9 = wl.setRow w.heap.size (⟨1, 0, wrap64 (u1 : Int), 0, 0, 0, 0, ⟨#[]⟩⟩ : St).cells := ⟨_, rfl⟩
      rw [← hW9] at HR' hB9 ⊢
      clear hW9
      go_wp2_with fail
      exact bodyPost_ret (res8 _ _ w.heap.size (⟨1, 0, wrap64 (u1 : Int), 0, 0, 0, 0, ⟨#[]⟩⟩ : St) 0 rfl rfl HR') rfl ⟨HE.out.symm, hB9⟩
    · have HE := Lib.hid (pE_bad HLo.out fun h => hl h.2)
      have e1 : ((lineB (⟨1, 0, wrap64 (u1 : Int), 0, 0, 0, 0, ⟨#[]⟩⟩ : St)).toList == s.toList) = false := tl_ne hl
      generalize lineB (⟨1, 0, wrap64 (u1 : Int), 0, 0, 0, 0, ⟨#[]⟩⟩ : St) = y at *
      clear hbl hr hl
      go_upto_region 17 with fail
      refine wp_region_lit ?_
      refine wpList_step (fun K hK => ?_)
      go_simp
      refine hK _ _ ?_
      clear hK K
      refine wpList_store_rowTo rfl 26 _ _ rfl rfl w.heap.size St0.cells rfl rfl 26 _ HPf.out.r (hi8 St0) rfl (cells8_one _) ?_
      have HR' := setRow_heap wl w.heap.size _ St0.cells 26 (0, 0) HPf.out.r
      have hB9 : Below w.heap.size w (wl.setRow w.heap.size St0.cells) := ⟨HPf.out.b.os, HPf.out.b.tape, HPf.out.b.output, by simpa using HPf.out.b.size, fun i hi => (setRow_other _ _ _ _ (by omega)).trans (HPf.out.b.block i hi)⟩
      obtain ⟨W9, hW9⟩ : ∃ W9, W9 = wl.setRow w.heap.size St0.cells := ⟨_, rfl⟩
      rw [← hW9] at HR' hB9 ⊢
      clear hW9
      go_wp2_with fail
      exact bodyPost_ret (res8 _ _ w.heap.size St0 3 rfl rfl HR') rfl ⟨HE.out.symm, hB9⟩
  · refine (line_bad (⟨1, 0, wrap64 (u1 : Int), 0, 0, 0, 0, ⟨#[]⟩⟩ : St) hr _).mono ?_
    rintro _ wl ⟨rfl, hbl⟩
    have HPf := Lib.hid (HP1.out.below hbl)
    have HE := Lib.hid (pE_bad HLo.out fun h => hr h.1)
    clear hbl hr
    go_upto_region 17 with fail
    refine wp_region_lit ?_
    refine wpList_step (fun K hK => ?_)
    go_simp
    refine hK _ _ ?_
    clear hK K
    refine wpList_store_rowTo rfl 26 _ _ rfl rfl w.heap.size St0.cells rfl rfl 26 _ HPf.out.r (hi8 St0) rfl (cells8_one _) ?_
    have HR' := setRow_heap wl w.heap.size _ St0.cells 26 (0, 0) HPf.out.r
    have hB9 : Below w.heap.size w (wl.setRow w.heap.size St0.cells) := ⟨HPf.out.b.os, HPf.out.b.tape, HPf.out.b.output, by simpa using HPf.out.b.size, fun i hi => (setRow_other _ _ _ _ (by omega)).trans (HPf.out.b.block i hi)⟩
    obtain ⟨W9, hW9⟩ : ∃ W9, W9 = wl.setRow w.heap.size St0.cells := ⟨_, rfl⟩
    rw [← hW9] at HR' hB9 ⊢
    clear hW9
    go_wp2_with fail
    exact bodyPost_ret (res8 _ _ w.heap.size St0 3 rfl rfl HR') rfl ⟨HE.out.symm, hB9⟩

set_option maxHeartbeats 2000000 in
set_option maxRecDepth 100000 in
theorem parse_2 (s : ByteArray) (hs : s.size ≤ 2000) (hk : kL (hd (spB s)).data.toList = 2) (w : World) (ht : Dec.Tab w) (hE : ErrsLie w) : Calls Tryz.prog 13 #[.string s] w fun e w' => e = pE s ∧ Below w.heap.size w w' := by
  have hlo := loose_k hk
  have HL1 := Lib.hid (show (spB s).length ≤ 2001 by have := spB_len s; omega)
  have HSz := Lib.hid (fun i => Nat.le_trans (spB_sz s i) hs)
  have HF := Lib.hid (errs_far hE)
  have HS := Lib.hid hs
  have HT := Lib.hid (And.intro ht hE)
  have HKi := Lib.hid (kind_any (hd (spB s)))
  rw [hk] at HKi
  clear hk ht hE hs
  go_enter Tryz.func13, Tryz.ntmps13
  go_wp2_with fail
  refine (split_any s _ (by have := HS.out; omega)).mono ?_
  rintro _ w1 ⟨rfl, hw1⟩
  have hz1 : w1.heap.size = w.heap.size + 2 := by rw [hw1]; simp
  have hr1 : w1.heap[w.heap.size]? = some (.cells St0.cells 26 (0, 0)) := by rw [hw1, Below.heap_alloc _ _ _ (by simp)]; exact heap_alloc_new _ _
  have hg1 : w1.heap[w.heap.size + 1]? = some (.cells ((spB s).map Value.string).toArray 9 (0, 0)) := by
    rw [hw1]
    have := heap_alloc_new (w.alloc (.cells St0.cells 26)) (.cells ((spB s).map Value.string).toArray 9)
    rw [World.size_alloc] at this
    exact this
  have hb1 : Below w.heap.size w w1 := by rw [hw1]; exact ((Below.refl _ _).alloc (Nat.le_refl _) _).alloc (by simp) _
  simp only [World.size_alloc]
  clear hw1
  have HW1 := Lib.hid (And.intro hr1 (And.intro hg1 hb1))
  have HZ1 := Lib.hid hz1
  clear hr1 hg1 hb1 hz1
  go_upto_region 4 with fail
  rw [HZ1.out]
  have HY3 := Lib.hid (PY.start HZ1.out HW1.out.1 HW1.out.2.1 HW1.out.2.2 HT.out.1 HT.out.2)
  rw [show w.heap.size + 2 + 1 = w.heap.size + 3 from rfl]
  generalize (w1.alloc (.cells #[.slice (some ⟨w.heap.size + 1, 0, none⟩) (spB s).length (spB s).length] 38)).alloc (.cells #[.func (.func 44) #[] #[.pointer (some ⟨w.heap.size + 2, 0, none⟩)]] 65) = W3 at HY3 ⊢
  have cN : W3.cell? ⟨w.heap.size + 3, 0, none⟩ = some (.func (.func 44) #[] #[.pointer (some ⟨w.heap.size + 2, 0, none⟩)]) := by rw [Lib.cell_of_heap HY3.out.nb]; rfl
  clear HW1 HZ1
  go_wp2_with fail
  refine (next_any (w.heap.size + 2) (w.heap.size + 1) (spB s) (by have := HL1.out; omega) W3 HY3.out.nx).mono ?_
  rintro _ w4 ⟨rfl, hn4, ho4⟩
  have HY4 := Lib.hid (HY3.out.oh ho4 hn4)
  clear hn4 ho4 cN HY3
  go_wp2_with fail
  refine (HKi.out _).mono ?_
  rintro _ w5 ⟨rfl, hw5⟩
  obtain rfl := hw5.symm
  go_upto_region 5 with fail
  have HP0 := Lib.hid (HY4.out.px (⟨2, 0, 0, 0, 0, 0, 0, ⟨#[]⟩⟩ : St))
  rw [show (spB s).tail = (spB s).drop 1 from List.drop_one.symm] at HP0
  generalize hT : w4.heap.size = T at HP0 ⊢
  unfold St.cells at HP0
  dsimp only at HP0
  generalize w4.alloc (.cells #[.int .i64 2, .int .i64 0, .int .i64 0, .int .i64 0, .int .i64 0, .int .u64 0, .int .u64 0, .string ⟨#[]⟩] 26) = W5 at HP0 ⊢
  clear hT HY4
  obtain ⟨⟨c0, c1, c2, c3, c4, c6, c7⟩, z1, z2, z3, z4, z6, z7⟩ := HP0.out.cells
  dsimp only at c0 c1 c2 c3 c4 c6 c7
  have hTw := HP0.out.hT
  have cN : W5.cell? ⟨w.heap.size + 3, 0, none⟩ = some (.func (.func 44) #[] #[.pointer (some ⟨w.heap.size + 2, 0, none⟩)]) := by rw [Lib.cell_of_heap HP0.out.nb]; rfl
  go_wp2_with fail
  refine (parts_2 _).mono ?_
  rintro _ w6 ⟨rfl, hw6⟩
  obtain rfl := hw6.symm
  go_wp2_with fail
  refine (num_next (w.heap.size + 3) (w.heap.size + 2) (w.heap.size + 1) ((spB s).drop 1) (by rw [List.length_drop]; have := HL1.out; omega) (by rw [hd_drop]; have := HSz.out 1; omega) _ HP0.out.nx HP0.out.nb HP0.out.errs HF.out).mono ?_
  rintro _ wa1 ⟨rfl, hn1, ho1⟩
  rw [List.tail_drop] at hn1
  rw [hd_drop]
  have HA1 := Lib.hid (HP0.out.oh ho1 hn1)
  obtain ⟨u1, hu1⟩ : ∃ u, numP ((spB s).getD 1 ⟨#[]⟩).data.toList = u := ⟨_, rfl⟩
  have HU1 := Lib.hid hu1
  rw [hu1]
  clear hn1 ho1 hu1 hw6
  clear c0 c1 c2 c3 c4 c6 c7 z1 z2 z3 z4 z6 z7 cN hTw
  obtain ⟨⟨c0, c1, c2, c3, c4, c6, c7⟩, z1, z2, z3, z4, z6, z7⟩ := HA1.out.cells
  dsimp only at c0 c1 c2 c3 c4 c6 c7
  have hTw := HA1.out.hT
  have cN : wa1.cell? ⟨w.heap.size + 3, 0, none⟩ = some (.func (.func 44) #[] #[.pointer (some ⟨w.heap.size + 2, 0, none⟩)]) := by rw [Lib.cell_of_heap HA1.out.nb]; rfl
  go_upto_region 8 with fail
  have HP1 := Lib.hid (HA1.out.set (x' := (⟨2, wrap64 (u1 : Int), 0, 0, 0, 0, 0, ⟨#[]⟩⟩ : St)) 1 (.int .i64 (wrap64 (u1 : Int))) rfl)
  generalize wa1.setCell ⟨T, 1, none⟩ (.int .i64 (wrap64 (u1 : Int))) = W6 at HP1 ⊢
  clear c0 c1 c2 c3 c4 c6 c7 z1 z2 z3 z4 z6 z7 cN hTw
  clear HA1
  obtain ⟨⟨c0, c1, c2, c3, c4, c6, c7⟩, z1, z2, z3, z4, z6, z7⟩ := HP1.out.cells
  dsimp only at c0 c1 c2 c3 c4 c6 c7
  have hTw := HP1.out.hT
  have cN : W6.cell? ⟨w.heap.size + 3, 0, none⟩ = some (.func (.func 44) #[] #[.pointer (some ⟨w.heap.size + 2, 0, none⟩)]) := by rw [Lib.cell_of_heap HP1.out.nb]; rfl
  have HLo : Hid (loose (sp s.data.toList) = (⟨2, wrap64 (u1 : Int), 0, 0, 0, 0, 0, ⟨#[]⟩⟩ : St)) := Lib.hid (by
    rw [hlo]
    unfold looseK
    unfold Sp.z1
    rw [HU1.out, wz u1]
    rfl)
  have HT0 : Hid ((0 : Int) ≤ (0 : Int) ∧ (0 : Int) < 18446744073709551616) := Lib.hid ⟨t00, t01⟩
  clear hlo
  go_upto_region 15 with fail
  refine wp_region_lit ?_
  refine wpList_load_row rfl 26 _ rfl T rfl 26 (⟨2, wrap64 (u1 : Int), 0, 0, 0, 0, 0, ⟨#[]⟩⟩ : St).cells (0, 0) _ HP1.out.t Tryz.underlying26 rfl (hi8 (⟨2, wrap64 (u1 : Int), 0, 0, 0, 0, 0, ⟨#[]⟩⟩ : St)) ?_
  go_wp2_with fail
  by_cases hr : rightP (⟨2, wrap64 (u1 : Int), 0, 0, 0, 0, 0, ⟨#[]⟩⟩ : St)
  · refine (line_ok (⟨2, wrap64 (u1 : Int), 0, 0, 0, 0, 0, ⟨#[]⟩⟩ : St) hr HT0.out.1 HT0.out.2 _ HP1.out.tab).mono ?_
    rintro _ wl ⟨rfl, hbl⟩
    have HPf := Lib.hid (HP1.out.below hbl)
    by_cases hl : lineB (⟨2, wrap64 (u1 : Int), 0, 0, 0, 0, 0, ⟨#[]⟩⟩ : St) = s
    · have HE := Lib.hid (pE_ok HLo.out hr hl)
      have e1 : ((lineB (⟨2, wrap64 (u1 : Int), 0, 0, 0, 0, 0, ⟨#[]⟩⟩ : St)).toList == s.toList) = true := by rw [hl]; simp
      generalize lineB (⟨2, wrap64 (u1 : Int), 0, 0, 0, 0, 0, ⟨#[]⟩⟩ : St) = y at *
      clear hbl hr hl
      go_upto_region 18 with fail
      refine wp_region_lit ?_
      refine wpList_load_row rfl 26 _ rfl T rfl 26 (⟨2, wrap64 (u1 : Int), 0, 0, 0, 0, 0, ⟨#[]⟩⟩ : St).cells (0, 0) _ HPf.out.t Tryz.underlying26 rfl (hi8 (⟨2, wrap64 (u1 : Int), 0, 0, 0, 0, 0, ⟨#[]⟩⟩ : St)) ?_
      refine wpList_store_rowTo rfl 26 _ _ rfl rfl w.heap.size (⟨2, wrap64 (u1 : Int), 0, 0, 0, 0, 0, ⟨#[]⟩⟩ : St).cells rfl rfl 26 _ HPf.out.r (hi8 (⟨2, wrap64 (u1 : Int), 0, 0, 0, 0, 0, ⟨#[]⟩⟩ : St)) rfl (cells8_one _) ?_
      have HR' := setRow_heap wl w.heap.size _ (⟨2, wrap64 (u1 : Int), 0, 0, 0, 0, 0, ⟨#[]⟩⟩ : St).cells 26 (0, 0) HPf.out.r
      have hB9 : Below w.heap.size w (wl.setRow w.heap.size (⟨2, wrap64 (u1 : Int), 0, 0, 0, 0, 0, ⟨#[]⟩⟩ : St).cells) := ⟨HPf.out.b.os, HPf.out.b.tape, HPf.out.b.output, by simpa using HPf.out.b.size, fun i hi => (setRow_other _ _ _ _ (by omega)).trans (HPf.out.b.block i hi)⟩
      obtain ⟨W9, hW9⟩ : ∃ W9, W9 = wl.setRow w.heap.size (⟨2, wrap64 (u1 : Int), 0, 0, 0, 0, 0, ⟨#[]⟩⟩ : St).cells := ⟨_, rfl⟩
      rw [← hW9] at HR' hB9 ⊢
      clear hW9
      go_wp2_with fail
      exact bodyPost_ret (res8 _ _ w.heap.size (⟨2, wrap64 (u1 : Int), 0, 0, 0, 0, 0, ⟨#[]⟩⟩ : St) 0 rfl rfl HR') rfl ⟨HE.out.symm, hB9⟩
    · have HE := Lib.hid (pE_bad HLo.out fun h => hl h.2)
      have e1 : ((lineB (⟨2, wrap64 (u1 : Int), 0, 0, 0, 0, 0, ⟨#[]⟩⟩ : St)).toList == s.toList) = false := tl_ne hl
      generalize lineB (⟨2, wrap64 (u1 : Int), 0, 0, 0, 0, 0, ⟨#[]⟩⟩ : St) = y at *
      clear hbl hr hl
      go_upto_region 17 with fail
      refine wp_region_lit ?_
      refine wpList_step (fun K hK => ?_)
      go_simp
      refine hK _ _ ?_
      clear hK K
      refine wpList_store_rowTo rfl 26 _ _ rfl rfl w.heap.size St0.cells rfl rfl 26 _ HPf.out.r (hi8 St0) rfl (cells8_one _) ?_
      have HR' := setRow_heap wl w.heap.size _ St0.cells 26 (0, 0) HPf.out.r
      have hB9 : Below w.heap.size w (wl.setRow w.heap.size St0.cells) := ⟨HPf.out.b.os, HPf.out.b.tape, HPf.out.b.output, by simpa using HPf.out.b.size, fun i hi => (setRow_other _ _ _ _ (by omega)).trans (HPf.out.b.block i hi)⟩
      obtain ⟨W9, hW9⟩ : ∃ W9, W9 = wl.setRow w.heap.size St0.cells := ⟨_, rfl⟩
      rw [← hW9] at HR' hB9 ⊢
      clear hW9
      go_wp2_with fail
      exact bodyPost_ret (res8 _ _ w.heap.size St0 3 rfl rfl HR') rfl ⟨HE.out.symm, hB9⟩
  · refine (line_bad (⟨2, wrap64 (u1 : Int), 0, 0, 0, 0, 0, ⟨#[]⟩⟩ : St) hr _).mono ?_
    rintro _ wl ⟨rfl, hbl⟩
    have HPf := Lib.hid (HP1.out.below hbl)
    have HE := Lib.hid (pE_bad HLo.out fun h => hr h.1)
    clear hbl hr
    go_upto_region 17 with fail
    refine wp_region_lit ?_
    refine wpList_step (fun K hK => ?_)
    go_simp
    refine hK _ _ ?_
    clear hK K
    refine wpList_store_rowTo rfl 26 _ _ rfl rfl w.heap.size St0.cells rfl rfl 26 _ HPf.out.r (hi8 St0) rfl (cells8_one _) ?_
    have HR' := setRow_heap wl w.heap.size _ St0.cells 26 (0, 0) HPf.out.r
    have hB9 : Below w.heap.size w (wl.setRow w.heap.size St0.cells) := ⟨HPf.out.b.os, HPf.out.b.tape, HPf.out.b.output, by simpa using HPf.out.b.size, fun i hi => (setRow_other _ _ _ _ (by omega)).trans (HPf.out.b.block i hi)⟩
    obtain ⟨W9, hW9⟩ : ∃ W9, W9 = wl.setRow w.heap.size St0.cells := ⟨_, rfl⟩
    rw [← hW9] at HR' hB9 ⊢
    clear hW9
    go_wp2_with fail
    exact bodyPost_ret (res8 _ _ w.heap.size St0 3 rfl rfl HR') rfl ⟨HE.out.symm, hB9⟩

set_option maxHeartbeats 2000000 in
set_option maxRecDepth 100000 in
theorem parse_3 (s : ByteArray) (hs : s.size ≤ 2000) (hk : kL (hd (spB s)).data.toList = 3) (w : World) (ht : Dec.Tab w) (hE : ErrsLie w) : Calls Tryz.prog 13 #[.string s] w fun e w' => e = pE s ∧ Below w.heap.size w w' := by
  have hlo := loose_k hk
  have HL1 := Lib.hid (show (spB s).length ≤ 2001 by have := spB_len s; omega)
  have HSz := Lib.hid (fun i => Nat.le_trans (spB_sz s i) hs)
  have HF := Lib.hid (errs_far hE)
  have HS := Lib.hid hs
  have HT := Lib.hid (And.intro ht hE)
  have HKi := Lib.hid (kind_any (hd (spB s)))
  rw [hk] at HKi
  clear hk ht hE hs
  go_enter Tryz.func13, Tryz.ntmps13
  go_wp2_with fail
  refine (split_any s _ (by have := HS.out; omega)).mono ?_
  rintro _ w1 ⟨rfl, hw1⟩
  have hz1 : w1.heap.size = w.heap.size + 2 := by rw [hw1]; simp
  have hr1 : w1.heap[w.heap.size]? = some (.cells St0.cells 26 (0, 0)) := by rw [hw1, Below.heap_alloc _ _ _ (by simp)]; exact heap_alloc_new _ _
  have hg1 : w1.heap[w.heap.size + 1]? = some (.cells ((spB s).map Value.string).toArray 9 (0, 0)) := by
    rw [hw1]
    have := heap_alloc_new (w.alloc (.cells St0.cells 26)) (.cells ((spB s).map Value.string).toArray 9)
    rw [World.size_alloc] at this
    exact this
  have hb1 : Below w.heap.size w w1 := by rw [hw1]; exact ((Below.refl _ _).alloc (Nat.le_refl _) _).alloc (by simp) _
  simp only [World.size_alloc]
  clear hw1
  have HW1 := Lib.hid (And.intro hr1 (And.intro hg1 hb1))
  have HZ1 := Lib.hid hz1
  clear hr1 hg1 hb1 hz1
  go_upto_region 4 with fail
  rw [HZ1.out]
  have HY3 := Lib.hid (PY.start HZ1.out HW1.out.1 HW1.out.2.1 HW1.out.2.2 HT.out.1 HT.out.2)
  rw [show w.heap.size + 2 + 1 = w.heap.size + 3 from rfl]
  generalize (w1.alloc (.cells #[.slice (some ⟨w.heap.size + 1, 0, none⟩) (spB s).length (spB s).length] 38)).alloc (.cells #[.func (.func 44) #[] #[.pointer (some ⟨w.heap.size + 2, 0, none⟩)]] 65) = W3 at HY3 ⊢
  have cN : W3.cell? ⟨w.heap.size + 3, 0, none⟩ = some (.func (.func 44) #[] #[.pointer (some ⟨w.heap.size + 2, 0, none⟩)]) := by rw [Lib.cell_of_heap HY3.out.nb]; rfl
  clear HW1 HZ1
  go_wp2_with fail
  refine (next_any (w.heap.size + 2) (w.heap.size + 1) (spB s) (by have := HL1.out; omega) W3 HY3.out.nx).mono ?_
  rintro _ w4 ⟨rfl, hn4, ho4⟩
  have HY4 := Lib.hid (HY3.out.oh ho4 hn4)
  clear hn4 ho4 cN HY3
  go_wp2_with fail
  refine (HKi.out _).mono ?_
  rintro _ w5 ⟨rfl, hw5⟩
  obtain rfl := hw5.symm
  go_upto_region 5 with fail
  have HP0 := Lib.hid (HY4.out.px (⟨3, 0, 0, 0, 0, 0, 0, ⟨#[]⟩⟩ : St))
  rw [show (spB s).tail = (spB s).drop 1 from List.drop_one.symm] at HP0
  generalize hT : w4.heap.size = T at HP0 ⊢
  unfold St.cells at HP0
  dsimp only at HP0
  generalize w4.alloc (.cells #[.int .i64 3, .int .i64 0, .int .i64 0, .int .i64 0, .int .i64 0, .int .u64 0, .int .u64 0, .string ⟨#[]⟩] 26) = W5 at HP0 ⊢
  clear hT HY4
  obtain ⟨⟨c0, c1, c2, c3, c4, c6, c7⟩, z1, z2, z3, z4, z6, z7⟩ := HP0.out.cells
  dsimp only at c0 c1 c2 c3 c4 c6 c7
  have hTw := HP0.out.hT
  have cN : W5.cell? ⟨w.heap.size + 3, 0, none⟩ = some (.func (.func 44) #[] #[.pointer (some ⟨w.heap.size + 2, 0, none⟩)]) := by rw [Lib.cell_of_heap HP0.out.nb]; rfl
  go_wp2_with fail
  refine (parts_3 _).mono ?_
  rintro _ w6 ⟨rfl, hw6⟩
  obtain rfl := hw6.symm
  go_wp2_with fail
  refine (num_next (w.heap.size + 3) (w.heap.size + 2) (w.heap.size + 1) ((spB s).drop 1) (by rw [List.length_drop]; have := HL1.out; omega) (by rw [hd_drop]; have := HSz.out 1; omega) _ HP0.out.nx HP0.out.nb HP0.out.errs HF.out).mono ?_
  rintro _ wa1 ⟨rfl, hn1, ho1⟩
  rw [List.tail_drop] at hn1
  rw [hd_drop]
  have HA1 := Lib.hid (HP0.out.oh ho1 hn1)
  obtain ⟨u1, hu1⟩ : ∃ u, numP ((spB s).getD 1 ⟨#[]⟩).data.toList = u := ⟨_, rfl⟩
  have HU1 := Lib.hid hu1
  rw [hu1]
  clear hn1 ho1 hu1 hw6
  clear c0 c1 c2 c3 c4 c6 c7 z1 z2 z3 z4 z6 z7 cN hTw
  obtain ⟨⟨c0, c1, c2, c3, c4, c6, c7⟩, z1, z2, z3, z4, z6, z7⟩ := HA1.out.cells
  dsimp only at c0 c1 c2 c3 c4 c6 c7
  have hTw := HA1.out.hT
  have cN : wa1.cell? ⟨w.heap.size + 3, 0, none⟩ = some (.func (.func 44) #[] #[.pointer (some ⟨w.heap.size + 2, 0, none⟩)]) := by rw [Lib.cell_of_heap HA1.out.nb]; rfl
  go_upto_region 12 with fail
  have HP1 := Lib.hid (HA1.out.set (x' := (⟨3, 0, 0, wrap64 (u1 : Int), 0, 0, 0, ⟨#[]⟩⟩ : St)) 3 (.int .i64 (wrap64 (u1 : Int))) rfl)
  generalize wa1.setCell ⟨T, 3, none⟩ (.int .i64 (wrap64 (u1 : Int))) = W6 at HP1 ⊢
  clear c0 c1 c2 c3 c4 c6 c7 z1 z2 z3 z4 z6 z7 cN hTw
  clear HA1
  obtain ⟨⟨c0, c1, c2, c3, c4, c6, c7⟩, z1, z2, z3, z4, z6, z7⟩ := HP1.out.cells
  dsimp only at c0 c1 c2 c3 c4 c6 c7
  have hTw := HP1.out.hT
  have cN : W6.cell? ⟨w.heap.size + 3, 0, none⟩ = some (.func (.func 44) #[] #[.pointer (some ⟨w.heap.size + 2, 0, none⟩)]) := by rw [Lib.cell_of_heap HP1.out.nb]; rfl
  go_wp2_with fail
  refine (num_next (w.heap.size + 3) (w.heap.size + 2) (w.heap.size + 1) ((spB s).drop 2) (by rw [List.length_drop]; have := HL1.out; omega) (by rw [hd_drop]; have := HSz.out 2; omega) _ HP1.out.nx HP1.out.nb HP1.out.errs HF.out).mono ?_
  rintro _ wa2 ⟨rfl, hn2, ho2⟩
  rw [List.tail_drop] at hn2
  rw [hd_drop]
  have HA2 := Lib.hid (HP1.out.oh ho2 hn2)
  obtain ⟨u2, hu2⟩ : ∃ u, numP ((spB s).getD 2 ⟨#[]⟩).data.toList = u := ⟨_, rfl⟩
  have HU2 := Lib.hid hu2
  rw [hu2]
  clear hn2 ho2 hu2
  clear c0 c1 c2 c3 c4 c6 c7 z1 z2 z3 z4 z6 z7 cN hTw
  obtain ⟨⟨c0, c1, c2, c3, c4, c6, c7⟩, z1, z2, z3, z4, z6, z7⟩ := HA2.out.cells
  dsimp only at c0 c1 c2 c3 c4 c6 c7
  have hTw := HA2.out.hT
  have cN : wa2.cell? ⟨w.heap.size + 3, 0, none⟩ = some (.func (.func 44) #[] #[.pointer (some ⟨w.heap.size + 2, 0, none⟩)]) := by rw [Lib.cell_of_heap HA2.out.nb]; rfl
  go_upto_region 13 with fail
  have HP2 := Lib.hid (HA2.out.set (x' := (⟨3, 0, 0, wrap64 (u1 : Int), wrap64 (u2 : Int), 0, 0, ⟨#[]⟩⟩ : St)) 4 (.int .i64 (wrap64 (u2 : Int))) rfl)
  generalize wa2.setCell ⟨T, 4, none⟩ (.int .i64 (wrap64 (u2 : Int))) = W7 at HP2 ⊢
  clear c0 c1 c2 c3 c4 c6 c7 z1 z2 z3 z4 z6 z7 cN hTw
  clear HA2
  obtain ⟨⟨c0, c1, c2, c3, c4, c6, c7⟩, z1, z2, z3, z4, z6, z7⟩ := HP2.out.cells
  dsimp only at c0 c1 c2 c3 c4 c6 c7
  have hTw := HP2.out.hT
  have cN : W7.cell? ⟨w.heap.size + 3, 0, none⟩ = some (.func (.func 44) #[] #[.pointer (some ⟨w.heap.size + 2, 0, none⟩)]) := by rw [Lib.cell_of_heap HP2.out.nb]; rfl
  go_wp2_with fail
  refine (num_next (w.heap.size + 3) (w.heap.size + 2) (w.heap.size + 1) ((spB s).drop 3) (by rw [List.length_drop]; have := HL1.out; omega) (by rw [hd_drop]; have := HSz.out 3; omega) _ HP2.out.nx HP2.out.nb HP2.out.errs HF.out).mono ?_
  rintro _ wa3 ⟨rfl, hn3, ho3⟩
  rw [List.tail_drop] at hn3
  rw [hd_drop]
  have HA3 := Lib.hid (HP2.out.oh ho3 hn3)
  obtain ⟨u3, hu3⟩ : ∃ u, numP ((spB s).getD 3 ⟨#[]⟩).data.toList = u := ⟨_, rfl⟩
  have HU3 := Lib.hid hu3
  rw [hu3]
  clear hn3 ho3 hu3
  clear c0 c1 c2 c3 c4 c6 c7 z1 z2 z3 z4 z6 z7 cN hTw
  obtain ⟨⟨c0, c1, c2, c3, c4, c6, c7⟩, z1, z2, z3, z4, z6, z7⟩ := HA3.out.cells
  dsimp only at c0 c1 c2 c3 c4 c6 c7
  have hTw := HA3.out.hT
  have cN : wa3.cell? ⟨w.heap.size + 3, 0, none⟩ = some (.func (.func 44) #[] #[.pointer (some ⟨w.heap.size + 2, 0, none⟩)]) := by rw [Lib.cell_of_heap HA3.out.nb]; rfl
  go_upto_region 14 with fail
  have HP3 := Lib.hid (HA3.out.set (x' := (⟨3, 0, 0, wrap64 (u1 : Int), wrap64 (u2 : Int), 0, (u3 : Int), ⟨#[]⟩⟩ : St)) 6 (.int .u64 (u3 : Int)) rfl)
  generalize wa3.setCell ⟨T, 6, none⟩ (.int .u64 (u3 : Int)) = W8 at HP3 ⊢
  clear c0 c1 c2 c3 c4 c6 c7 z1 z2 z3 z4 z6 z7 cN hTw
  clear HA3
  obtain ⟨⟨c0, c1, c2, c3, c4, c6, c7⟩, z1, z2, z3, z4, z6, z7⟩ := HP3.out.cells
  dsimp only at c0 c1 c2 c3 c4 c6 c7
  have hTw := HP3.out.hT
  have cN : W8.cell? ⟨w.heap.size + 3, 0, none⟩ = some (.func (.func 44) #[] #[.pointer (some ⟨w.heap.size + 2, 0, none⟩)]) := by rw [Lib.cell_of_heap HP3.out.nb]; rfl
  go_wp2_with fail
  refine (next_any (w.heap.size + 2) (w.heap.size + 1) ((spB s).drop 4) (by rw [List.length_drop]; have := HL1.out; omega) _ HP3.out.nx).mono ?_
  rintro _ wa40 ⟨rfl, hn4, ho4⟩
  rw [List.tail_drop] at hn4
  rw [hd_drop]
  have HA40 := Lib.hid (HP3.out.oh ho4 hn4)
  clear hn4 ho4
  clear c0 c1 c2 c3 c4 c6 c7 z1 z2 z3 z4 z6 z7 cN hTw
  obtain ⟨⟨c0, c1, c2, c3, c4, c6, c7⟩, z1, z2, z3, z4, z6, z7⟩ := HA40.out.cells
  dsimp only at c0 c1 c2 c3 c4 c6 c7
  have hTw := HA40.out.hT
  have cN : wa40.cell? ⟨w.heap.size + 3, 0, none⟩ = some (.func (.func 44) #[] #[.pointer (some ⟨w.heap.size + 2, 0, none⟩)]) := by rw [Lib.cell_of_heap HA40.out.nb]; rfl
  go_wp2_with fail
  refine (unhex_any ((spB s).getD 4 ⟨#[]⟩) (by have := HSz.out 4; omega) _).mono ?_
  rintro _ wa4 ⟨rfl, hb4⟩
  have HA4 := Lib.hid (HA40.out.below hb4)
  obtain ⟨y4, hy4⟩ : ∃ y : ByteArray, (⟨(unhexL ((spB s).getD 4 ⟨#[]⟩).data.toList).toArray⟩ : ByteArray) = y := ⟨_, rfl⟩
  have HY4 := Lib.hid hy4
  rw [hy4]
  clear hb4 hy4
  clear c0 c1 c2 c3 c4 c6 c7 z1 z2 z3 z4 z6 z7 cN hTw
  obtain ⟨⟨c0, c1, c2, c3, c4, c6, c7⟩, z1, z2, z3, z4, z6, z7⟩ := HA4.out.cells
  dsimp only at c0 c1 c2 c3 c4 c6 c7
  have hTw := HA4.out.hT
  have cN : wa4.cell? ⟨w.heap.size + 3, 0, none⟩ = some (.func (.func 44) #[] #[.pointer (some ⟨w.heap.size + 2, 0, none⟩)]) := by rw [Lib.cell_of_heap HA4.out.nb]; rfl
  go_upto_region 15 with fail
  have HP4 := Lib.hid (HA4.out.set (x' := (⟨3, 0, 0, wrap64 (u1 : Int), wrap64 (u2 : Int), 0, (u3 : Int), y4⟩ : St)) 7 (.string y4) rfl)
  generalize wa4.setCell ⟨T, 7, none⟩ (.string y4) = W9 at HP4 ⊢
  clear c0 c1 c2 c3 c4 c6 c7 z1 z2 z3 z4 z6 z7 cN hTw
  clear HA4
  obtain ⟨⟨c0, c1, c2, c3, c4, c6, c7⟩, z1, z2, z3, z4, z6, z7⟩ := HP4.out.cells
  dsimp only at c0 c1 c2 c3 c4 c6 c7
  have hTw := HP4.out.hT
  have cN : W9.cell? ⟨w.heap.size + 3, 0, none⟩ = some (.func (.func 44) #[] #[.pointer (some ⟨w.heap.size + 2, 0, none⟩)]) := by rw [Lib.cell_of_heap HP4.out.nb]; rfl
  have HLo : Hid (loose (sp s.data.toList) = (⟨3, 0, 0, wrap64 (u1 : Int), wrap64 (u2 : Int), 0, (u3 : Int), y4⟩ : St)) := Lib.hid (by
    rw [hlo]
    unfold looseK
    unfold Sp.z1
    rw [HU1.out, HU2.out, HU3.out, HY4.out, wz u1, wz u2]
    rfl)
  have HT0 : Hid ((0 : Int) ≤ ((u3 : Int) : Int) ∧ ((u3 : Int) : Int) < 18446744073709551616) := Lib.hid ⟨by omega, by have := numP_lt ((spB s).getD 3 ⟨#[]⟩).data.toList; rw [HU3.out] at this; omega⟩
  clear hlo
  refine wp_region_lit ?_
  refine wpList_load_row rfl 26 _ rfl T rfl 26 (⟨3, 0, 0, wrap64 (u1 : Int), wrap64 (u2 : Int), 0, (u3 : Int), y4⟩ : St).cells (0, 0) _ HP4.out.t Tryz.underlying26 rfl (hi8 (⟨3, 0, 0, wrap64 (u1 : Int), wrap64 (u2 : Int), 0, (u3 : Int), y4⟩ : St)) ?_
  go_wp2_with fail
  by_cases hr : rightP (⟨3, 0, 0, wrap64 (u1 : Int), wrap64 (u2 : Int), 0, (u3 : Int), y4⟩ : St)
  · refine (line_ok (⟨3, 0, 0, wrap64 (u1 : Int), wrap64 (u2 : Int), 0, (u3 : Int), y4⟩ : St) hr HT0.out.1 HT0.out.2 _ HP4.out.tab).mono ?_
    rintro _ wl ⟨rfl, hbl⟩
    have HPf := Lib.hid (HP4.out.below hbl)
    by_cases hl : lineB (⟨3, 0, 0, wrap64 (u1 : Int), wrap64 (u2 : Int), 0, (u3 : Int), y4⟩ : St) = s
    · have HE := Lib.hid (pE_ok HLo.out hr hl)
      have e1 : ((lineB (⟨3, 0, 0, wrap64 (u1 : Int), wrap64 (u2 : Int), 0, (u3 : Int), y4⟩ : St)).toList == s.toList) = true := by rw [hl]; simp
      generalize lineB (⟨3, 0, 0, wrap64 (u1 : Int), wrap64 (u2 : Int), 0, (u3 : Int), y4⟩ : St) = y at *
      clear hbl hr hl
      go_upto_region 18 with fail
      refine wp_region_lit ?_
      refine wpList_load_row rfl 26 _ rfl T rfl 26 (⟨3, 0, 0, wrap64 (u1 : Int), wrap64 (u2 : Int), 0, (u3 : Int), y4⟩ : St).cells (0, 0) _ HPf.out.t Tryz.underlying26 rfl (hi8 (⟨3, 0, 0, wrap64 (u1 : Int), wrap64 (u2 : Int), 0, (u3 : Int), y4⟩ : St)) ?_
      refine wpList_store_rowTo rfl 26 _ _ rfl rfl w.heap.size (⟨3, 0, 0, wrap64 (u1 : Int), wrap64 (u2 : Int), 0, (u3 : Int), y4⟩ : St).cells rfl rfl 26 _ HPf.out.r (hi8 (⟨3, 0, 0, wrap64 (u1 : Int), wrap64 (u2 : Int), 0, (u3 : Int), y4⟩ : St)) rfl (cells8_one _) ?_
      have HR' := setRow_heap wl w.heap.size _ (⟨3, 0, 0, wrap64 (u1 : Int), wrap64 (u2 : Int), 0, (u3 : Int), y4⟩ : St).cells 26 (0, 0) HPf.out.r
      have hB9 : Below w.heap.size w (wl.setRow w.heap.size (⟨3, 0, 0, wrap64 (u1 : Int), wrap64 (u2 : Int), 0, (u3 : Int), y4⟩ : St).cells) := ⟨HPf.out.b.os, HPf.out.b.tape, HPf.out.b.output, by simpa using HPf.out.b.size, fun i hi => (setRow_other _ _ _ _ (by omega)).trans (HPf.out.b.block i hi)⟩
      obtain ⟨W9, hW9⟩ : ∃ W9, W9 = wl.setRow w.heap.size (⟨3, 0, 0, wrap64 (u1 : Int), wrap64 (u2 : Int), 0, (u3 : Int), y4⟩ : St).cells := ⟨_, rfl⟩
      rw [← hW9] at HR' hB9 ⊢
      clear hW9
      go_wp2_with fail
      exact bodyPost_ret (res8 _ _ w.heap.size (⟨3, 0, 0, wrap64 (u1 : Int), wrap64 (u2 : Int), 0, (u3 : Int), y4⟩ : St) 0 rfl rfl HR') rfl ⟨HE.out.symm, hB9⟩
    · have HE := Lib.hid (pE_bad HLo.out fun h => hl h.2)
      have e1 : ((lineB (⟨3, 0, 0, wrap64 (u1 : Int), wrap64 (u2 : Int), 0, (u3 : Int), y4⟩ : St)).toList == s.toList) = false := tl_ne hl
      generalize lineB (⟨3, 0, 0, wrap64 (u1 : Int), wrap64 (u2 : Int), 0, (u3 : Int), y4⟩ : St) = y at *
      clear hbl hr hl
      go_upto_region 17 with fail
      refine wp_region_lit ?_
      refine wpList_step (fun K hK => ?_)
      go_simp
      refine hK _ _ ?_
      clear hK K
      refine wpList_store_rowTo rfl 26 _ _ rfl rfl w.heap.size St0.cells rfl rfl 26 _ HPf.out.r (hi8 St0) rfl (cells8_one _) ?_
      have HR' := setRow_heap wl w.heap.size _ St0.cells 26 (0, 0) HPf.out.r
      have hB9 : Below w.heap.size w (wl.setRow w.heap.size St0.cells) := ⟨HPf.out.b.os, HPf.out.b.tape, HPf.out.b.output, by simpa using HPf.out.b.size, fun i hi => (setRow_other _ _ _ _ (by omega)).trans (HPf.out.b.block i hi)⟩
      obtain ⟨W9, hW9⟩ : ∃ W9, W9 = wl.setRow w.heap.size St0.cells := ⟨_, rfl⟩
      rw [← hW9] at HR' hB9 ⊢
      clear hW9
      go_wp2_with fail
      exact bodyPost_ret (res8 _ _ w.heap.size St0 3 rfl rfl HR') rfl ⟨HE.out.symm, hB9⟩
  · refine (line_bad (⟨3, 0, 0, wrap64 (u1 : Int), wrap64 (u2 : Int), 0, (u3 : Int), y4⟩ : St) hr _).mono ?_
    rintro _ wl ⟨rfl, hbl⟩
    have HPf := Lib.hid (HP4.out.below hbl)
    have HE := Lib.hid (pE_bad HLo.out fun h => hr h.1)
    clear hbl hr
    go_upto_region 17 with fail
    refine wp_region_lit ?_
    refine wpList_step (fun K hK => ?_)
    go_simp
    refine hK _ _ ?_
    clear hK K
    refine wpList_store_rowTo rfl 26 _ _ rfl rfl w.heap.size St0.cells rfl rfl 26 _ HPf.out.r (hi8 St0) rfl (cells8_one _) ?_
    have HR' := setRow_heap wl w.heap.size _ St0.cells 26 (0, 0) HPf.out.r
    have hB9 : Below w.heap.size w (wl.setRow w.heap.size St0.cells) := ⟨HPf.out.b.os, HPf.out.b.tape, HPf.out.b.output, by simpa using HPf.out.b.size, fun i hi => (setRow_other _ _ _ _ (by omega)).trans (HPf.out.b.block i hi)⟩
    obtain ⟨W9, hW9⟩ : ∃ W9, W9 = wl.setRow w.heap.size St0.cells := ⟨_, rfl⟩
    rw [← hW9] at HR' hB9 ⊢
    clear hW9
    go_wp2_with fail
    exact bodyPost_ret (res8 _ _ w.heap.size St0 3 rfl rfl HR') rfl ⟨HE.out.symm, hB9⟩

set_option maxHeartbeats 2000000 in
set_option maxRecDepth 100000 in
theorem parse_4 (s : ByteArray) (hs : s.size ≤ 2000) (hk : kL (hd (spB s)).data.toList = 4) (w : World) (ht : Dec.Tab w) (hE : ErrsLie w) : Calls Tryz.prog 13 #[.string s] w fun e w' => e = pE s ∧ Below w.heap.size w w' := by
  have hlo := loose_k hk
  have HL1 := Lib.hid (show (spB s).length ≤ 2001 by have := spB_len s; omega)
  have HSz := Lib.hid (fun i => Nat.le_trans (spB_sz s i) hs)
  have HF := Lib.hid (errs_far hE)
  have HS := Lib.hid hs
  have HT := Lib.hid (And.intro ht hE)
  have HKi := Lib.hid (kind_any (hd (spB s)))
  rw [hk] at HKi
  clear hk ht hE hs
  go_enter Tryz.func13, Tryz.ntmps13
  go_wp2_with fail
  refine (split_any s _ (by have := HS.out; omega)).mono ?_
  rintro _ w1 ⟨rfl, hw1⟩
  have hz1 : w1.heap.size = w.heap.size + 2 := by rw [hw1]; simp
  have hr1 : w1.heap[w.heap.size]? = some (.cells St0.cells 26 (0, 0)) := by rw [hw1, Below.heap_alloc _ _ _ (by simp)]; exact heap_alloc_new _ _
  have hg1 : w1.heap[w.heap.size + 1]? = some (.cells ((spB s).map Value.string).toArray 9 (0, 0)) := by
    rw [hw1]
    have := heap_alloc_new (w.alloc (.cells St0.cells 26)) (.cells ((spB s).map Value.string).toArray 9)
    rw [World.size_alloc] at this
    exact this
  have hb1 : Below w.heap.size w w1 := by rw [hw1]; exact ((Below.refl _ _).alloc (Nat.le_refl _) _).alloc (by simp) _
  simp only [World.size_alloc]
  clear hw1
  have HW1 := Lib.hid (And.intro hr1 (And.intro hg1 hb1))
  have HZ1 := Lib.hid hz1
  clear hr1 hg1 hb1 hz1
  go_upto_region 4 with fail
  rw [HZ1.out]
  have HY3 := Lib.hid (PY.start HZ1.out HW1.out.1 HW1.out.2.1 HW1.out.2.2 HT.out.1 HT.out.2)
  rw [show w.heap.size + 2 + 1 = w.heap.size + 3 from rfl]
  generalize (w1.alloc (.cells #[.slice (some ⟨w.heap.size + 1, 0, none⟩) (spB s).length (spB s).length] 38)).alloc (.cells #[.func (.func 44) #[] #[.pointer (some ⟨w.heap.size + 2, 0, none⟩)]] 65) = W3 at HY3 ⊢
  have cN : W3.cell? ⟨w.heap.size + 3, 0, none⟩ = some (.func (.func 44) #[] #[.pointer (some ⟨w.heap.size + 2, 0, none⟩)]) := by rw [Lib.cell_of_heap HY3.out.nb]; rfl
  clear HW1 HZ1
  go_wp2_with fail
  refine (next_any (w.heap.size + 2) (w.heap.size + 1) (spB s) (by have := HL1.out; omega) W3 HY3.out.nx).mono ?_
  rintro _ w4 ⟨rfl, hn4, ho4⟩
  have HY4 := Lib.hid (HY3.out.oh ho4 hn4)
  clear hn4 ho4 cN HY3
  go_wp2_with fail
  refine (HKi.out _).mono ?_
  rintro _ w5 ⟨rfl, hw5⟩
  obtain rfl := hw5.symm
  go_upto_region 5 with fail
  have HP0 := Lib.hid (HY4.out.px (⟨4, 0, 0, 0, 0, 0, 0, ⟨#[]⟩⟩ : St))
  rw [show (spB s).tail = (spB s).drop 1 from List.drop_one.symm] at HP0
  generalize hT : w4.heap.size = T at HP0 ⊢
  unfold St.cells at HP0
  dsimp only at HP0
  generalize w4.alloc (.cells #[.int .i64 4, .int .i64 0, .int .i64 0, .int .i64 0, .int .i64 0, .int .u64 0, .int .u64 0, .string ⟨#[]⟩] 26) = W5 at HP0 ⊢
  clear hT HY4
  obtain ⟨⟨c0, c1, c2, c3, c4, c6, c7⟩, z1, z2, z3, z4, z6, z7⟩ := HP0.out.cells
  dsimp only at c0 c1 c2 c3 c4 c6 c7
  have hTw := HP0.out.hT
  have cN : W5.cell? ⟨w.heap.size + 3, 0, none⟩ = some (.func (.func 44) #[] #[.pointer (some ⟨w.heap.size + 2, 0, none⟩)]) := by rw [Lib.cell_of_heap HP0.out.nb]; rfl
  go_wp2_with fail
  refine (parts_4 _).mono ?_
  rintro _ w6 ⟨rfl, hw6⟩
  obtain rfl := hw6.symm
  go_wp2_with fail
  refine (num_next (w.heap.size + 3) (w.heap.size + 2) (w.heap.size + 1) ((spB s).drop 1) (by rw [List.length_drop]; have := HL1.out; omega) (by rw [hd_drop]; have := HSz.out 1; omega) _ HP0.out.nx HP0.out.nb HP0.out.errs HF.out).mono ?_
  rintro _ wa1 ⟨rfl, hn1, ho1⟩
  rw [List.tail_drop] at hn1
  rw [hd_drop]
  have HA1 := Lib.hid (HP0.out.oh ho1 hn1)
  obtain ⟨u1, hu1⟩ : ∃ u, numP ((spB s).getD 1 ⟨#[]⟩).data.toList = u := ⟨_, rfl⟩
  have HU1 := Lib.hid hu1
  rw [hu1]
  clear hn1 ho1 hu1 hw6
  clear c0 c1 c2 c3 c4 c6 c7 z1 z2 z3 z4 z6 z7 cN hTw
  obtain ⟨⟨c0, c1, c2, c3, c4, c6, c7⟩, z1, z2, z3, z4, z6, z7⟩ := HA1.out.cells
  dsimp only at c0 c1 c2 c3 c4 c6 c7
  have hTw := HA1.out.hT
  have cN : wa1.cell? ⟨w.heap.size + 3, 0, none⟩ = some (.func (.func 44) #[] #[.pointer (some ⟨w.heap.size + 2, 0, none⟩)]) := by rw [Lib.cell_of_heap HA1.out.nb]; rfl
  go_upto_region 8 with fail
  have HP1 := Lib.hid (HA1.out.set (x' := (⟨4, wrap64 (u1 : Int), 0, 0, 0, 0, 0, ⟨#[]⟩⟩ : St)) 1 (.int .i64 (wrap64 (u1 : Int))) rfl)
  generalize wa1.setCell ⟨T, 1, none⟩ (.int .i64 (wrap64 (u1 : Int))) = W6 at HP1 ⊢
  clear c0 c1 c2 c3 c4 c6 c7 z1 z2 z3 z4 z6 z7 cN hTw
  clear HA1
  obtain ⟨⟨c0, c1, c2, c3, c4, c6, c7⟩, z1, z2, z3, z4, z6, z7⟩ := HP1.out.cells
  dsimp only at c0 c1 c2 c3 c4 c6 c7
  have hTw := HP1.out.hT
  have cN : W6.cell? ⟨w.heap.size + 3, 0, none⟩ = some (.func (.func 44) #[] #[.pointer (some ⟨w.heap.size + 2, 0, none⟩)]) := by rw [Lib.cell_of_heap HP1.out.nb]; rfl
  have HLo : Hid (loose (sp s.data.toList) = (⟨4, wrap64 (u1 : Int), 0, 0, 0, 0, 0, ⟨#[]⟩⟩ : St)) := Lib.hid (by
    rw [hlo]
    unfold looseK
    unfold Sp.z1
    rw [HU1.out, wz u1]
    rfl)
  have HT0 : Hid ((0 : Int) ≤ (0 : Int) ∧ (0 : Int) < 18446744073709551616) := Lib.hid ⟨t00, t01⟩
  clear hlo
  go_upto_region 15 with fail
  refine wp_region_lit ?_
  refine wpList_load_row rfl 26 _ rfl T rfl 26 (⟨4, wrap64 (u1 : Int), 0, 0, 0, 0, 0, ⟨#[]⟩⟩ : St).cells (0, 0) _ HP1.out.t Tryz.underlying26 rfl (hi8 (⟨4, wrap64 (u1 : Int), 0, 0, 0, 0, 0, ⟨#[]⟩⟩ : St)) ?_
  go_wp2_with fail
  by_cases hr : rightP (⟨4, wrap64 (u1 : Int), 0, 0, 0, 0, 0, ⟨#[]⟩⟩ : St)
  · refine (line_ok (⟨4, wrap64 (u1 : Int), 0, 0, 0, 0, 0, ⟨#[]⟩⟩ : St) hr HT0.out.1 HT0.out.2 _ HP1.out.tab).mono ?_
    rintro _ wl ⟨rfl, hbl⟩
    have HPf := Lib.hid (HP1.out.below hbl)
    by_cases hl : lineB (⟨4, wrap64 (u1 : Int), 0, 0, 0, 0, 0, ⟨#[]⟩⟩ : St) = s
    · have HE := Lib.hid (pE_ok HLo.out hr hl)
      have e1 : ((lineB (⟨4, wrap64 (u1 : Int), 0, 0, 0, 0, 0, ⟨#[]⟩⟩ : St)).toList == s.toList) = true := by rw [hl]; simp
      generalize lineB (⟨4, wrap64 (u1 : Int), 0, 0, 0, 0, 0, ⟨#[]⟩⟩ : St) = y at *
      clear hbl hr hl
      go_upto_region 18 with fail
      refine wp_region_lit ?_
      refine wpList_load_row rfl 26 _ rfl T rfl 26 (⟨4, wrap64 (u1 : Int), 0, 0, 0, 0, 0, ⟨#[]⟩⟩ : St).cells (0, 0) _ HPf.out.t Tryz.underlying26 rfl (hi8 (⟨4, wrap64 (u1 : Int), 0, 0, 0, 0, 0, ⟨#[]⟩⟩ : St)) ?_
      refine wpList_store_rowTo rfl 26 _ _ rfl rfl w.heap.size (⟨4, wrap64 (u1 : Int), 0, 0, 0, 0, 0, ⟨#[]⟩⟩ : St).cells rfl rfl 26 _ HPf.out.r (hi8 (⟨4, wrap64 (u1 : Int), 0, 0, 0, 0, 0, ⟨#[]⟩⟩ : St)) rfl (cells8_one _) ?_
      have HR' := setRow_heap wl w.heap.size _ (⟨4, wrap64 (u1 : Int), 0, 0, 0, 0, 0, ⟨#[]⟩⟩ : St).cells 26 (0, 0) HPf.out.r
      have hB9 : Below w.heap.size w (wl.setRow w.heap.size (⟨4, wrap64 (u1 : Int), 0, 0, 0, 0, 0, ⟨#[]⟩⟩ : St).cells) := ⟨HPf.out.b.os, HPf.out.b.tape, HPf.out.b.output, by simpa using HPf.out.b.size, fun i hi => (setRow_other _ _ _ _ (by omega)).trans (HPf.out.b.block i hi)⟩
      obtain ⟨W9, hW9⟩ : ∃ W9, W9 = wl.setRow w.heap.size (⟨4, wrap64 (u1 : Int), 0, 0, 0, 0, 0, ⟨#[]⟩⟩ : St).cells := ⟨_, rfl⟩
      rw [← hW9] at HR' hB9 ⊢
      clear hW9
      go_wp2_with fail
      exact bodyPost_ret (res8 _ _ w.heap.size (⟨4, wrap64 (u1 : Int), 0, 0, 0, 0, 0, ⟨#[]⟩⟩ : St) 0 rfl rfl HR') rfl ⟨HE.out.symm, hB9⟩
    · have HE := Lib.hid (pE_bad HLo.out fun h => hl h.2)
      have e1 : ((lineB (⟨4, wrap64 (u1 : Int), 0, 0, 0, 0, 0, ⟨#[]⟩⟩ : St)).toList == s.toList) = false := tl_ne hl
      generalize lineB (⟨4, wrap64 (u1 : Int), 0, 0, 0, 0, 0, ⟨#[]⟩⟩ : St) = y at *
      clear hbl hr hl
      go_upto_region 17 with fail
      refine wp_region_lit ?_
      refine wpList_step (fun K hK => ?_)
      go_simp
      refine hK _ _ ?_
      clear hK K
      refine wpList_store_rowTo rfl 26 _ _ rfl rfl w.heap.size St0.cells rfl rfl 26 _ HPf.out.r (hi8 St0) rfl (cells8_one _) ?_
      have HR' := setRow_heap wl w.heap.size _ St0.cells 26 (0, 0) HPf.out.r
      have hB9 : Below w.heap.size w (wl.setRow w.heap.size St0.cells) := ⟨HPf.out.b.os, HPf.out.b.tape, HPf.out.b.output, by simpa using HPf.out.b.size, fun i hi => (setRow_other _ _ _ _ (by omega)).trans (HPf.out.b.block i hi)⟩
      obtain ⟨W9, hW9⟩ : ∃ W9, W9 = wl.setRow w.heap.size St0.cells := ⟨_, rfl⟩
      rw [← hW9] at HR' hB9 ⊢
      clear hW9
      go_wp2_with fail
      exact bodyPost_ret (res8 _ _ w.heap.size St0 3 rfl rfl HR') rfl ⟨HE.out.symm, hB9⟩
  · refine (line_bad (⟨4, wrap64 (u1 : Int), 0, 0, 0, 0, 0, ⟨#[]⟩⟩ : St) hr _).mono ?_
    rintro _ wl ⟨rfl, hbl⟩
    have HPf := Lib.hid (HP1.out.below hbl)
    have HE := Lib.hid (pE_bad HLo.out fun h => hr h.1)
    clear hbl hr
    go_upto_region 17 with fail
    refine wp_region_lit ?_
    refine wpList_step (fun K hK => ?_)
    go_simp
    refine hK _ _ ?_
    clear hK K
    refine wpList_store_rowTo rfl 26 _ _ rfl rfl w.heap.size St0.cells rfl rfl 26 _ HPf.out.r (hi8 St0) rfl (cells8_one _) ?_
    have HR' := setRow_heap wl w.heap.size _ St0.cells 26 (0, 0) HPf.out.r
    have hB9 : Below w.heap.size w (wl.setRow w.heap.size St0.cells) := ⟨HPf.out.b.os, HPf.out.b.tape, HPf.out.b.output, by simpa using HPf.out.b.size, fun i hi => (setRow_other _ _ _ _ (by omega)).trans (HPf.out.b.block i hi)⟩
    obtain ⟨W9, hW9⟩ : ∃ W9, W9 = wl.setRow w.heap.size St0.cells := ⟨_, rfl⟩
    rw [← hW9] at HR' hB9 ⊢
    clear hW9
    go_wp2_with fail
    exact bodyPost_ret (res8 _ _ w.heap.size St0 3 rfl rfl HR') rfl ⟨HE.out.symm, hB9⟩

set_option maxHeartbeats 2000000 in
set_option maxRecDepth 100000 in
theorem parse_5 (s : ByteArray) (hs : s.size ≤ 2000) (hk : kL (hd (spB s)).data.toList = 5) (w : World) (ht : Dec.Tab w) (hE : ErrsLie w) : Calls Tryz.prog 13 #[.string s] w fun e w' => e = pE s ∧ Below w.heap.size w w' := by
  have hlo := loose_k hk
  have HL1 := Lib.hid (show (spB s).length ≤ 2001 by have := spB_len s; omega)
  have HSz := Lib.hid (fun i => Nat.le_trans (spB_sz s i) hs)
  have HF := Lib.hid (errs_far hE)
  have HS := Lib.hid hs
  have HT := Lib.hid (And.intro ht hE)
  have HKi := Lib.hid (kind_any (hd (spB s)))
  rw [hk] at HKi
  clear hk ht hE hs
  go_enter Tryz.func13, Tryz.ntmps13
  go_wp2_with fail
  refine (split_any s _ (by have := HS.out; omega)).mono ?_
  rintro _ w1 ⟨rfl, hw1⟩
  have hz1 : w1.heap.size = w.heap.size + 2 := by rw [hw1]; simp
  have hr1 : w1.heap[w.heap.size]? = some (.cells St0.cells 26 (0, 0)) := by rw [hw1, Below.heap_alloc _ _ _ (by simp)]; exact heap_alloc_new _ _
  have hg1 : w1.heap[w.heap.size + 1]? = some (.cells ((spB s).map Value.string).toArray 9 (0, 0)) := by
    rw [hw1]
    have := heap_alloc_new (w.alloc (.cells St0.cells 26)) (.cells ((spB s).map Value.string).toArray 9)
    rw [World.size_alloc] at this
    exact this
  have hb1 : Below w.heap.size w w1 := by rw [hw1]; exact ((Below.refl _ _).alloc (Nat.le_refl _) _).alloc (by simp) _
  simp only [World.size_alloc]
  clear hw1
  have HW1 := Lib.hid (And.intro hr1 (And.intro hg1 hb1))
  have HZ1 := Lib.hid hz1
  clear hr1 hg1 hb1 hz1
  go_upto_region 4 with fail
  rw [HZ1.out]
  have HY3 := Lib.hid (PY.start HZ1.out HW1.out.1 HW1.out.2.1 HW1.out.2.2 HT.out.1 HT.out.2)
  rw [show w.heap.size + 2 + 1 = w.heap.size + 3 from rfl]
  generalize (w1.alloc (.cells #[.slice (some ⟨w.heap.size + 1, 0, none⟩) (spB s).length (spB s).length] 38)).alloc (.cells #[.func (.func 44) #[] #[.pointer (some ⟨w.heap.size + 2, 0, none⟩)]] 65) = W3 at HY3 ⊢
  have cN : W3.cell? ⟨w.heap.size + 3, 0, none⟩ = some (.func (.func 44) #[] #[.pointer (some ⟨w.heap.size + 2, 0, none⟩)]) := by rw [Lib.cell_of_heap HY3.out.nb]; rfl
  clear HW1 HZ1
  go_wp2_with fail
  refine (next_any (w.heap.size + 2) (w.heap.size + 1) (spB s) (by have := HL1.out; omega) W3 HY3.out.nx).mono ?_
  rintro _ w4 ⟨rfl, hn4, ho4⟩
  have HY4 := Lib.hid (HY3.out.oh ho4 hn4)
  clear hn4 ho4 cN HY3
  go_wp2_with fail
  refine (HKi.out _).mono ?_
  rintro _ w5 ⟨rfl, hw5⟩
  obtain rfl := hw5.symm
  go_upto_region 5 with fail
  have HP0 := Lib.hid (HY4.out.px (⟨5, 0, 0, 0, 0, 0, 0, ⟨#[]⟩⟩ : St))
  rw [show (spB s).tail = (spB s).drop 1 from List.drop_one.symm] at HP0
  generalize hT : w4.heap.size = T at HP0 ⊢
  unfold St.cells at HP0
  dsimp only at HP0
  generalize w4.alloc (.cells #[.int .i64 5, .int .i64 0, .int .i64 0, .int .i64 0, .int .i64 0, .int .u64 0, .int .u64 0, .string ⟨#[]⟩] 26) = W5 at HP0 ⊢
  clear hT HY4
  obtain ⟨⟨c0, c1, c2, c3, c4, c6, c7⟩, z1, z2, z3, z4, z6, z7⟩ := HP0.out.cells
  dsimp only at c0 c1 c2 c3 c4 c6 c7
  have hTw := HP0.out.hT
  have cN : W5.cell? ⟨w.heap.size + 3, 0, none⟩ = some (.func (.func 44) #[] #[.pointer (some ⟨w.heap.size + 2, 0, none⟩)]) := by rw [Lib.cell_of_heap HP0.out.nb]; rfl
  go_wp2_with fail
  refine (parts_5 _).mono ?_
  rintro _ w6 ⟨rfl, hw6⟩
  obtain rfl := hw6.symm
  go_wp2_with fail
  refine (num_next (w.heap.size + 3) (w.heap.size + 2) (w.heap.size + 1) ((spB s).drop 1) (by rw [List.length_drop]; have := HL1.out; omega) (by rw [hd_drop]; have := HSz.out 1; omega) _ HP0.out.nx HP0.out.nb HP0.out.errs HF.out).mono ?_
  rintro _ wa1 ⟨rfl, hn1, ho1⟩
  rw [List.tail_drop] at hn1
  rw [hd_drop]
  have HA1 := Lib.hid (HP0.out.oh ho1 hn1)
  obtain ⟨u1, hu1⟩ : ∃ u, numP ((spB s).getD 1 ⟨#[]⟩).data.toList = u := ⟨_, rfl⟩
  have HU1 := Lib.hid hu1
  rw [hu1]
  clear hn1 ho1 hu1 hw6
  clear c0 c1 c2 c3 c4 c6 c7 z1 z2 z3 z4 z6 z7 cN hTw
  obtain ⟨⟨c0, c1, c2, c3, c4, c6, c7⟩, z1, z2, z3, z4, z6, z7⟩ := HA1.out.cells
  dsimp only at c0 c1 c2 c3 c4 c6 c7
  have hTw := HA1.out.hT
  have cN : wa1.cell? ⟨w.heap.size + 3, 0, none⟩ = some (.func (.func 44) #[] #[.pointer (some ⟨w.heap.size + 2, 0, none⟩)]) := by rw [Lib.cell_of_heap HA1.out.nb]; rfl
  go_upto_region 10 with fail
  have HP1 := Lib.hid (HA1.out.set (x' := (⟨5, 0, wrap64 (u1 : Int), 0, 0, 0, 0, ⟨#[]⟩⟩ : St)) 2 (.int .i64 (wrap64 (u1 : Int))) rfl)
  generalize wa1.setCell ⟨T, 2, none⟩ (.int .i64 (wrap64 (u1 : Int))) = W6 at HP1 ⊢
  clear c0 c1 c2 c3 c4 c6 c7 z1 z2 z3 z4 z6 z7 cN hTw
  clear HA1
  obtain ⟨⟨c0, c1, c2, c3, c4, c6, c7⟩, z1, z2, z3, z4, z6, z7⟩ := HP1.out.cells
  dsimp only at c0 c1 c2 c3 c4 c6 c7
  have hTw := HP1.out.hT
  have cN : W6.cell? ⟨w.heap.size + 3, 0, none⟩ = some (.func (.func 44) #[] #[.pointer (some ⟨w.heap.size + 2, 0, none⟩)]) := by rw [Lib.cell_of_heap HP1.out.nb]; rfl
  have HLo : Hid (loose (sp s.data.toList) = (⟨5, 0, wrap64 (u1 : Int), 0, 0, 0, 0, ⟨#[]⟩⟩ : St)) := Lib.hid (by
    rw [hlo]
    unfold looseK
    unfold Sp.z1
    rw [HU1.out, wz u1]
    rfl)
  have HT0 : Hid ((0 : Int) ≤ (0 : Int) ∧ (0 : Int) < 18446744073709551616) := Lib.hid ⟨t00, t01⟩
  clear hlo
  go_upto_region 15 with fail
  refine wp_region_lit ?_
  refine wpList_load_row rfl 26 _ rfl T rfl 26 (⟨5, 0, wrap64 (u1 : Int), 0, 0, 0, 0, ⟨#[]⟩⟩ : St).cells (0, 0) _ HP1.out.t Tryz.underlying26 rfl (hi8 (⟨5, 0, wrap64 (u1 : Int), 0, 0, 0, 0, ⟨#[]⟩⟩ : St)) ?_
  go_wp2_with fail
  by_cases hr : rightP (⟨5, 0, wrap64 (u1 : Int), 0, 0, 0, 0, ⟨#[]⟩⟩ : St)
  · refine (line_ok (⟨5, 0, wrap64 (u1 : Int), 0, 0, 0, 0, ⟨#[]⟩⟩ : St) hr HT0.out.1 HT0.out.2 _ HP1.out.tab).mono ?_
    rintro _ wl ⟨rfl, hbl⟩
    have HPf := Lib.hid (HP1.out.below hbl)
    by_cases hl : lineB (⟨5, 0, wrap64 (u1 : Int), 0, 0, 0, 0, ⟨#[]⟩⟩ : St) = s
    · have HE := Lib.hid (pE_ok HLo.out hr hl)
      have e1 : ((lineB (⟨5, 0, wrap64 (u1 : Int), 0, 0, 0, 0, ⟨#[]⟩⟩ : St)).toList == s.toList) = true := by rw [hl]; simp
      generalize lineB (⟨5, 0, wrap64 (u1 : Int), 0, 0, 0, 0, ⟨#[]⟩⟩ : St) = y at *
      clear hbl hr hl
      go_upto_region 18 with fail
      refine wp_region_lit ?_
      refine wpList_load_row rfl 26 _ rfl T rfl 26 (⟨5, 0, wrap64 (u1 : Int), 0, 0, 0, 0, ⟨#[]⟩⟩ : St).cells (0, 0) _ HPf.out.t Tryz.underlying26 rfl (hi8 (⟨5, 0, wrap64 (u1 : Int), 0, 0, 0, 0, ⟨#[]⟩⟩ : St)) ?_
      refine wpList_store_rowTo rfl 26 _ _ rfl rfl w.heap.size (⟨5, 0, wrap64 (u1 : Int), 0, 0, 0, 0, ⟨#[]⟩⟩ : St).cells rfl rfl 26 _ HPf.out.r (hi8 (⟨5, 0, wrap64 (u1 : Int), 0, 0, 0, 0, ⟨#[]⟩⟩ : St)) rfl (cells8_one _) ?_
      have HR' := setRow_heap wl w.heap.size _ (⟨5, 0, wrap64 (u1 : Int), 0, 0, 0, 0, ⟨#[]⟩⟩ : St).cells 26 (0, 0) HPf.out.r
      have hB9 : Below w.heap.size w (wl.setRow w.heap.size (⟨5, 0, wrap64 (u1 : Int), 0, 0, 0, 0, ⟨#[]⟩⟩ : St).cells) := ⟨HPf.out.b.os, HPf.out.b.tape, HPf.out.b.output, by simpa using HPf.out.b.size, fun i hi => (setRow_other _ _ _ _ (by omega)).trans (HPf.out.b.block i hi)⟩
      obtain ⟨W9, hW9⟩ : ∃ W9, W9 = wl.setRow w.heap.size (⟨5, 0, wrap64 (u1 : Int), 0, 0, 0, 0, ⟨#[]⟩⟩ : St).cells := ⟨_, rfl⟩
      rw [← hW9] at HR' hB9 ⊢
      clear hW9
      go_wp2_with fail
      exact bodyPost_ret (res8 _ _ w.heap.size (⟨5, 0, wrap64 (u1 : Int), 0, 0, 0, 0, ⟨#[]⟩⟩ : St) 0 rfl rfl HR') rfl ⟨HE.out.symm, hB9⟩
    · have HE := Lib.hid (pE_bad HLo.out fun h => hl h.2)
      have e1 : ((lineB (⟨5, 0, wrap64 (u1 : Int), 0, 0, 0, 0, ⟨#[]⟩⟩ : St)).toList == s.toList) = false := tl_ne hl
      generalize lineB (⟨5, 0, wrap64 (u1 : Int), 0, 0, 0, 0, ⟨#[]⟩⟩ : St) = y at *
      clear hbl hr hl
      go_upto_region 17 with fail
      refine wp_region_lit ?_
      refine wpList_step (fun K hK => ?_)
      go_simp
      refine hK _ _ ?_
      clear hK K
      refine wpList_store_rowTo rfl 26 _ _ rfl rfl w.heap.size St0.cells rfl rfl 26 _ HPf.out.r (hi8 St0) rfl (cells8_one _) ?_
      have HR' := setRow_heap wl w.heap.size _ St0.cells 26 (0, 0) HPf.out.r
      have hB9 : Below w.heap.size w (wl.setRow w.heap.size St0.cells) := ⟨HPf.out.b.os, HPf.out.b.tape, HPf.out.b.output, by simpa using HPf.out.b.size, fun i hi => (setRow_other _ _ _ _ (by omega)).trans (HPf.out.b.block i hi)⟩
      obtain ⟨W9, hW9⟩ : ∃ W9, W9 = wl.setRow w.heap.size St0.cells := ⟨_, rfl⟩
      rw [← hW9] at HR' hB9 ⊢
      clear hW9
      go_wp2_with fail
      exact bodyPost_ret (res8 _ _ w.heap.size St0 3 rfl rfl HR') rfl ⟨HE.out.symm, hB9⟩
  · refine (line_bad (⟨5, 0, wrap64 (u1 : Int), 0, 0, 0, 0, ⟨#[]⟩⟩ : St) hr _).mono ?_
    rintro _ wl ⟨rfl, hbl⟩
    have HPf := Lib.hid (HP1.out.below hbl)
    have HE := Lib.hid (pE_bad HLo.out fun h => hr h.1)
    clear hbl hr
    go_upto_region 17 with fail
    refine wp_region_lit ?_
    refine wpList_step (fun K hK => ?_)
    go_simp
    refine hK _ _ ?_
    clear hK K
    refine wpList_store_rowTo rfl 26 _ _ rfl rfl w.heap.size St0.cells rfl rfl 26 _ HPf.out.r (hi8 St0) rfl (cells8_one _) ?_
    have HR' := setRow_heap wl w.heap.size _ St0.cells 26 (0, 0) HPf.out.r
    have hB9 : Below w.heap.size w (wl.setRow w.heap.size St0.cells) := ⟨HPf.out.b.os, HPf.out.b.tape, HPf.out.b.output, by simpa using HPf.out.b.size, fun i hi => (setRow_other _ _ _ _ (by omega)).trans (HPf.out.b.block i hi)⟩
    obtain ⟨W9, hW9⟩ : ∃ W9, W9 = wl.setRow w.heap.size St0.cells := ⟨_, rfl⟩
    rw [← hW9] at HR' hB9 ⊢
    clear hW9
    go_wp2_with fail
    exact bodyPost_ret (res8 _ _ w.heap.size St0 3 rfl rfl HR') rfl ⟨HE.out.symm, hB9⟩

set_option maxHeartbeats 2000000 in
set_option maxRecDepth 100000 in
theorem parse_6 (s : ByteArray) (hs : s.size ≤ 2000) (hk : kL (hd (spB s)).data.toList = 6) (w : World) (ht : Dec.Tab w) (hE : ErrsLie w) : Calls Tryz.prog 13 #[.string s] w fun e w' => e = pE s ∧ Below w.heap.size w w' := by
  have hlo := loose_k hk
  have HL1 := Lib.hid (show (spB s).length ≤ 2001 by have := spB_len s; omega)
  have HSz := Lib.hid (fun i => Nat.le_trans (spB_sz s i) hs)
  have HF := Lib.hid (errs_far hE)
  have HS := Lib.hid hs
  have HT := Lib.hid (And.intro ht hE)
  have HKi := Lib.hid (kind_any (hd (spB s)))
  rw [hk] at HKi
  clear hk ht hE hs
  go_enter Tryz.func13, Tryz.ntmps13
  go_wp2_with fail
  refine (split_any s _ (by have := HS.out; omega)).mono ?_
  rintro _ w1 ⟨rfl, hw1⟩
  have hz1 : w1.heap.size = w.heap.size + 2 := by rw [hw1]; simp
  have hr1 : w1.heap[w.heap.size]? = some (.cells St0.cells 26 (0, 0)) := by rw [hw1, Below.heap_alloc _ _ _ (by simp)]; exact heap_alloc_new _ _
  have hg1 : w1.heap[w.heap.size + 1]? = some (.cells ((spB s).map Value.string).toArray 9 (0, 0)) := by
    rw [hw1]
    have := heap_alloc_new (w.alloc (.cells St0.cells 26)) (.cells ((spB s).map Value.string).toArray 9)
    rw [World.size_alloc] at this
    exact this
  have hb1 : Below w.heap.size w w1 := by rw [hw1]; exact ((Below.refl _ _).alloc (Nat.le_refl _) _).alloc (by simp) _
  simp only [World.size_alloc]
  clear hw1
  have HW1 := Lib.hid (And.intro hr1 (And.intro hg1 hb1))
  have HZ1 := Lib.hid hz1
  clear hr1 hg1 hb1 hz1
  go_upto_region 4 with fail
  rw [HZ1.out]
  have HY3 := Lib.hid (PY.start HZ1.out HW1.out.1 HW1.out.2.1 HW1.out.2.2 HT.out.1 HT.out.2)
  rw [show w.heap.size + 2 + 1 = w.heap.size + 3 from rfl]
  generalize (w1.alloc (.cells #[.slice (some ⟨w.heap.size + 1, 0, none⟩) (spB s).length (spB s).length] 38)).alloc (.cells #[.func (.func 44) #[] #[.pointer (some ⟨w.heap.size + 2, 0, none⟩)]] 65) = W3 at HY3 ⊢
  have cN : W3.cell? ⟨w.heap.size + 3, 0, none⟩ = some (.func (.func 44) #[] #[.pointer (some ⟨w.heap.size + 2, 0, none⟩)]) := by rw [Lib.cell_of_heap HY3.out.nb]; rfl
  clear HW1 HZ1
  go_wp2_with fail
  refine (next_any (w.heap.size + 2) (w.heap.size + 1) (spB s) (by have := HL1.out; omega) W3 HY3.out.nx).mono ?_
  rintro _ w4 ⟨rfl, hn4, ho4⟩
  have HY4 := Lib.hid (HY3.out.oh ho4 hn4)
  clear hn4 ho4 cN HY3
  go_wp2_with fail
  refine (HKi.out _).mono ?_
  rintro _ w5 ⟨rfl, hw5⟩
  obtain rfl := hw5.symm
  go_upto_region 5 with fail
  have HP0 := Lib.hid (HY4.out.px (⟨6, 0, 0, 0, 0, 0, 0, ⟨#[]⟩⟩ : St))
  rw [show (spB s).tail = (spB s).drop 1 from List.drop_one.symm] at HP0
  generalize hT : w4.heap.size = T at HP0 ⊢
  unfold St.cells at HP0
  dsimp only at HP0
  generalize w4.alloc (.cells #[.int .i64 6, .int .i64 0, .int .i64 0, .int .i64 0, .int .i64 0, .int .u64 0, .int .u64 0, .string ⟨#[]⟩] 26) = W5 at HP0 ⊢
  clear hT HY4
  obtain ⟨⟨c0, c1, c2, c3, c4, c6, c7⟩, z1, z2, z3, z4, z6, z7⟩ := HP0.out.cells
  dsimp only at c0 c1 c2 c3 c4 c6 c7
  have hTw := HP0.out.hT
  have cN : W5.cell? ⟨w.heap.size + 3, 0, none⟩ = some (.func (.func 44) #[] #[.pointer (some ⟨w.heap.size + 2, 0, none⟩)]) := by rw [Lib.cell_of_heap HP0.out.nb]; rfl
  go_wp2_with fail
  refine (parts_6 _).mono ?_
  rintro _ w6 ⟨rfl, hw6⟩
  obtain rfl := hw6.symm
  go_wp2_with fail
  refine (num_next (w.heap.size + 3) (w.heap.size + 2) (w.heap.size + 1) ((spB s).drop 1) (by rw [List.length_drop]; have := HL1.out; omega) (by rw [hd_drop]; have := HSz.out 1; omega) _ HP0.out.nx HP0.out.nb HP0.out.errs HF.out).mono ?_
  rintro _ wa1 ⟨rfl, hn1, ho1⟩
  rw [List.tail_drop] at hn1
  rw [hd_drop]
  have HA1 := Lib.hid (HP0.out.oh ho1 hn1)
  obtain ⟨u1, hu1⟩ : ∃ u, numP ((spB s).getD 1 ⟨#[]⟩).data.toList = u := ⟨_, rfl⟩
  have HU1 := Lib.hid hu1
  rw [hu1]
  clear hn1 ho1 hu1 hw6
  clear c0 c1 c2 c3 c4 c6 c7 z1 z2 z3 z4 z6 z7 cN hTw
  obtain ⟨⟨c0, c1, c2, c3, c4, c6, c7⟩, z1, z2, z3, z4, z6, z7⟩ := HA1.out.cells
  dsimp only at c0 c1 c2 c3 c4 c6 c7
  have hTw := HA1.out.hT
  have cN : wa1.cell? ⟨w.heap.size + 3, 0, none⟩ = some (.func (.func 44) #[] #[.pointer (some ⟨w.heap.size + 2, 0, none⟩)]) := by rw [Lib.cell_of_heap HA1.out.nb]; rfl
  go_upto_region 8 with fail
  have HP1 := Lib.hid (HA1.out.set (x' := (⟨6, wrap64 (u1 : Int), 0, 0, 0, 0, 0, ⟨#[]⟩⟩ : St)) 1 (.int .i64 (wrap64 (u1 : Int))) rfl)
  generalize wa1.setCell ⟨T, 1, none⟩ (.int .i64 (wrap64 (u1 : Int))) = W6 at HP1 ⊢
  clear c0 c1 c2 c3 c4 c6 c7 z1 z2 z3 z4 z6 z7 cN hTw
  clear HA1
  obtain ⟨⟨c0, c1, c2, c3, c4, c6, c7⟩, z1, z2, z3, z4, z6, z7⟩ := HP1.out.cells
  dsimp only at c0 c1 c2 c3 c4 c6 c7
  have hTw := HP1.out.hT
  have cN : W6.cell? ⟨w.heap.size + 3, 0, none⟩ = some (.func (.func 44) #[] #[.pointer (some ⟨w.heap.size + 2, 0, none⟩)]) := by rw [Lib.cell_of_heap HP1.out.nb]; rfl
  go_wp2_with fail
  refine (num_next (w.heap.size + 3) (w.heap.size + 2) (w.heap.size + 1) ((spB s).drop 2) (by rw [List.length_drop]; have := HL1.out; omega) (by rw [hd_drop]; have := HSz.out 2; omega) _ HP1.out.nx HP1.out.nb HP1.out.errs HF.out).mono ?_
  rintro _ wa2 ⟨rfl, hn2, ho2⟩
  rw [List.tail_drop] at hn2
  rw [hd_drop]
  have HA2 := Lib.hid (HP1.out.oh ho2 hn2)
  obtain ⟨u2, hu2⟩ : ∃ u, numP ((spB s).getD 2 ⟨#[]⟩).data.toList = u := ⟨_, rfl⟩
  have HU2 := Lib.hid hu2
  rw [hu2]
  clear hn2 ho2 hu2
  clear c0 c1 c2 c3 c4 c6 c7 z1 z2 z3 z4 z6 z7 cN hTw
  obtain ⟨⟨c0, c1, c2, c3, c4, c6, c7⟩, z1, z2, z3, z4, z6, z7⟩ := HA2.out.cells
  dsimp only at c0 c1 c2 c3 c4 c6 c7
  have hTw := HA2.out.hT
  have cN : wa2.cell? ⟨w.heap.size + 3, 0, none⟩ = some (.func (.func 44) #[] #[.pointer (some ⟨w.heap.size + 2, 0, none⟩)]) := by rw [Lib.cell_of_heap HA2.out.nb]; rfl
  go_upto_region 10 with fail
  have HP2 := Lib.hid (HA2.out.set (x' := (⟨6, wrap64 (u1 : Int), wrap64 (u2 : Int), 0, 0, 0, 0, ⟨#[]⟩⟩ : St)) 2 (.int .i64 (wrap64 (u2 : Int))) rfl)
  generalize wa2.setCell ⟨T, 2, none⟩ (.int .i64 (wrap64 (u2 : Int))) = W7 at HP2 ⊢
  clear c0 c1 c2 c3 c4 c6 c7 z1 z2 z3 z4 z6 z7 cN hTw
  clear HA2
  obtain ⟨⟨c0, c1, c2, c3, c4, c6, c7⟩, z1, z2, z3, z4, z6, z7⟩ := HP2.out.cells
  dsimp only at c0 c1 c2 c3 c4 c6 c7
  have hTw := HP2.out.hT
  have cN : W7.cell? ⟨w.heap.size + 3, 0, none⟩ = some (.func (.func 44) #[] #[.pointer (some ⟨w.heap.size + 2, 0, none⟩)]) := by rw [Lib.cell_of_heap HP2.out.nb]; rfl
  have HLo : Hid (loose (sp s.data.toList) = (⟨6, wrap64 (u1 : Int), wrap64 (u2 : Int), 0, 0, 0, 0, ⟨#[]⟩⟩ : St)) := Lib.hid (by
    rw [hlo]
    unfold looseK
    unfold Sp.z1
    rw [HU1.out, HU2.out, wz u1, wz u2]
    rfl)
  have HT0 : Hid ((0 : Int) ≤ (0 : Int) ∧ (0 : Int) < 18446744073709551616) := Lib.hid ⟨t00, t01⟩
  clear hlo
  go_upto_region 15 with fail
  refine wp_region_lit ?_
  refine wpList_load_row rfl 26 _ rfl T rfl 26 (⟨6, wrap64 (u1 : Int), wrap64 (u2 : Int), 0, 0, 0, 0, ⟨#[]⟩⟩ : St).cells (0, 0) _ HP2.out.t Tryz.underlying26 rfl (hi8 (⟨6, wrap64 (u1 : Int), wrap64 (u2 : Int), 0, 0, 0, 0, ⟨#[]⟩⟩ : St)) ?_
  go_wp2_with fail
  by_cases hr : rightP (⟨6, wrap64 (u1 : Int), wrap64 (u2 : Int), 0, 0, 0, 0, ⟨#[]⟩⟩ : St)
  · refine (line_ok (⟨6, wrap64 (u1 : Int), wrap64 (u2 : Int), 0, 0, 0, 0, ⟨#[]⟩⟩ : St) hr HT0.out.1 HT0.out.2 _ HP2.out.tab).mono ?_
    rintro _ wl ⟨rfl, hbl⟩
    have HPf := Lib.hid (HP2.out.below hbl)
    by_cases hl : lineB (⟨6, wrap64 (u1 : Int), wrap64 (u2 : Int), 0, 0, 0, 0, ⟨#[]⟩⟩ : St) = s
    · have HE := Lib.hid (pE_ok HLo.out hr hl)
      have e1 : ((lineB (⟨6, wrap64 (u1 : Int), wrap64 (u2 : Int), 0, 0, 0, 0, ⟨#[]⟩⟩ : St)).toList == s.toList) = true := by rw [hl]; simp
      generalize lineB (⟨6, wrap64 (u1 : Int), wrap64 (u2 : Int), 0, 0, 0, 0, ⟨#[]⟩⟩ : St) = y at *
      clear hbl hr hl
      go_upto_region 18 with fail
      refine wp_region_lit ?_
      refine wpList_load_row rfl 26 _ rfl T rfl 26 (⟨6, wrap64 (u1 : Int), wrap64 (u2 : Int), 0, 0, 0, 0, ⟨#[]⟩⟩ : St).cells (0, 0) _ HPf.out.t Tryz.underlying26 rfl (hi8 (⟨6, wrap64 (u1 : Int), wrap64 (u2 : Int), 0, 0, 0, 0, ⟨#[]⟩⟩ : St)) ?_
      refine wpList_store_rowTo rfl 26 _ _ rfl rfl w.heap.size (⟨6, wrap64 (u1 : Int), wrap64 (u2 : Int), 0, 0, 0, 0, ⟨#[]⟩⟩ : St).cells rfl rfl 26 _ HPf.out.r (hi8 (⟨6, wrap64 (u1 : Int), wrap64 (u2 : Int), 0, 0, 0, 0, ⟨#[]⟩⟩ : St)) rfl (cells8_one _) ?_
      have HR' := setRow_heap wl w.heap.size _ (⟨6, wrap64 (u1 : Int), wrap64 (u2 : Int), 0, 0, 0, 0, ⟨#[]⟩⟩ : St).cells 26 (0, 0) HPf.out.r
      have hB9 : Below w.heap.size w (wl.setRow w.heap.size (⟨6, wrap64 (u1 : Int), wrap64 (u2 : Int), 0, 0, 0, 0, ⟨#[]⟩⟩ : St).cells) := ⟨HPf.out.b.os, HPf.out.b.tape, HPf.out.b.output, by simpa using HPf.out.b.size, fun i hi => (setRow_other _ _ _ _ (by omega)).trans (HPf.out.b.block i hi)⟩
      obtain ⟨W9, hW9⟩ : ∃ W9, W9 = wl.setRow w.heap.size (⟨6, wrap64 (u1 : Int), wrap64 (u2 : Int), 0, 0, 0, 0, ⟨#[]⟩⟩ : St).cells := ⟨_, rfl⟩
      rw [← hW9] at HR' hB9 ⊢
      clear hW9
      go_wp2_with fail
      exact bodyPost_ret (res8 _ _ w.heap.size (⟨6, wrap64 (u1 : Int), wrap64 (u2 : Int), 0, 0, 0, 0, ⟨#[]⟩⟩ : St) 0 rfl rfl HR') rfl ⟨HE.out.symm, hB9⟩
    · have HE := Lib.hid (pE_bad HLo.out fun h => hl h.2)
      have e1 : ((lineB (⟨6, wrap64 (u1 : Int), wrap64 (u2 : Int), 0, 0, 0, 0, ⟨#[]⟩⟩ : St)).toList == s.toList) = false := tl_ne hl
      generalize lineB (⟨6, wrap64 (u1 : Int), wrap64 (u2 : Int), 0, 0, 0, 0, ⟨#[]⟩⟩ : St) = y at *
      clear hbl hr hl
      go_upto_region 17 with fail
      refine wp_region_lit ?_
      refine wpList_step (fun K hK => ?_)
      go_simp
      refine hK _ _ ?_
      clear hK K
      refine wpList_store_rowTo rfl 26 _ _ rfl rfl w.heap.size St0.cells rfl rfl 26 _ HPf.out.r (hi8 St0) rfl (cells8_one _) ?_
      have HR' := setRow_heap wl w.heap.size _ St0.cells 26 (0, 0) HPf.out.r
      have hB9 : Below w.heap.size w (wl.setRow w.heap.size St0.cells) := ⟨HPf.out.b.os, HPf.out.b.tape, HPf.out.b.output, by simpa using HPf.out.b.size, fun i hi => (setRow_other _ _ _ _ (by omega)).trans (HPf.out.b.block i hi)⟩
      obtain ⟨W9, hW9⟩ : ∃ W9, W9 = wl.setRow w.heap.size St0.cells := ⟨_, rfl⟩
      rw [← hW9] at HR' hB9 ⊢
      clear hW9
      go_wp2_with fail
      exact bodyPost_ret (res8 _ _ w.heap.size St0 3 rfl rfl HR') rfl ⟨HE.out.symm, hB9⟩
  · refine (line_bad (⟨6, wrap64 (u1 : Int), wrap64 (u2 : Int), 0, 0, 0, 0, ⟨#[]⟩⟩ : St) hr _).mono ?_
    rintro _ wl ⟨rfl, hbl⟩
    have HPf := Lib.hid (HP2.out.below hbl)
    have HE := Lib.hid (pE_bad HLo.out fun h => hr h.1)
    clear hbl hr
    go_upto_region 17 with fail
    refine wp_region_lit ?_
    refine wpList_step (fun K hK => ?_)
    go_simp
    refine hK _ _ ?_
    clear hK K
    refine wpList_store_rowTo rfl 26 _ _ rfl rfl w.heap.size St0.cells rfl rfl 26 _ HPf.out.r (hi8 St0) rfl (cells8_one _) ?_
    have HR' := setRow_heap wl w.heap.size _ St0.cells 26 (0, 0) HPf.out.r
    have hB9 : Below w.heap.size w (wl.setRow w.heap.size St0.cells) := ⟨HPf.out.b.os, HPf.out.b.tape, HPf.out.b.output, by simpa using HPf.out.b.size, fun i hi => (setRow_other _ _ _ _ (by omega)).trans (HPf.out.b.block i hi)⟩
    obtain ⟨W9, hW9⟩ : ∃ W9, W9 = wl.setRow w.heap.size St0.cells := ⟨_, rfl⟩
    rw [← hW9] at HR' hB9 ⊢
    clear hW9
    go_wp2_with fail
    exact bodyPost_ret (res8 _ _ w.heap.size St0 3 rfl rfl HR') rfl ⟨HE.out.symm, hB9⟩

set_option maxHeartbeats 2000000 in
set_option maxRecDepth 100000 in
theorem parse_7 (s : ByteArray) (hs : s.size ≤ 2000) (hk : kL (hd (spB s)).data.toList = 7) (w : World) (ht : Dec.Tab w) (hE : ErrsLie w) : Calls Tryz.prog 13 #[.string s] w fun e w' => e = pE s ∧ Below w.heap.size w w' := by
  have hlo := loose_k hk
  have HL1 := Lib.hid (show (spB s).length ≤ 2001 by have := spB_len s; omega)
  have HSz := Lib.hid (fun i => Nat.le_trans (spB_sz s i) hs)
  have HF := Lib.hid (errs_far hE)
  have HS := Lib.hid hs
  have HT := Lib.hid (And.intro ht hE)
  have HKi := Lib.hid (kind_any (hd (spB s)))
  rw [hk] at HKi
  clear hk ht hE hs
  go_enter Tryz.func13, Tryz.ntmps13
  go_wp2_with fail
  refine (split_any s _ (by have := HS.out; omega)).mono ?_
  rintro _ w1 ⟨rfl, hw1⟩
  have hz1 : w1.heap.size = w.heap.size + 2 := by rw [hw1]; simp
  have hr1 : w1.heap[w.heap.size]? = some (.cells St0.cells 26 (0, 0)) := by rw [hw1, Below.heap_alloc _ _ _ (by simp)]; exact heap_alloc_new _ _
  have hg1 : w1.heap[w.heap.size + 1]? = some (.cells ((spB s).map Value.string).toArray 9 (0, 0)) := by
    rw [hw1]
    have := heap_alloc_new (w.alloc (.cells St0.cells 26)) (.cells ((spB s).map Value.string).toArray 9)
    rw [World.size_alloc] at this
    exact this
  have hb1 : Below w.heap.size w w1 := by rw [hw1]; exact ((Below.refl _ _).alloc (Nat.le_refl _) _).alloc (by simp) _
  simp only [World.size_alloc]
  clear hw1
  have HW1 := Lib.hid (And.intro hr1 (And.intro hg1 hb1))
  have HZ1 := Lib.hid hz1
  clear hr1 hg1 hb1 hz1
  go_upto_region 4 with fail
  rw [HZ1.out]
  have HY3 := Lib.hid (PY.start HZ1.out HW1.out.1 HW1.out.2.1 HW1.out.2.2 HT.out.1 HT.out.2)
  rw [show w.heap.size + 2 + 1 = w.heap.size + 3 from rfl]
  generalize (w1.alloc (.cells #[.slice (some ⟨w.heap.size + 1, 0, none⟩) (spB s).length (spB s).length] 38)).alloc (.cells #[.func (.func 44) #[] #[.pointer (some ⟨w.heap.size + 2, 0, none⟩)]] 65) = W3 at HY3 ⊢
  have cN : W3.cell? ⟨w.heap.size + 3, 0, none⟩ = some (.func (.func 44) #[] #[.pointer (some ⟨w.heap.size + 2, 0, none⟩)]) := by rw [Lib.cell_of_heap HY3.out.nb]; rfl
  clear HW1 HZ1
  go_wp2_with fail
  refine (next_any (w.heap.size + 2) (w.heap.size + 1) (spB s) (by have := HL1.out; omega) W3 HY3.out.nx).mono ?_
  rintro _ w4 ⟨rfl, hn4, ho4⟩
  have HY4 := Lib.hid (HY3.out.oh ho4 hn4)
  clear hn4 ho4 cN HY3
  go_wp2_with fail
  refine (HKi.out _).mono ?_
  rintro _ w5 ⟨rfl, hw5⟩
  obtain rfl := hw5.symm
  go_upto_region 5 with fail
  have HP0 := Lib.hid (HY4.out.px (⟨7, 0, 0, 0, 0, 0, 0, ⟨#[]⟩⟩ : St))
  rw [show (spB s).tail = (spB s).drop 1 from List.drop_one.symm] at HP0
  generalize hT : w4.heap.size = T at HP0 ⊢
  unfold St.cells at HP0
  dsimp only at HP0
  generalize w4.alloc (.cells #[.int .i64 7, .int .i64 0, .int .i64 0, .int .i64 0, .int .i64 0, .int .u64 0, .int .u64 0, .string ⟨#[]⟩] 26) = W5 at HP0 ⊢
  clear hT HY4
  obtain ⟨⟨c0, c1, c2, c3, c4, c6, c7⟩, z1, z2, z3, z4, z6, z7⟩ := HP0.out.cells
  dsimp only at c0 c1 c2 c3 c4 c6 c7
  have hTw := HP0.out.hT
  have cN : W5.cell? ⟨w.heap.size + 3, 0, none⟩ = some (.func (.func 44) #[] #[.pointer (some ⟨w.heap.size + 2, 0, none⟩)]) := by rw [Lib.cell_of_heap HP0.out.nb]; rfl
  go_wp2_with fail
  refine (parts_7 _).mono ?_
  rintro _ w6 ⟨rfl, hw6⟩
  obtain rfl := hw6.symm
  have HLo : Hid (loose (sp s.data.toList) = (⟨7, 0, 0, 0, 0, 0, 0, ⟨#[]⟩⟩ : St)) := Lib.hid (by
    rw [hlo]
    unfold looseK
    skip
    rfl)
  have HT0 : Hid ((0 : Int) ≤ (0 : Int) ∧ (0 : Int) < 18446744073709551616) := Lib.hid ⟨t00, t01⟩
  clear hlo
  go_upto_region 15 with fail
  refine wp_region_lit ?_
  refine wpList_load_row rfl 26 _ rfl T rfl 26 (⟨7, 0, 0, 0, 0, 0, 0, ⟨#[]⟩⟩ : St).cells (0, 0) _ HP0.out.t Tryz.underlying26 rfl (hi8 (⟨7, 0, 0, 0, 0, 0, 0, ⟨#[]⟩⟩ : St)) ?_
  go_wp2_with fail
  by_cases hr : rightP (⟨7, 0, 0, 0, 0, 0, 0, ⟨#[]⟩⟩ : St)
  · refine (line_ok (⟨7, 0, 0, 0, 0, 0, 0, ⟨#[]⟩⟩ : St) hr HT0.out.1 HT0.out.2 _ HP0.out.tab).mono ?_
    rintro _ wl ⟨rfl, hbl⟩
    have HPf := Lib.hid (HP0.out.below hbl)
    by_cases hl : lineB (⟨7, 0, 0, 0, 0, 0, 0, ⟨#[]⟩⟩ : St) = s
    · have HE := Lib.hid (pE_ok HLo.out hr hl)
      have e1 : ((lineB (⟨7, 0, 0, 0, 0, 0, 0, ⟨#[]⟩⟩ : St)).toList == s.toList) = true := by rw [hl]; simp
      generalize lineB (⟨7, 0, 0, 0, 0, 0, 0, ⟨#[]⟩⟩ : St) = y at *
      clear hbl hr hl
      go_upto_region 18 with fail
      refine wp_region_lit ?_
      refine wpList_load_row rfl 26 _ rfl T rfl 26 (⟨7, 0, 0, 0, 0, 0, 0, ⟨#[]⟩⟩ : St).cells (0, 0) _ HPf.out.t Tryz.underlying26 rfl (hi8 (⟨7, 0, 0, 0, 0, 0, 0, ⟨#[]⟩⟩ : St)) ?_
      refine wpList_store_rowTo rfl 26 _ _ rfl rfl w.heap.size (⟨7, 0, 0, 0, 0, 0, 0, ⟨#[]⟩⟩ : St).cells rfl rfl 26 _ HPf.out.r (hi8 (⟨7, 0, 0, 0, 0, 0, 0, ⟨#[]⟩⟩ : St)) rfl (cells8_one _) ?_
      have HR' := setRow_heap wl w.heap.size _ (⟨7, 0, 0, 0, 0, 0, 0, ⟨#[]⟩⟩ : St).cells 26 (0, 0) HPf.out.r
      have hB9 : Below w.heap.size w (wl.setRow w.heap.size (⟨7, 0, 0, 0, 0, 0, 0, ⟨#[]⟩⟩ : St).cells) := ⟨HPf.out.b.os, HPf.out.b.tape, HPf.out.b.output, by simpa using HPf.out.b.size, fun i hi => (setRow_other _ _ _ _ (by omega)).trans (HPf.out.b.block i hi)⟩
      obtain ⟨W9, hW9⟩ : ∃ W9, W9 = wl.setRow w.heap.size (⟨7, 0, 0, 0, 0, 0, 0, ⟨#[]⟩⟩ : St).cells := ⟨_, rfl⟩
      rw [← hW9] at HR' hB9 ⊢
      clear hW9
      go_wp2_with fail
      exact bodyPost_ret (res8 _ _ w.heap.size (⟨7, 0, 0, 0, 0, 0, 0, ⟨#[]⟩⟩ : St) 0 rfl rfl HR') rfl ⟨HE.out.symm, hB9⟩
    · have HE := Lib.hid (pE_bad HLo.out fun h => hl h.2)
      have e1 : ((lineB (⟨7, 0, 0, 0, 0, 0, 0, ⟨#[]⟩⟩ : St)).toList == s.toList) = false := tl_ne hl
      generalize lineB (⟨7, 0, 0, 0, 0, 0, 0, ⟨#[]⟩⟩ : St) = y at *
      clear hbl hr hl
      go_upto_region 17 with fail
      refine wp_region_lit ?_
      refine wpList_step (fun K hK => ?_)
      go_simp
      refine hK _ _ ?_
      clear hK K
      refine wpList_store_rowTo rfl 26 _ _ rfl rfl w.heap.size St0.cells rfl rfl 26 _ HPf.out.r (hi8 St0) rfl (cells8_one _) ?_
      have HR' := setRow_heap wl w.heap.size _ St0.cells 26 (0, 0) HPf.out.r
      have hB9 : Below w.heap.size w (wl.setRow w.heap.size St0.cells) := ⟨HPf.out.b.os, HPf.out.b.tape, HPf.out.b.output, by simpa using HPf.out.b.size, fun i hi => (setRow_other _ _ _ _ (by omega)).trans (HPf.out.b.block i hi)⟩
      obtain ⟨W9, hW9⟩ : ∃ W9, W9 = wl.setRow w.heap.size St0.cells := ⟨_, rfl⟩
      rw [← hW9] at HR' hB9 ⊢
      clear hW9
      go_wp2_with fail
      exact bodyPost_ret (res8 _ _ w.heap.size St0 3 rfl rfl HR') rfl ⟨HE.out.symm, hB9⟩
  · refine (line_bad (⟨7, 0, 0, 0, 0, 0, 0, ⟨#[]⟩⟩ : St) hr _).mono ?_
    rintro _ wl ⟨rfl, hbl⟩
    have HPf := Lib.hid (HP0.out.below hbl)
    have HE := Lib.hid (pE_bad HLo.out fun h => hr h.1)
    clear hbl hr
    go_upto_region 17 with fail
    refine wp_region_lit ?_
    refine wpList_step (fun K hK => ?_)
    go_simp
    refine hK _ _ ?_
    clear hK K
    refine wpList_store_rowTo rfl 26 _ _ rfl rfl w.heap.size St0.cells rfl rfl 26 _ HPf.out.r (hi8 St0) rfl (cells8_one _) ?_
    have HR' := setRow_heap wl w.heap.size _ St0.cells 26 (0, 0) HPf.out.r
    have hB9 : Below w.heap.size w (wl.setRow w.heap.size St0.cells) := ⟨HPf.out.b.os, HPf.out.b.tape, HPf.out.b.output, by simpa using HPf.out.b.size, fun i hi => (setRow_other _ _ _ _ (by omega)).trans (HPf.out.b.block i hi)⟩
    obtain ⟨W9, hW9⟩ : ∃ W9, W9 = wl.setRow w.heap.size St0.cells := ⟨_, rfl⟩
    rw [← hW9] at HR' hB9 ⊢
    clear hW9
    go_wp2_with fail
    exact bodyPost_ret (res8 _ _ w.heap.size St0 3 rfl rfl HR') rfl ⟨HE.out.symm, hB9⟩

set_option maxHeartbeats 2000000 in
set_option maxRecDepth 100000 in
theorem parse_8 (s : ByteArray) (hs : s.size ≤ 2000) (hk : kL (hd (spB s)).data.toList = 8) (w : World) (ht : Dec.Tab w) (hE : ErrsLie w) : Calls Tryz.prog 13 #[.string s] w fun e w' => e = pE s ∧ Below w.heap.size w w' := by
  have hlo := loose_k hk
  have HL1 := Lib.hid (show (spB s).length ≤ 2001 by have := spB_len s; omega)
  have HSz := Lib.hid (fun i => Nat.le_trans (spB_sz s i) hs)
  have HF := Lib.hid (errs_far hE)
  have HS := Lib.hid hs
  have HT := Lib.hid (And.intro ht hE)
  have HKi := Lib.hid (kind_any (hd (spB s)))
  rw [hk] at HKi
  clear hk ht hE hs
  go_enter Tryz.func13, Tryz.ntmps13
  go_wp2_with fail
  refine (split_any s _ (by have := HS.out; omega)).mono ?_
  rintro _ w1 ⟨rfl, hw1⟩
  have hz1 : w1.heap.size = w.heap.size + 2 := by rw [hw1]; simp
  have hr1 : w1.heap[w.heap.size]? = some (.cells St0.cells 26 (0, 0)) := by rw [hw1, Below.heap_alloc _ _ _ (by simp)]; exact heap_alloc_new _ _
  have hg1 : w1.heap[w.heap.size + 1]? = some (.cells ((spB s).map Value.string).toArray 9 (0, 0)) := by
    rw [hw1]
    have := heap_alloc_new (w.alloc (.cells St0.cells 26)) (.cells ((spB s).map Value.string).toArray 9)
    rw [World.size_alloc] at this
    exact this
  have hb1 : Below w.heap.size w w1 := by rw [hw1]; exact ((Below.refl _ _).alloc (Nat.le_refl _) _).alloc (by simp) _
  simp only [World.size_alloc]
  clear hw1
  have HW1 := Lib.hid (And.intro hr1 (And.intro hg1 hb1))
  have HZ1 := Lib.hid hz1
  clear hr1 hg1 hb1 hz1
  go_upto_region 4 with fail
  rw [HZ1.out]
  have HY3 := Lib.hid (PY.start HZ1.out HW1.out.1 HW1.out.2.1 HW1.out.2.2 HT.out.1 HT.out.2)
  rw [show w.heap.size + 2 + 1 = w.heap.size + 3 from rfl]
  generalize (w1.alloc (.cells #[.slice (some ⟨w.heap.size + 1, 0, none⟩) (spB s).length (spB s).length] 38)).alloc (.cells #[.func (.func 44) #[] #[.pointer (some ⟨w.heap.size + 2, 0, none⟩)]] 65) = W3 at HY3 ⊢
  have cN : W3.cell? ⟨w.heap.size + 3, 0, none⟩ = some (.func (.func 44) #[] #[.pointer (some ⟨w.heap.size + 2, 0, none⟩)]) := by rw [Lib.cell_of_heap HY3.out.nb]; rfl
  clear HW1 HZ1
  go_wp2_with fail
  refine (next_any (w.heap.size + 2) (w.heap.size + 1) (spB s) (by have := HL1.out; omega) W3 HY3.out.nx).mono ?_
  rintro _ w4 ⟨rfl, hn4, ho4⟩
  have HY4 := Lib.hid (HY3.out.oh ho4 hn4)
  clear hn4 ho4 cN HY3
  go_wp2_with fail
  refine (HKi.out _).mono ?_
  rintro _ w5 ⟨rfl, hw5⟩
  obtain rfl := hw5.symm
  go_upto_region 5 with fail
  have HP0 := Lib.hid (HY4.out.px (⟨8, 0, 0, 0, 0, 0, 0, ⟨#[]⟩⟩ : St))
  rw [show (spB s).tail = (spB s).drop 1 from List.drop_one.symm] at HP0
  generalize hT : w4.heap.size = T at HP0 ⊢
  unfold St.cells at HP0
  dsimp only at HP0
  generalize w4.alloc (.cells #[.int .i64 8, .int .i64 0, .int .i64 0, .int .i64 0, .int .i64 0, .int .u64 0, .int .u64 0, .string ⟨#[]⟩] 26) = W5 at HP0 ⊢
  clear hT HY4
  obtain ⟨⟨c0, c1, c2, c3, c4, c6, c7⟩, z1, z2, z3, z4, z6, z7⟩ := HP0.out.cells
  dsimp only at c0 c1 c2 c3 c4 c6 c7
  have hTw := HP0.out.hT
  have cN : W5.cell? ⟨w.heap.size + 3, 0, none⟩ = some (.func (.func 44) #[] #[.pointer (some ⟨w.heap.size + 2, 0, none⟩)]) := by rw [Lib.cell_of_heap HP0.out.nb]; rfl
  go_wp2_with fail
  refine (parts_8 _).mono ?_
  rintro _ w6 ⟨rfl, hw6⟩
  obtain rfl := hw6.symm
  have HLo : Hid (loose (sp s.data.toList) = (⟨8, 0, 0, 0, 0, 0, 0, ⟨#[]⟩⟩ : St)) := Lib.hid (by
    rw [hlo]
    unfold looseK
    skip
    rfl)
  have HT0 : Hid ((0 : Int) ≤ (0 : Int) ∧ (0 : Int) < 18446744073709551616) := Lib.hid ⟨t00, t01⟩
  clear hlo
  go_upto_region 15 with fail
  refine wp_region_lit ?_
  refine wpList_load_row rfl 26 _ rfl T rfl 26 (⟨8, 0, 0, 0, 0, 0, 0, ⟨#[]⟩⟩ : St).cells (0, 0) _ HP0.out.t Tryz.underlying26 rfl (hi8 (⟨8, 0, 0, 0, 0, 0, 0, ⟨#[]⟩⟩ : St)) ?_
  go_wp2_with fail
  by_cases hr : rightP (⟨8, 0, 0, 0, 0, 0, 0, ⟨#[]⟩⟩ : St)
  · refine (line_ok (⟨8, 0, 0, 0, 0, 0, 0, ⟨#[]⟩⟩ : St) hr HT0.out.1 HT0.out.2 _ HP0.out.tab).mono ?_
    rintro _ wl ⟨rfl, hbl⟩
    have HPf := Lib.hid (HP0.out.below hbl)
    by_cases hl : lineB (⟨8, 0, 0, 0, 0, 0, 0, ⟨#[]⟩⟩ : St) = s
    · have HE := Lib.hid (pE_ok HLo.out hr hl)
      have e1 : ((lineB (⟨8, 0, 0, 0, 0, 0, 0, ⟨#[]⟩⟩ : St)).toList == s.toList) = true := by rw [hl]; simp
      generalize lineB (⟨8, 0, 0, 0, 0, 0, 0, ⟨#[]⟩⟩ : St) = y at *
      clear hbl hr hl
      go_upto_region 18 with fail
      refine wp_region_lit ?_
      refine wpList_load_row rfl 26 _ rfl T rfl 26 (⟨8, 0, 0, 0, 0, 0, 0, ⟨#[]⟩⟩ : St).cells (0, 0) _ HPf.out.t Tryz.underlying26 rfl (hi8 (⟨8, 0, 0, 0, 0, 0, 0, ⟨#[]⟩⟩ : St)) ?_
      refine wpList_store_rowTo rfl 26 _ _ rfl rfl w.heap.size (⟨8, 0, 0, 0, 0, 0, 0, ⟨#[]⟩⟩ : St).cells rfl rfl 26 _ HPf.out.r (hi8 (⟨8, 0, 0, 0, 0, 0, 0, ⟨#[]⟩⟩ : St)) rfl (cells8_one _) ?_
      have HR' := setRow_heap wl w.heap.size _ (⟨8, 0, 0, 0, 0, 0, 0, ⟨#[]⟩⟩ : St).cells 26 (0, 0) HPf.out.r
      have hB9 : Below w.heap.size w (wl.setRow w.heap.size (⟨8, 0, 0, 0, 0, 0, 0, ⟨#[]⟩⟩ : St).cells) := ⟨HPf.out.b.os, HPf.out.b.tape, HPf.out.b.output, by simpa using HPf.out.b.size, fun i hi => (setRow_other _ _ _ _ (by omega)).trans (HPf.out.b.block i hi)⟩
      obtain ⟨W9, hW9⟩ : ∃ W9, W9 = wl.setRow w.heap.size (⟨8, 0, 0, 0, 0, 0, 0, ⟨#[]⟩⟩ : St).cells := ⟨_, rfl⟩
      rw [← hW9] at HR' hB9 ⊢
      clear hW9
      go_wp2_with fail
      exact bodyPost_ret (res8 _ _ w.heap.size (⟨8, 0, 0, 0, 0, 0, 0, ⟨#[]⟩⟩ : St) 0 rfl rfl HR') rfl ⟨HE.out.symm, hB9⟩
    · have HE := Lib.hid (pE_bad HLo.out fun h => hl h.2)
      have e1 : ((lineB (⟨8, 0, 0, 0, 0, 0, 0, ⟨#[]⟩⟩ : St)).toList == s.toList) = false := tl_ne hl
      generalize lineB (⟨8, 0, 0, 0, 0, 0, 0, ⟨#[]⟩⟩ : St) = y at *
      clear hbl hr hl
      go_upto_region 17 with fail
      refine wp_region_lit ?_
      refine wpList_step (fun K hK => ?_)
      go_simp
      refine hK _ _ ?_
      clear hK K
      refine wpList_store_rowTo rfl 26 _ _ rfl rfl w.heap.size St0.cells rfl rfl 26 _ HPf.out.r (hi8 St0) rfl (cells8_one _) ?_
      have HR' := setRow_heap wl w.heap.size _ St0.cells 26 (0, 0) HPf.out.r
      have hB9 : Below w.heap.size w (wl.setRow w.heap.size St0.cells) := ⟨HPf.out.b.os, HPf.out.b.tape, HPf.out.b.output, by simpa using HPf.out.b.size, fun i hi => (setRow_other _ _ _ _ (by omega)).trans (HPf.out.b.block i hi)⟩
      obtain ⟨W9, hW9⟩ : ∃ W9, W9 = wl.setRow w.heap.size St0.cells := ⟨_, rfl⟩
      rw [← hW9] at HR' hB9 ⊢
      clear hW9
      go_wp2_with fail
      exact bodyPost_ret (res8 _ _ w.heap.size St0 3 rfl rfl HR') rfl ⟨HE.out.symm, hB9⟩
  · refine (line_bad (⟨8, 0, 0, 0, 0, 0, 0, ⟨#[]⟩⟩ : St) hr _).mono ?_
    rintro _ wl ⟨rfl, hbl⟩
    have HPf := Lib.hid (HP0.out.below hbl)
    have HE := Lib.hid (pE_bad HLo.out fun h => hr h.1)
    clear hbl hr
    go_upto_region 17 with fail
    refine wp_region_lit ?_
    refine wpList_step (fun K hK => ?_)
    go_simp
    refine hK _ _ ?_
    clear hK K
    refine wpList_store_rowTo rfl 26 _ _ rfl rfl w.heap.size St0.cells rfl rfl 26 _ HPf.out.r (hi8 St0) rfl (cells8_one _) ?_
    have HR' := setRow_heap wl w.heap.size _ St0.cells 26 (0, 0) HPf.out.r
    have hB9 : Below w.heap.size w (wl.setRow w.heap.size St0.cells) := ⟨HPf.out.b.os, HPf.out.b.tape, HPf.out.b.output, by simpa using HPf.out.b.size, fun i hi => (setRow_other _ _ _ _ (by omega)).trans (HPf.out.b.block i hi)⟩
    obtain ⟨W9, hW9⟩ : ∃ W9, W9 = wl.setRow w.heap.size St0.cells := ⟨_, rfl⟩
    rw [← hW9] at HR' hB9 ⊢
    clear hW9
    go_wp2_with fail
    exact bodyPost_ret (res8 _ _ w.heap.size St0 3 rfl rfl HR') rfl ⟨HE.out.symm, hB9⟩

theorem parse_any (s : ByteArray) (hs : s.size ≤ 2000) (w : World) (ht : Dec.Tab w) (hE : ErrsLie w) : Calls Tryz.prog 13 #[.string s] w fun e w' => e = pE s ∧ Below w.heap.size w w' := by
  have h8 := kL_le (hd (spB s)).data.toList
  rcases hk : kL (hd (spB s)).data.toList with _ | _ | _ | _ | _ | _ | _ | _ | _ | k
  · exact parse_0 s hs hk w ht hE
  · exact parse_1 s hs hk w ht hE
  · exact parse_2 s hs hk w ht hE
  · exact parse_3 s hs hk w ht hE
  · exact parse_4 s hs hk w ht hE
  · exact parse_5 s hs hk w ht hE
  · exact parse_6 s hs hk w ht hE
  · exact parse_7 s hs hk w ht hE
  · exact parse_8 s hs hk w ht hE
  · omega

end Go.Proofs.YtnjcenbmdcogpaaGreatDoor.Sp
