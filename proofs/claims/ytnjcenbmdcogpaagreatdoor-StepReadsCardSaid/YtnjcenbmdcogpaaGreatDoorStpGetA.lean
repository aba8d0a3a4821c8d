import Derived.Test.YtnjcenbmdcogpaaGreatDoorStpDo
/- Steps: which step any bytes are. -/
namespace Go.Proofs.YtnjcenbmdcogpaaGreatDoor.Sp
open Go Go.Lib Go.RowKit Num
set_option linter.unusedSimpArgs false
set_option linter.unusedVariables false

def g1 (r : Rd.R2) (k : Nat) : Nat × Rd.R2 := if k = 2 ∨ k = 4 ∨ k = 6 then r.num 1 else (0, r)
def g2 (r : Rd.R2) (k : Nat) : Nat × Rd.R2 := if k = 1 then r.num 2147483647 else if k = 5 then r.num 7 else if k = 6 then r.num 4 else (0, r)
def g3 (r : Rd.R2) (k : Nat) : Packet.P5 × Rd.R2 := if k = 3 then r.packet else (⟨0, 0, 0, 0, ⟨#[]⟩⟩, r)
def finG (x : St) (e : Int) : St × Int := if e ≠ 0 then (St0, e) else if rightP x then (x, 0) else (St0, 3)
/-- the step of bytes, or why they are none -/
def getG (s : ByteArray) : St × Int :=
  let k := (Rd.R2.mk s 0).num 8
  let a := g1 k.2 k.1
  let b := g2 a.2 k.1
  let p := g3 b.2 k.1
  finG ⟨(k.1 : Int), (a.1 : Int), (b.1 : Int), p.1.c, p.1.f, p.1.s, p.1.t, p.1.d⟩ p.2.end'
theorem num_r {R m : Nat} {r : Rd.R2} (hm : m < 18446744073709551616) (hz : r.s.size ≤ 1099511627776) (W : World) (hR : Rd.Lies W R r) :
    Calls Tryz.prog 40 #[.pointer (some ⟨R, 0, none⟩), .int .u64 (m : Int)] W fun e w' => e = .returned (.int .u64 ((r.num m).1 : Int)) ∧ Rd.Lies w' R (r.num m).2 ∧ Rd.Only R W w' :=
  Rd.rnum_any R r m hm hz W hR

set_option maxHeartbeats 2000000 in
set_option maxRecDepth 100000 in
theorem gget_0 (s : ByteArray) (hs : s.size ≤ 1099511627776) (hk : ((Rd.R2.mk s 0).num 8).1 = 0) (w : World) : Calls Tryz.prog 12 #[.string s] w fun e w' => e = .returned (.tuple #[.agg (getG s).1.cells, .int .i64 (getG s).2]) ∧ Below w.heap.size w w' := by
  have HN0 := Lib.hid (fun (W : World) (h : Rd.Lies W (w.heap.size + 1) ⟨s, 0⟩) => num_r (m := 8) (by decide) hs W h)
  have hz0 : ((Rd.R2.mk s 0).num 8).2.s.size ≤ 1099511627776 := Nat.le_trans (Rd.R2.num_rest _ _) hs
  have hG : getG s = finG (let k := (Rd.R2.mk s 0).num 8; let a := g1 k.2 0; let b := g2 a.2 0; let p := g3 b.2 0; ⟨0, (a.1 : Int), (b.1 : Int), p.1.c, p.1.f, p.1.s, p.1.t, p.1.d⟩) (let k := (Rd.R2.mk s 0).num 8; let a := g1 k.2 0; let b := g2 a.2 0; let p := g3 b.2 0; p.2.end') := by
    unfold getG; dsimp only; rw [hk]; rfl
  dsimp only at hG
  rw [hk] at HN0
  generalize ((Rd.R2.mk s 0).num 8).2 = r0 at HN0 hz0 hG
  clear hk hs
  have hG : getG s = finG ⟨0, 0, 0, 0, 0, 0, 0, ⟨#[]⟩⟩ r0.end' := hG
  have HE := Lib.hid (fun (W : World) (h : Rd.Lies W (w.heap.size + 1) r0) => Rd.end_any (w.heap.size + 1) r0 W h)
  generalize hee : r0.end' = ee at HE hG
  clear hee
  have HG := Lib.hid hG
  have HRt := Lib.hid (fun W => right_any (⟨0, 0, 0, 0, 0, 0, 0, ⟨#[]⟩⟩ : St) W)
  unfold St.cells at HRt
  dsimp only at HRt
  clear hG
  go_enter Tryz.func12, Tryz.ntmps12
  go_wp2_with fail
  refine (Rd.new_any s _).mono ?_
  rintro _ w1 ⟨rfl, hw⟩
  have hL : Rd.Lies w1 (w.heap.size + 1) ⟨s, 0⟩ := by
    rw [hw]
    have := heap_alloc_new (w.alloc (.cells St0.cells 26)) (.cells #[.string s, .int .i64 0] 95)
    rw [World.size_alloc] at this
    exact this
  have HW := Lib.hid hw
  clear hw
  simp only [World.size_alloc]
  go_wp2_with fail
  refine (HN0.out w1 hL).mono ?_
  rintro _ w2 ⟨rfl, hl2, ho2⟩
  have HQ : Hid (∀ W3, W3 = w2.alloc (.cells (⟨0, 0, 0, 0, 0, 0, 0, ⟨#[]⟩⟩ : St).cells 26) → QX w W3 w2.heap.size _ _) := Lib.hid (fun W3 h => QX.start hl2 (by rw [HW.out] at ho2; exact ho2) h)
  clear hl2 ho2 hL
  go_upto_region 3 with fail
  have HQ0 := Lib.hid (HQ.out _ rfl)
  generalize hT : w2.heap.size = T at HQ0 ⊢
  unfold St.cells at HQ0
  dsimp only at HQ0
  generalize w2.alloc (.cells #[.int .i64 0, .int .i64 0, .int .i64 0, .int .i64 0, .int .i64 0, .int .u64 0, .int .u64 0, .string ⟨#[]⟩] 26) = W3 at HQ0 ⊢
  clear hT HQ HW
  obtain ⟨⟨c0, c1, c2, c3, c4, c5, c6, c7⟩, z1, z2, z3, z4, z5, z6, z7⟩ := HQ0.out.cells
  dsimp only at c0 c1 c2 c3 c4 c5 c6 c7
  have hTw := HQ0.out.hT
  go_wp2_with fail
  refine (parts_o 0 (by decide) (by decide) (by decide) (by decide) (by decide) (by decide) (by decide) (by decide) _).mono ?_
  rintro _ wq ⟨rfl, hq⟩
  obtain rfl := hq.symm
  clear hq
  go_wp2_with fail
  refine (HE.out _ HQ0.out.rd).mono ?_
  rintro _ wq ⟨rfl, hq⟩
  obtain rfl := hq.symm
  clear hq
  clear c0 c1 c2 c3 c4 c5 c6 c7 z1 z2 z3 z4 z5 z6 z7 hTw
  by_cases h0 : ee = 0
  · have H0 := Lib.hid h0
    rw [h0]
    clear h0
    go_upto_region 14 with fail
    refine wp_region_lit ?_
    refine wpList_load_row rfl 26 _ rfl T rfl 26 (⟨0, 0, 0, 0, 0, 0, 0, ⟨#[]⟩⟩ : St).cells (0, 0) _ HQ0.out.t Tryz.underlying26 rfl (hi8 (⟨0, 0, 0, 0, 0, 0, 0, ⟨#[]⟩⟩ : St)) ?_
    go_wp2_with fail
    refine (HRt.out _).mono ?_
    rintro _ wl ⟨rfl, hbl⟩
    have HPf := Lib.hid (HQ0.out.below hbl)
    clear hbl
    by_cases hr : rightP (⟨0, 0, 0, 0, 0, 0, 0, ⟨#[]⟩⟩ : St)
    · rw [decide_eq_true hr]
      have HRR := Lib.hid hr
      clear hr
      go_upto_region 16 with fail
      refine wp_region_lit ?_
      refine wpList_load_row rfl 26 _ rfl T rfl 26 (⟨0, 0, 0, 0, 0, 0, 0, ⟨#[]⟩⟩ : St).cells (0, 0) _ HPf.out.t Tryz.underlying26 rfl (hi8 (⟨0, 0, 0, 0, 0, 0, 0, ⟨#[]⟩⟩ : St)) ?_
      refine wpList_store_rowTo rfl 26 _ _ rfl rfl w.heap.size (⟨0, 0, 0, 0, 0, 0, 0, ⟨#[]⟩⟩ : St).cells rfl rfl 26 _ HPf.out.r0 (hi8 (⟨0, 0, 0, 0, 0, 0, 0, ⟨#[]⟩⟩ : St)) rfl (cells8_one _) ?_
      have HR' := setRow_heap wl w.heap.size _ (⟨0, 0, 0, 0, 0, 0, 0, ⟨#[]⟩⟩ : St).cells 26 (0, 0) HPf.out.r0
      have hB9 : Below w.heap.size w (wl.setRow w.heap.size (⟨0, 0, 0, 0, 0, 0, 0, ⟨#[]⟩⟩ : St).cells) := ⟨HPf.out.b.os, HPf.out.b.tape, HPf.out.b.output, by simpa using HPf.out.b.size, fun i hi => (setRow_other _ _ _ _ (by omega)).trans (HPf.out.b.block i hi)⟩
      obtain ⟨W9, hW9⟩ : ∃ W9, W9 = wl.setRow w.heap.size (⟨0, 0, 0, 0, 0, 0, 0, ⟨#[]⟩⟩ : St).cells := ⟨_, rfl⟩
      rw [← hW9] at HR' hB9 ⊢
      clear hW9
      go_wp2_with fail
      exact bodyPost_ret (res8g _ _ w.heap.size (⟨0, 0, 0, 0, 0, 0, 0, ⟨#[]⟩⟩ : St) 0 rfl rfl HR') rfl ⟨by rw [HG.out]; unfold finG; rw [if_neg (by rw [H0.out]; decide), if_pos HRR.out], hB9⟩
    · rw [decide_eq_false hr]
      have HRR := Lib.hid hr
      clear hr
      go_upto_region 15 with fail
      refine wp_region_lit ?_
      refine wpList_step (fun K hK => ?_)
      go_simp
      refine hK _ _ ?_
      clear hK K
      refine wpList_store_rowTo rfl 26 _ _ rfl rfl w.heap.size St0.cells rfl rfl 26 _ HPf.out.r0 (hi8 St0) rfl (cells8_one _) ?_
      have HR' := setRow_heap wl w.heap.size _ St0.cells 26 (0, 0) HPf.out.r0
      have hB9 : Below w.heap.size w (wl.setRow w.heap.size St0.cells) := ⟨HPf.out.b.os, HPf.out.b.tape, HPf.out.b.output, by simpa using HPf.out.b.size, fun i hi => (setRow_other _ _ _ _ (by omega)).trans (HPf.out.b.block i hi)⟩
      obtain ⟨W9, hW9⟩ : ∃ W9, W9 = wl.setRow w.heap.size St0.cells := ⟨_, rfl⟩
      rw [← hW9] at HR' hB9 ⊢
      clear hW9
      go_wp2_with fail
      exact bodyPost_ret (res8g _ _ w.heap.size St0 3 rfl rfl HR') rfl ⟨by rw [HG.out]; unfold finG; rw [if_neg (by rw [H0.out]; decide), if_neg HRR.out], hB9⟩
  · have H0 := Lib.hid h0
    have he2 : (ee == 0) = false := by simpa using h0
    go_upto_region 13 with fail
    refine wp_region_lit ?_
    refine wpList_step (fun K hK => ?_)
    go_simp
    refine hK _ _ ?_
    clear hK K
    refine wpList_step (fun K hK => ?_)
    go_simp
    refine hK _ _ ?_
    clear hK K
    refine wpList_store_rowTo rfl 26 _ _ rfl rfl w.heap.size St0.cells rfl rfl 26 _ HQ0.out.r0 (hi8 St0) rfl (cells8_one _) ?_
    have HR' := setRow_heap W3 w.heap.size _ St0.cells 26 (0, 0) HQ0.out.r0
    have hB9 : Below w.heap.size w (W3.setRow w.heap.size St0.cells) := ⟨HQ0.out.b.os, HQ0.out.b.tape, HQ0.out.b.output, by simpa using HQ0.out.b.size, fun i hi => (setRow_other _ _ _ _ (by omega)).trans (HQ0.out.b.block i hi)⟩
    obtain ⟨W9, hW9⟩ : ∃ W9, W9 = W3.setRow w.heap.size St0.cells := ⟨_, rfl⟩
    rw [← hW9] at HR' hB9 ⊢
    clear hW9
    go_wp2_with fail
    exact bodyPost_ret (res8g _ _ w.heap.size St0 ee rfl rfl HR') rfl ⟨by rw [HG.out]; unfold finG; rw [if_pos H0.out], hB9⟩

set_option maxHeartbeats 2000000 in
set_option maxRecDepth 100000 in
theorem gget_1 (s : ByteArray) (hs : s.size ≤ 1099511627776) (hk : ((Rd.R2.mk s 0).num 8).1 = 1) (w : World) : Calls Tryz.prog 12 #[.string s] w fun e w' => e = .returned (.tuple #[.agg (getG s).1.cells, .int .i64 (getG s).2]) ∧ Below w.heap.size w w' := by
  have HN0 := Lib.hid (fun (W : World) (h : Rd.Lies W (w.heap.size + 1) ⟨s, 0⟩) => num_r (m := 8) (by decide) hs W h)
  have hz0 : ((Rd.R2.mk s 0).num 8).2.s.size ≤ 1099511627776 := Nat.le_trans (Rd.R2.num_rest _ _) hs
  have hG : getG s = finG (let k := (Rd.R2.mk s 0).num 8; let a := g1 k.2 1; let b := g2 a.2 1; let p := g3 b.2 1; ⟨1, (a.1 : Int), (b.1 : Int), p.1.c, p.1.f, p.1.s, p.1.t, p.1.d⟩) (let k := (Rd.R2.mk s 0).num 8; let a := g1 k.2 1; let b := g2 a.2 1; let p := g3 b.2 1; p.2.end') := by
    unfold getG; dsimp only; rw [hk]; rfl
  dsimp only at hG
  rw [hk] at HN0
  generalize ((Rd.R2.mk s 0).num 8).2 = r0 at HN0 hz0 hG
  clear hk hs
  have HN1 := Lib.hid (fun (W : World) (h : Rd.Lies W (w.heap.size + 1) r0) => num_r (m := 2147483647) (by decide) hz0 W h)
  have hb1 := Rd.R2.num_val r0 2147483647
  have hz1 := Nat.le_trans (Rd.R2.num_rest r0 2147483647) hz0
  have hG : getG s = finG ⟨1, 0, ((r0.num 2147483647).1 : Int), 0, 0, 0, 0, ⟨#[]⟩⟩ (r0.num 2147483647).2.end' := hG
  generalize r0.num 2147483647 = q1 at HN1 hb1 hz1 hG
  obtain ⟨n, r1⟩ := q1
  dsimp only at HN1 hb1 hz1 hG
  have HE := Lib.hid (fun (W : World) (h : Rd.Lies W (w.heap.size + 1) r1) => Rd.end_any (w.heap.size + 1) r1 W h)
  generalize hee : r1.end' = ee at HE hG
  clear hee
  have HG := Lib.hid hG
  have HRt := Lib.hid (fun W => right_any (⟨1, 0, (n : Int), 0, 0, 0, 0, ⟨#[]⟩⟩ : St) W)
  unfold St.cells at HRt
  dsimp only at HRt
  clear hG
  go_enter Tryz.func12, Tryz.ntmps12
  go_wp2_with fail
  refine (Rd.new_any s _).mono ?_
  rintro _ w1 ⟨rfl, hw⟩
  have hL : Rd.Lies w1 (w.heap.size + 1) ⟨s, 0⟩ := by
    rw [hw]
    have := heap_alloc_new (w.alloc (.cells St0.cells 26)) (.cells #[.string s, .int .i64 0] 95)
    rw [World.size_alloc] at this
    exact this
  have HW := Lib.hid hw
  clear hw
  simp only [World.size_alloc]
  go_wp2_with fail
  refine (HN0.out w1 hL).mono ?_
  rintro _ w2 ⟨rfl, hl2, ho2⟩
  have HQ : Hid (∀ W3, W3 = w2.alloc (.cells (⟨1, 0, 0, 0, 0, 0, 0, ⟨#[]⟩⟩ : St).cells 26) → QX w W3 w2.heap.size _ _) := Lib.hid (fun W3 h => QX.start hl2 (by rw [HW.out] at ho2; exact ho2) h)
  clear hl2 ho2 hL
  go_upto_region 3 with fail
  have HQ0 := Lib.hid (HQ.out _ rfl)
  generalize hT : w2.heap.size = T at HQ0 ⊢
  unfold St.cells at HQ0
  dsimp only at HQ0
  generalize w2.alloc (.cells #[.int .i64 1, .int .i64 0, .int .i64 0, .int .i64 0, .int .i64 0, .int .u64 0, .int .u64 0, .string ⟨#[]⟩] 26) = W3 at HQ0 ⊢
  clear hT HQ HW
  obtain ⟨⟨c0, c1, c2, c3, c4, c5, c6, c7⟩, z1, z2, z3, z4, z5, z6, z7⟩ := HQ0.out.cells
  dsimp only at c0 c1 c2 c3 c4 c5 c6 c7
  have hTw := HQ0.out.hT
  go_wp2_with fail
  refine (parts_1 _).mono ?_
  rintro _ wq ⟨rfl, hq⟩
  obtain rfl := hq.symm
  clear hq
  go_wp2_with fail
  refine (bounds_1 _).mono ?_
  rintro _ wq ⟨rfl, hq⟩
  obtain rfl := hq.symm
  clear hq
  go_wp2_with fail
  refine (HN1.out _ HQ0.out.rd).mono ?_
  rintro _ wn1 ⟨rfl, hl1, ho1⟩
  have HA1 := Lib.hid (HQ0.out.only ho1 hl1)
  clear hl1 ho1
  clear c0 c1 c2 c3 c4 c5 c6 c7 z1 z2 z3 z4 z5 z6 z7 hTw
  obtain ⟨⟨c0, c1, c2, c3, c4, c5, c6, c7⟩, z1, z2, z3, z4, z5, z6, z7⟩ := HA1.out.cells
  dsimp only at c0 c1 c2 c3 c4 c5 c6 c7
  have hTw := HA1.out.hT
  go_upto_region 9 with fail
  have HQ1 := Lib.hid (HA1.out.set (x' := (⟨1, 0, (n : Int), 0, 0, 0, 0, ⟨#[]⟩⟩ : St)) 2 (.int .i64 (n : Int)) rfl)
  generalize wn1.setCell ⟨T, 2, none⟩ (.int .i64 (n : Int)) = WQ1 at HQ1 ⊢
  clear c0 c1 c2 c3 c4 c5 c6 c7 z1 z2 z3 z4 z5 z6 z7 hTw
  obtain ⟨⟨c0, c1, c2, c3, c4, c5, c6, c7⟩, z1, z2, z3, z4, z5, z6, z7⟩ := HQ1.out.cells
  dsimp only at c0 c1 c2 c3 c4 c5 c6 c7
  have hTw := HQ1.out.hT
  go_wp2_with fail
  refine (HE.out _ HQ1.out.rd).mono ?_
  rintro _ wq ⟨rfl, hq⟩
  obtain rfl := hq.symm
  clear hq
  clear c0 c1 c2 c3 c4 c5 c6 c7 z1 z2 z3 z4 z5 z6 z7 hTw
  by_cases h0 : ee = 0
  · have H0 := Lib.hid h0
    rw [h0]
    clear h0
    go_upto_region 14 with fail
    refine wp_region_lit ?_
    refine wpList_load_row rfl 26 _ rfl T rfl 26 (⟨1, 0, (n : Int), 0, 0, 0, 0, ⟨#[]⟩⟩ : St).cells (0, 0) _ HQ1.out.t Tryz.underlying26 rfl (hi8 (⟨1, 0, (n : Int), 0, 0, 0, 0, ⟨#[]⟩⟩ : St)) ?_
    go_wp2_with fail
    refine (HRt.out _).mono ?_
    rintro _ wl ⟨rfl, hbl⟩
    have HPf := Lib.hid (HQ1.out.below hbl)
    clear hbl
    by_cases hr : rightP (⟨1, 0, (n : Int), 0, 0, 0, 0, ⟨#[]⟩⟩ : St)
    · rw [decide_eq_true hr]
      have HRR := Lib.hid hr
      clear hr
      go_upto_region 16 with fail
      refine wp_region_lit ?_
      refine wpList_load_row rfl 26 _ rfl T rfl 26 (⟨1, 0, (n : Int), 0, 0, 0, 0, ⟨#[]⟩⟩ : St).cells (0, 0) _ HPf.out.t Tryz.underlying26 rfl (hi8 (⟨1, 0, (n : Int), 0, 0, 0, 0, ⟨#[]⟩⟩ : St)) ?_
      refine wpList_store_rowTo rfl 26 _ _ rfl rfl w.heap.size (⟨1, 0, (n : Int), 0, 0, 0, 0, ⟨#[]⟩⟩ : St).cells rfl rfl 26 _ HPf.out.r0 (hi8 (⟨1, 0, (n : Int), 0, 0, 0, 0, ⟨#[]⟩⟩ : St)) rfl (cells8_one _) ?_
      have HR' := setRow_heap wl w.heap.size _ (⟨1, 0, (n : Int), 0, 0, 0, 0, ⟨#[]⟩⟩ : St).cells 26 (0, 0) HPf.out.r0
      have hB9 : Below w.heap.size w (wl.setRow w.heap.size (⟨1, 0, (n : Int), 0, 0, 0, 0, ⟨#[]⟩⟩ : St).cells) := ⟨HPf.out.b.os, HPf.out.b.tape, HPf.out.b.output, by simpa using HPf.out.b.size, fun i hi => (setRow_other _ _ _ _ (by omega)).trans (HPf.out.b.block i hi)⟩
      obtain ⟨W9, hW9⟩ : ∃ W9, W9 = wl.setRow w.heap.size (⟨1, 0, (n : Int), 0, 0, 0, 0, ⟨#[]⟩⟩ : St).cells := ⟨_, rfl⟩
      rw [← hW9] at HR' hB9 ⊢
      clear hW9
      go_wp2_with fail
      exact bodyPost_ret (res8g _ _ w.heap.size (⟨1, 0, (n : Int), 0, 0, 0, 0, ⟨#[]⟩⟩ : St) 0 rfl rfl HR') rfl ⟨by rw [HG.out]; unfold finG; rw [if_neg (by rw [H0.out]; decide), if_pos HRR.out], hB9⟩
    · rw [decide_eq_false hr]
      have HRR := Lib.hid hr
      clear hr
      go_upto_region 15 with fail
      refine wp_region_lit ?_
      refine wpList_step (fun K hK => ?_)
      go_simp
      refine hK _ _ ?_
      clear hK K
      refine wpList_store_rowTo rfl 26 _ _ rfl rfl w.heap.size St0.cells rfl rfl 26 _ HPf.out.r0 (hi8 St0) rfl (cells8_one _) ?_
      have HR' := setRow_heap wl w.heap.size _ St0.cells 26 (0, 0) HPf.out.r0
      have hB9 : Below w.heap.size w (wl.setRow w.heap.size St0.cells) := ⟨HPf.out.b.os, HPf.out.b.tape, HPf.out.b.output, by simpa using HPf.out.b.size, fun i hi => (setRow_other _ _ _ _ (by omega)).trans (HPf.out.b.block i hi)⟩
      obtain ⟨W9, hW9⟩ : ∃ W9, W9 = wl.setRow w.heap.size St0.cells := ⟨_, rfl⟩
      rw [← hW9] at HR' hB9 ⊢
      clear hW9
      go_wp2_with fail
      exact bodyPost_ret (res8g _ _ w.heap.size St0 3 rfl rfl HR') rfl ⟨by rw [HG.out]; unfold finG; rw [if_neg (by rw [H0.out]; decide), if_neg HRR.out], hB9⟩
  · have H0 := Lib.hid h0
    have he2 : (ee == 0) = false := by simpa using h0
    go_upto_region 13 with fail
    refine wp_region_lit ?_
    refine wpList_step (fun K hK => ?_)
    go_simp
    refine hK _ _ ?_
    clear hK K
    refine wpList_step (fun K hK => ?_)
    go_simp
    refine hK _ _ ?_
    clear hK K
    refine wpList_store_rowTo rfl 26 _ _ rfl rfl w.heap.size St0.cells rfl rfl 26 _ HQ1.out.r0 (hi8 St0) rfl (cells8_one _) ?_
    have HR' := setRow_heap WQ1 w.heap.size _ St0.cells 26 (0, 0) HQ1.out.r0
    have hB9 : Below w.heap.size w (WQ1.setRow w.heap.size St0.cells) := ⟨HQ1.out.b.os, HQ1.out.b.tape, HQ1.out.b.output, by simpa using HQ1.out.b.size, fun i hi => (setRow_other _ _ _ _ (by omega)).trans (HQ1.out.b.block i hi)⟩
    obtain ⟨W9, hW9⟩ : ∃ W9, W9 = WQ1.setRow w.heap.size St0.cells := ⟨_, rfl⟩
    rw [← hW9] at HR' hB9 ⊢
    clear hW9
    go_wp2_with fail
    exact bodyPost_ret (res8g _ _ w.heap.size St0 ee rfl rfl HR') rfl ⟨by rw [HG.out]; unfold finG; rw [if_pos H0.out], hB9⟩

set_option maxHeartbeats 2000000 in
set_option maxRecDepth 100000 in
theorem gget_2 (s : ByteArray) (hs : s.size ≤ 1099511627776) (hk : ((Rd.R2.mk s 0).num 8).1 = 2) (w : World) : Calls Tryz.prog 12 #[.string s] w fun e w' => e = .returned (.tuple #[.agg (getG s).1.cells, .int .i64 (getG s).2]) ∧ Below w.heap.size w w' := by
  have HN0 := Lib.hid (fun (W : World) (h : Rd.Lies W (w.heap.size + 1) ⟨s, 0⟩) => num_r (m := 8) (by decide) hs W h)
  have hz0 : ((Rd.R2.mk s 0).num 8).2.s.size ≤ 1099511627776 := Nat.le_trans (Rd.R2.num_rest _ _) hs
  have hG : getG s = finG (let k := (Rd.R2.mk s 0).num 8; let a := g1 k.2 2; let b := g2 a.2 2; let p := g3 b.2 2; ⟨2, (a.1 : Int), (b.1 : Int), p.1.c, p.1.f, p.1.s, p.1.t, p.1.d⟩) (let k := (Rd.R2.mk s 0).num 8; let a := g1 k.2 2; let b := g2 a.2 2; let p := g3 b.2 2; p.2.end') := by
    unfold getG; dsimp only; rw [hk]; rfl
  dsimp only at hG
  rw [hk] at HN0
  generalize ((Rd.R2.mk s 0).num 8).2 = r0 at HN0 hz0 hG
  clear hk hs
  have HN1 := Lib.hid (fun (W : World) (h : Rd.Lies W (w.heap.size + 1) r0) => num_r (m := 1) (by decide) hz0 W h)
  have hb1 := Rd.R2.num_val r0 1
  have hz1 := Nat.le_trans (Rd.R2.num_rest r0 1) hz0
  have hG : getG s = finG ⟨2, ((r0.num 1).1 : Int), 0, 0, 0, 0, 0, ⟨#[]⟩⟩ (r0.num 1).2.end' := hG
  generalize r0.num 1 = q1 at HN1 hb1 hz1 hG
  obtain ⟨sd, r1⟩ := q1
  dsimp only at HN1 hb1 hz1 hG
  have HE := Lib.hid (fun (W : World) (h : Rd.Lies W (w.heap.size + 1) r1) => Rd.end_any (w.heap.size + 1) r1 W h)
  generalize hee : r1.end' = ee at HE hG
  clear hee
  have HG := Lib.hid hG
  have HRt := Lib.hid (fun W => right_any (⟨2, (sd : Int), 0, 0, 0, 0, 0, ⟨#[]⟩⟩ : St) W)
  unfold St.cells at HRt
  dsimp only at HRt
  clear hG
  go_enter Tryz.func12, Tryz.ntmps12
  go_wp2_with fail
  refine (Rd.new_any s _).mono ?_
  rintro _ w1 ⟨rfl, hw⟩
  have hL : Rd.Lies w1 (w.heap.size + 1) ⟨s, 0⟩ := by
    rw [hw]
    have := heap_alloc_new (w.alloc (.cells St0.cells 26)) (.cells #[.string s, .int .i64 0] 95)
    rw [World.size_alloc] at this
    exact this
  have HW := Lib.hid hw
  clear hw
  simp only [World.size_alloc]
  go_wp2_with fail
  refine (HN0.out w1 hL).mono ?_
  rintro _ w2 ⟨rfl, hl2, ho2⟩
  have HQ : Hid (∀ W3, W3 = w2.alloc (.cells (⟨2, 0, 0, 0, 0, 0, 0, ⟨#[]⟩⟩ : St).cells 26) → QX w W3 w2.heap.size _ _) := Lib.hid (fun W3 h => QX.start hl2 (by rw [HW.out] at ho2; exact ho2) h)
  clear hl2 ho2 hL
  go_upto_region 3 with fail
  have HQ0 := Lib.hid (HQ.out _ rfl)
  generalize hT : w2.heap.size = T at HQ0 ⊢
  unfold St.cells at HQ0
  dsimp only at HQ0
  generalize w2.alloc (.cells #[.int .i64 2, .int .i64 0, .int .i64 0, .int .i64 0, .int .i64 0, .int .u64 0, .int .u64 0, .string ⟨#[]⟩] 26) = W3 at HQ0 ⊢
  clear hT HQ HW
  obtain ⟨⟨c0, c1, c2, c3, c4, c5, c6, c7⟩, z1, z2, z3, z4, z5, z6, z7⟩ := HQ0.out.cells
  dsimp only at c0 c1 c2 c3 c4 c5 c6 c7
  have hTw := HQ0.out.hT
  go_wp2_with fail
  refine (parts_2 _).mono ?_
  rintro _ wq ⟨rfl, hq⟩
  obtain rfl := hq.symm
  clear hq
  go_wp2_with fail
  refine (HN1.out _ HQ0.out.rd).mono ?_
  rintro _ wn1 ⟨rfl, hl1, ho1⟩
  have HA1 := Lib.hid (HQ0.out.only ho1 hl1)
  clear hl1 ho1
  clear c0 c1 c2 c3 c4 c5 c6 c7 z1 z2 z3 z4 z5 z6 z7 hTw
  obtain ⟨⟨c0, c1, c2, c3, c4, c5, c6, c7⟩, z1, z2, z3, z4, z5, z6, z7⟩ := HA1.out.cells
  dsimp only at c0 c1 c2 c3 c4 c5 c6 c7
  have hTw := HA1.out.hT
  go_upto_region 6 with fail
  have HQ1 := Lib.hid (HA1.out.set (x' := (⟨2, (sd : Int), 0, 0, 0, 0, 0, ⟨#[]⟩⟩ : St)) 1 (.int .i64 (sd : Int)) rfl)
  generalize wn1.setCell ⟨T, 1, none⟩ (.int .i64 (sd : Int)) = WQ1 at HQ1 ⊢
  clear c0 c1 c2 c3 c4 c5 c6 c7 z1 z2 z3 z4 z5 z6 z7 hTw
  obtain ⟨⟨c0, c1, c2, c3, c4, c5, c6, c7⟩, z1, z2, z3, z4, z5, z6, z7⟩ := HQ1.out.cells
  dsimp only at c0 c1 c2 c3 c4 c5 c6 c7
  have hTw := HQ1.out.hT
  go_wp2_with fail
  refine (HE.out _ HQ1.out.rd).mono ?_
  rintro _ wq ⟨rfl, hq⟩
  obtain rfl := hq.symm
  clear hq
  clear c0 c1 c2 c3 c4 c5 c6 c7 z1 z2 z3 z4 z5 z6 z7 hTw
  by_cases h0 : ee = 0
  · have H0 := Lib.hid h0
    rw [h0]
    clear h0
    go_upto_region 14 with fail
    refine wp_region_lit ?_
    refine wpList_load_row rfl 26 _ rfl T rfl 26 (⟨2, (sd : Int), 0, 0, 0, 0, 0, ⟨#[]⟩⟩ : St).cells (0, 0) _ HQ1.out.t Tryz.underlying26 rfl (hi8 (⟨2, (sd : Int), 0, 0, 0, 0, 0, ⟨#[]⟩⟩ : St)) ?_
    go_wp2_with fail
    refine (HRt.out _).mono ?_
    rintro _ wl ⟨rfl, hbl⟩
    have HPf := Lib.hid (HQ1.out.below hbl)
    clear hbl
    by_cases hr : rightP (⟨2, (sd : Int), 0, 0, 0, 0, 0, ⟨#[]⟩⟩ : St)
    · rw [decide_eq_true hr]
      have HRR := Lib.hid hr
      clear hr
      go_upto_region 16 with fail
      refine wp_region_lit ?_
      refine wpList_load_row rfl 26 _ rfl T rfl 26 (⟨2, (sd : Int), 0, 0, 0, 0, 0, ⟨#[]⟩⟩ : St).cells (0, 0) _ HPf.out.t Tryz.underlying26 rfl (hi8 (⟨2, (sd : Int), 0, 0, 0, 0, 0, ⟨#[]⟩⟩ : St)) ?_
      refine wpList_store_rowTo rfl 26 _ _ rfl rfl w.heap.size (⟨2, (sd : Int), 0, 0, 0, 0, 0, ⟨#[]⟩⟩ : St).cells rfl rfl 26 _ HPf.out.r0 (hi8 (⟨2, (sd : Int), 0, 0, 0, 0, 0, ⟨#[]⟩⟩ : St)) rfl (cells8_one _) ?_
      have HR' := setRow_heap wl w.heap.size _ (⟨2, (sd : Int), 0, 0, 0, 0, 0, ⟨#[]⟩⟩ : St).cells 26 (0, 0) HPf.out.r0
      have hB9 : Below w.heap.size w (wl.setRow w.heap.size (⟨2, (sd : Int), 0, 0, 0, 0, 0, ⟨#[]⟩⟩ : St).cells) := ⟨HPf.out.b.os, HPf.out.b.tape, HPf.out.b.output, by simpa using HPf.out.b.size, fun i hi => (setRow_other _ _ _ _ (by omega)).trans (HPf.out.b.block i hi)⟩
      obtain ⟨W9, hW9⟩ : ∃ W9, W9 = wl.setRow w.heap.size (⟨2, (sd : Int), 0, 0, 0, 0, 0, ⟨#[]⟩⟩ : St).cells := ⟨_, rfl⟩
      rw [← hW9] at HR' hB9 ⊢
      clear hW9
      go_wp2_with fail
      exact bodyPost_ret (res8g _ _ w.heap.size (⟨2, (sd : Int), 0, 0, 0, 0, 0, ⟨#[]⟩⟩ : St) 0 rfl rfl HR') rfl ⟨by rw [HG.out]; unfold finG; rw [if_neg (by rw [H0.out]; decide), if_pos HRR.out], hB9⟩
    · rw [decide_eq_false hr]
      have HRR := Lib.hid hr
      clear hr
      go_upto_region 15 with fail
      refine wp_region_lit ?_
      refine wpList_step (fun K hK => ?_)
      go_simp
      refine hK _ _ ?_
      clear hK K
      refine wpList_store_rowTo rfl 26 _ _ rfl rfl w.heap.size St0.cells rfl rfl 26 _ HPf.out.r0 (hi8 St0) rfl (cells8_one _) ?_
      have HR' := setRow_heap wl w.heap.size _ St0.cells 26 (0, 0) HPf.out.r0
      have hB9 : Below w.heap.size w (wl.setRow w.heap.size St0.cells) := ⟨HPf.out.b.os, HPf.out.b.tape, HPf.out.b.output, by simpa using HPf.out.b.size, fun i hi => (setRow_other _ _ _ _ (by omega)).trans (HPf.out.b.block i hi)⟩
      obtain ⟨W9, hW9⟩ : ∃ W9, W9 = wl.setRow w.heap.size St0.cells := ⟨_, rfl⟩
      rw [← hW9] at HR' hB9 ⊢
      clear hW9
      go_wp2_with fail
      exact bodyPost_ret (res8g _ _ w.heap.size St0 3 rfl rfl HR') rfl ⟨by rw [HG.out]; unfold finG; rw [if_neg (by rw [H0.out]; decide), if_neg HRR.out], hB9⟩
  · have H0 := Lib.hid h0
    have he2 : (ee == 0) = false := by simpa using h0
    go_upto_region 13 with fail
    refine wp_region_lit ?_
    refine wpList_step (fun K hK => ?_)
    go_simp
    refine hK _ _ ?_
    clear hK K
    refine wpList_step (fun K hK => ?_)
    go_simp
    refine hK _ _ ?_
    clear hK K
    refine wpList_store_rowTo rfl 26 _ _ rfl rfl w.heap.size St0.cells rfl rfl 26 _ HQ1.out.r0 (hi8 St0) rfl (cells8_one _) ?_
    have HR' := setRow_heap WQ1 w.heap.size _ St0.cells 26 (0, 0) HQ1.out.r0
    have hB9 : Below w.heap.size w (WQ1.setRow w.heap.size St0.cells) := ⟨HQ1.out.b.os, HQ1.out.b.tape, HQ1.out.b.output, by simpa using HQ1.out.b.size, fun i hi => (setRow_other _ _ _ _ (by omega)).trans (HQ1.out.b.block i hi)⟩
    obtain ⟨W9, hW9⟩ : ∃ W9, W9 = WQ1.setRow w.heap.size St0.cells := ⟨_, rfl⟩
    rw [← hW9] at HR' hB9 ⊢
    clear hW9
    go_wp2_with fail
    exact bodyPost_ret (res8g _ _ w.heap.size St0 ee rfl rfl HR') rfl ⟨by rw [HG.out]; unfold finG; rw [if_pos H0.out], hB9⟩

set_option maxHeartbeats 2000000 in
set_option maxRecDepth 100000 in
theorem gget_3 (s : ByteArray) (hs : s.size ≤ 1099511627776) (hk : ((Rd.R2.mk s 0).num 8).1 = 3) (w : World) : Calls Tryz.prog 12 #[.string s] w fun e w' => e = .returned (.tuple #[.agg (getG s).1.cells, .int .i64 (getG s).2]) ∧ Below w.heap.size w w' := by
  have HN0 := Lib.hid (fun (W : World) (h : Rd.Lies W (w.heap.size + 1) ⟨s, 0⟩) => num_r (m := 8) (by decide) hs W h)
  have hz0 : ((Rd.R2.mk s 0).num 8).2.s.size ≤ 1099511627776 := Nat.le_trans (Rd.R2.num_rest _ _) hs
  have hG : getG s = finG (let k := (Rd.R2.mk s 0).num 8; let a := g1 k.2 3; let b := g2 a.2 3; let p := g3 b.2 3; ⟨3, (a.1 : Int), (b.1 : Int), p.1.c, p.1.f, p.1.s, p.1.t, p.1.d⟩) (let k := (Rd.R2.mk s 0).num 8; let a := g1 k.2 3; let b := g2 a.2 3; let p := g3 b.2 3; p.2.end') := by
    unfold getG; dsimp only; rw [hk]; rfl
  dsimp only at hG
  rw [hk] at HN0
  generalize ((Rd.R2.mk s 0).num 8).2 = r0 at HN0 hz0 hG
  clear hk hs
  have HN1 := Lib.hid (fun (W : World) (h : Rd.Lies W (w.heap.size + 1) r0) => Rd.take_any (w.heap.size + 1) r0 hz0 W h)
  have hG : getG s = finG ⟨3, 0, 0, r0.packet.1.c, r0.packet.1.f, r0.packet.1.s, r0.packet.1.t, r0.packet.1.d⟩ r0.packet.2.end' := hG
  generalize r0.packet = pq at HN1 hG
  obtain ⟨⟨c, f, sq, t, d⟩, r1⟩ := pq
  dsimp only at HN1 hG
  have HE := Lib.hid (fun (W : World) (h : Rd.Lies W (w.heap.size + 1) r1) => Rd.end_any (w.heap.size + 1) r1 W h)
  generalize hee : r1.end' = ee at HE hG
  clear hee
  have HG := Lib.hid hG
  have HRt := Lib.hid (fun W => right_any (⟨3, 0, 0, c, f, sq, t, d⟩ : St) W)
  unfold St.cells at HRt
  dsimp only at HRt
  clear hG
  go_enter Tryz.func12, Tryz.ntmps12
  go_wp2_with fail
  refine (Rd.new_any s _).mono ?_
  rintro _ w1 ⟨rfl, hw⟩
  have hL : Rd.Lies w1 (w.heap.size + 1) ⟨s, 0⟩ := by
    rw [hw]
    have := heap_alloc_new (w.alloc (.cells St0.cells 26)) (.cells #[.string s, .int .i64 0] 95)
    rw [World.size_alloc] at this
    exact this
  have HW := Lib.hid hw
  clear hw
  simp only [World.size_alloc]
  go_wp2_with fail
  refine (HN0.out w1 hL).mono ?_
  rintro _ w2 ⟨rfl, hl2, ho2⟩
  have HQ : Hid (∀ W3, W3 = w2.alloc (.cells (⟨3, 0, 0, 0, 0, 0, 0, ⟨#[]⟩⟩ : St).cells 26) → QX w W3 w2.heap.size _ _) := Lib.hid (fun W3 h => QX.start hl2 (by rw [HW.out] at ho2; exact ho2) h)
  clear hl2 ho2 hL
  go_upto_region 3 with fail
  have HQ0 := Lib.hid (HQ.out _ rfl)
  generalize hT : w2.heap.size = T at HQ0 ⊢
  unfold St.cells at HQ0
  dsimp only at HQ0
  generalize w2.alloc (.cells #[.int .i64 3, .int .i64 0, .int .i64 0, .int .i64 0, .int .i64 0, .int .u64 0, .int .u64 0, .string ⟨#[]⟩] 26) = W3 at HQ0 ⊢
  clear hT HQ HW
  obtain ⟨⟨c0, c1, c2, c3, c4, c5, c6, c7⟩, z1, z2, z3, z4, z5, z6, z7⟩ := HQ0.out.cells
  dsimp only at c0 c1 c2 c3 c4 c5 c6 c7
  have hTw := HQ0.out.hT
  go_wp2_with fail
  refine (parts_3 _).mono ?_
  rintro _ wq ⟨rfl, hq⟩
  obtain rfl := hq.symm
  clear hq
  go_wp2_with fail
  refine (HN1.out _ HQ0.out.rd).mono ?_
  rintro _ wn1 ⟨rfl, hl1, ho1⟩
  have HA1 := Lib.hid (HQ0.out.only ho1 hl1)
  clear hl1 ho1
  clear c0 c1 c2 c3 c4 c5 c6 c7 z1 z2 z3 z4 z5 z6 z7 hTw
  obtain ⟨⟨c0, c1, c2, c3, c4, c5, c6, c7⟩, z1, z2, z3, z4, z5, z6, z7⟩ := HA1.out.cells
  dsimp only at c0 c1 c2 c3 c4 c5 c6 c7
  have hTw := HA1.out.hT
  unfold Packet.P5.cells
  dsimp only
  go_upto_region 11 with fail
  have HQ1 := Lib.hid (((((HA1.out.set (x' := (⟨3, 0, 0, c, 0, 0, 0, ⟨#[]⟩⟩ : St)) 3 (.int .i64 c) rfl).set (x' := (⟨3, 0, 0, c, f, 0, 0, ⟨#[]⟩⟩ : St)) 4 (.int .i64 f) rfl).set (x' := (⟨3, 0, 0, c, f, sq, 0, ⟨#[]⟩⟩ : St)) 5 (.int .u64 sq) rfl).set (x' := (⟨3, 0, 0, c, f, sq, t, ⟨#[]⟩⟩ : St)) 6 (.int .u64 t) rfl).set (x' := (⟨3, 0, 0, c, f, sq, t, d⟩ : St)) 7 (.string d) rfl)
  generalize ((((wn1.setCell ⟨T, 3, none⟩ (.int .i64 c)).setCell ⟨T, 4, none⟩ (.int .i64 f)).setCell ⟨T, 5, none⟩ (.int .u64 sq)).setCell ⟨T, 6, none⟩ (.int .u64 t)).setCell ⟨T, 7, none⟩ (.string d) = WQ1 at HQ1 ⊢
  clear c0 c1 c2 c3 c4 c5 c6 c7 z1 z2 z3 z4 z5 z6 z7 hTw
  obtain ⟨⟨c0, c1, c2, c3, c4, c5, c6, c7⟩, z1, z2, z3, z4, z5, z6, z7⟩ := HQ1.out.cells
  dsimp only at c0 c1 c2 c3 c4 c5 c6 c7
  have hTw := HQ1.out.hT
  go_wp2_with fail
  refine (HE.out _ HQ1.out.rd).mono ?_
  rintro _ wq ⟨rfl, hq⟩
  obtain rfl := hq.symm
  clear hq
  clear c0 c1 c2 c3 c4 c5 c6 c7 z1 z2 z3 z4 z5 z6 z7 hTw
  by_cases h0 : ee = 0
  · have H0 := Lib.hid h0
    rw [h0]
    clear h0
    go_upto_region 14 with fail
    refine wp_region_lit ?_
    refine wpList_load_row rfl 26 _ rfl T rfl 26 (⟨3, 0, 0, c, f, sq, t, d⟩ : St).cells (0, 0) _ HQ1.out.t Tryz.underlying26 rfl (hi8 (⟨3, 0, 0, c, f, sq, t, d⟩ : St)) ?_
    go_wp2_with fail
    refine (HRt.out _).mono ?_
    rintro _ wl ⟨rfl, hbl⟩
    have HPf := Lib.hid (HQ1.out.below hbl)
    clear hbl
    by_cases hr : rightP (⟨3, 0, 0, c, f, sq, t, d⟩ : St)
    · rw [decide_eq_true hr]
      have HRR := Lib.hid hr
      clear hr
      go_upto_region 16 with fail
      refine wp_region_lit ?_
      refine wpList_load_row rfl 26 _ rfl T rfl 26 (⟨3, 0, 0, c, f, sq, t, d⟩ : St).cells (0, 0) _ HPf.out.t Tryz.underlying26 rfl (hi8 (⟨3, 0, 0, c, f, sq, t, d⟩ : St)) ?_
      refine wpList_store_rowTo rfl 26 _ _ rfl rfl w.heap.size (⟨3, 0, 0, c, f, sq, t, d⟩ : St).cells rfl rfl 26 _ HPf.out.r0 (hi8 (⟨3, 0, 0, c, f, sq, t, d⟩ : St)) rfl (cells8_one _) ?_
      have HR' := setRow_heap wl w.heap.size _ (⟨3, 0, 0, c, f, sq, t, d⟩ : St).cells 26 (0, 0) HPf.out.r0
      have hB9 : Below w.heap.size w (wl.setRow w.heap.size (⟨3, 0, 0, c, f, sq, t, d⟩ : St).cells) := ⟨HPf.out.b.os, HPf.out.b.tape, HPf.out.b.output, by simpa using HPf.out.b.size, fun i hi => (setRow_other _ _ _ _ (by omega)).trans (HPf.out.b.block i hi)⟩
      obtain ⟨W9, hW9⟩ : ∃ W9, W9 = wl.setRow w.heap.size (⟨3, 0, 0, c, f, sq, t, d⟩ : St).cells := ⟨_, rfl⟩
      rw [← hW9] at HR' hB9 ⊢
      clear hW9
      go_wp2_with fail
      exact bodyPost_ret (res8g _ _ w.heap.size (⟨3, 0, 0, c, f, sq, t, d⟩ : St) 0 rfl rfl HR') rfl ⟨by rw [HG.out]; unfold finG; rw [if_neg (by rw [H0.out]; decide), if_pos HRR.out], hB9⟩
    · rw [decide_eq_false hr]
      have HRR := Lib.hid hr
      clear hr
      go_upto_region 15 with fail
      refine wp_region_lit ?_
      refine wpList_step (fun K hK => ?_)
      go_simp
      refine hK _ _ ?_
      clear hK K
      refine wpList_store_rowTo rfl 26 _ _ rfl rfl w.heap.size St0.cells rfl rfl 26 _ HPf.out.r0 (hi8 St0) rfl (cells8_one _) ?_
      have HR' := setRow_heap wl w.heap.size _ St0.cells 26 (0, 0) HPf.out.r0
      have hB9 : Below w.heap.size w (wl.setRow w.heap.size St0.cells) := ⟨HPf.out.b.os, HPf.out.b.tape, HPf.out.b.output, by simpa using HPf.out.b.size, fun i hi => (setRow_other _ _ _ _ (by omega)).trans (HPf.out.b.block i hi)⟩
      obtain ⟨W9, hW9⟩ : ∃ W9, W9 = wl.setRow w.heap.size St0.cells := ⟨_, rfl⟩
      rw [← hW9] at HR' hB9 ⊢
      clear hW9
      go_wp2_with fail
      exact bodyPost_ret (res8g _ _ w.heap.size St0 3 rfl rfl HR') rfl ⟨by rw [HG.out]; unfold finG; rw [if_neg (by rw [H0.out]; decide), if_neg HRR.out], hB9⟩
  · have H0 := Lib.hid h0
    have he2 : (ee == 0) = false := by simpa using h0
    go_upto_region 13 with fail
    refine wp_region_lit ?_
    refine wpList_step (fun K hK => ?_)
    go_simp
    refine hK _ _ ?_
    clear hK K
    refine wpList_step (fun K hK => ?_)
    go_simp
    refine hK _ _ ?_
    clear hK K
    refine wpList_store_rowTo rfl 26 _ _ rfl rfl w.heap.size St0.cells rfl rfl 26 _ HQ1.out.r0 (hi8 St0) rfl (cells8_one _) ?_
    have HR' := setRow_heap WQ1 w.heap.size _ St0.cells 26 (0, 0) HQ1.out.r0
    have hB9 : Below w.heap.size w (WQ1.setRow w.heap.size St0.cells) := ⟨HQ1.out.b.os, HQ1.out.b.tape, HQ1.out.b.output, by simpa using HQ1.out.b.size, fun i hi => (setRow_other _ _ _ _ (by omega)).trans (HQ1.out.b.block i hi)⟩
    obtain ⟨W9, hW9⟩ : ∃ W9, W9 = WQ1.setRow w.heap.size St0.cells := ⟨_, rfl⟩
    rw [← hW9] at HR' hB9 ⊢
    clear hW9
    go_wp2_with fail
    exact bodyPost_ret (res8g _ _ w.heap.size St0 ee rfl rfl HR') rfl ⟨by rw [HG.out]; unfold finG; rw [if_pos H0.out], hB9⟩

set_option maxHeartbeats 2000000 in
set_option maxRecDepth 100000 in
theorem gget_4 (s : ByteArray) (hs : s.size ≤ 1099511627776) (hk : ((Rd.R2.mk s 0).num 8).1 = 4) (w : World) : Calls Tryz.prog 12 #[.string s] w fun e w' => e = .returned (.tuple #[.agg (getG s).1.cells, .int .i64 (getG s).2]) ∧ Below w.heap.size w w' := by
  have HN0 := Lib.hid (fun (W : World) (h : Rd.Lies W (w.heap.size + 1) ⟨s, 0⟩) => num_r (m := 8) (by decide) hs W h)
  have hz0 : ((Rd.R2.mk s 0).num 8).2.s.size ≤ 1099511627776 := Nat.le_trans (Rd.R2.num_rest _ _) hs
  have hG : getG s = finG (let k := (Rd.R2.mk s 0).num 8; let a := g1 k.2 4; let b := g2 a.2 4; let p := g3 b.2 4; ⟨4, (a.1 : Int), (b.1 : Int), p.1.c, p.1.f, p.1.s, p.1.t, p.1.d⟩) (let k := (Rd.R2.mk s 0).num 8; let a := g1 k.2 4; let b := g2 a.2 4; let p := g3 b.2 4; p.2.end') := by
    unfold getG; dsimp only; rw [hk]; rfl
  dsimp only at hG
  rw [hk] at HN0
  generalize ((Rd.R2.mk s 0).num 8).2 = r0 at HN0 hz0 hG
  clear hk hs
  have HN1 := Lib.hid (fun (W : World) (h : Rd.Lies W (w.heap.size + 1) r0) => num_r (m := 1) (by decide) hz0 W h)
  have hb1 := Rd.R2.num_val r0 1
  have hz1 := Nat.le_trans (Rd.R2.num_rest r0 1) hz0
  have hG : getG s = finG ⟨4, ((r0.num 1).1 : Int), 0, 0, 0, 0, 0, ⟨#[]⟩⟩ (r0.num 1).2.end' := hG
  generalize r0.num 1 = q1 at HN1 hb1 hz1 hG
  obtain ⟨sd, r1⟩ := q1
  dsimp only at HN1 hb1 hz1 hG
  have HE := Lib.hid (fun (W : World) (h : Rd.Lies W (w.heap.size + 1) r1) => Rd.end_any (w.heap.size + 1) r1 W h)
  generalize hee : r1.end' = ee at HE hG
  clear hee
  have HG := Lib.hid hG
  have HRt := Lib.hid (fun W => right_any (⟨4, (sd : Int), 0, 0, 0, 0, 0, ⟨#[]⟩⟩ : St) W)
  unfold St.cells at HRt
  dsimp only at HRt
  clear hG
  go_enter Tryz.func12, Tryz.ntmps12
  go_wp2_with fail
  refine (Rd.new_any s _).mono ?_
  rintro _ w1 ⟨rfl, hw⟩
  have hL : Rd.Lies w1 (w.heap.size + 1) ⟨s, 0⟩ := by
    rw [hw]
    have := heap_alloc_new (w.alloc (.cells St0.cells 26)) (.cells #[.string s, .int .i64 0] 95)
    rw [World.size_alloc] at this
    exact this
  have HW := Lib.hid hw
  clear hw
  simp only [World.size_alloc]
  go_wp2_with fail
  refine (HN0.out w1 hL).mono ?_
  rintro _ w2 ⟨rfl, hl2, ho2⟩
  have HQ : Hid (∀ W3, W3 = w2.alloc (.cells (⟨4, 0, 0, 0, 0, 0, 0, ⟨#[]⟩⟩ : St).cells 26) → QX w W3 w2.heap.size _ _) := Lib.hid (fun W3 h => QX.start hl2 (by rw [HW.out] at ho2; exact ho2) h)
  clear hl2 ho2 hL
  go_upto_region 3 with fail
  have HQ0 := Lib.hid (HQ.out _ rfl)
  generalize hT : w2.heap.size = T at HQ0 ⊢
  unfold St.cells at HQ0
  dsimp only at HQ0
  generalize w2.alloc (.cells #[.int .i64 4, .int .i64 0, .int .i64 0, .int .i64 0, .int .i64 0, .int .u64 0, .int .u64 0, .string ⟨#[]⟩] 26) = W3 at HQ0 ⊢
  clear hT HQ HW
  obtain ⟨⟨c0, c1, c2, c3, c4, c5, c6, c7⟩, z1, z2, z3, z4, z5, z6, z7⟩ := HQ0.out.cells
  dsimp only at c0 c1 c2 c3 c4 c5 c6 c7
  have hTw := HQ0.out.hT
  go_wp2_with fail
  refine (parts_4 _).mono ?_
  rintro _ wq ⟨rfl, hq⟩
  obtain rfl := hq.symm
  clear hq
  go_wp2_with fail
  refine (HN1.out _ HQ0.out.rd).mono ?_
  rintro _ wn1 ⟨rfl, hl1, ho1⟩
  have HA1 := Lib.hid (HQ0.out.only ho1 hl1)
  clear hl1 ho1
  clear c0 c1 c2 c3 c4 c5 c6 c7 z1 z2 z3 z4 z5 z6 z7 hTw
  obtain ⟨⟨c0, c1, c2, c3, c4, c5, c6, c7⟩, z1, z2, z3, z4, z5, z6, z7⟩ := HA1.out.cells
  dsimp only at c0 c1 c2 c3 c4 c5 c6 c7
  have hTw := HA1.out.hT
  go_upto_region 6 with fail
  have HQ1 := Lib.hid (HA1.out.set (x' := (⟨4, (sd : Int), 0, 0, 0, 0, 0, ⟨#[]⟩⟩ : St)) 1 (.int .i64 (sd : Int)) rfl)
  generalize wn1.setCell ⟨T, 1, none⟩ (.int .i64 (sd : Int)) = WQ1 at HQ1 ⊢
  clear c0 c1 c2 c3 c4 c5 c6 c7 z1 z2 z3 z4 z5 z6 z7 hTw
  obtain ⟨⟨c0, c1, c2, c3, c4, c5, c6, c7⟩, z1, z2, z3, z4, z5, z6, z7⟩ := HQ1.out.cells
  dsimp only at c0 c1 c2 c3 c4 c5 c6 c7
  have hTw := HQ1.out.hT
  go_wp2_with fail
  refine (HE.out _ HQ1.out.rd).mono ?_
  rintro _ wq ⟨rfl, hq⟩
  obtain rfl := hq.symm
  clear hq
  clear c0 c1 c2 c3 c4 c5 c6 c7 z1 z2 z3 z4 z5 z6 z7 hTw
  by_cases h0 : ee = 0
  · have H0 := Lib.hid h0
    rw [h0]
    clear h0
    go_upto_region 14 with fail
    refine wp_region_lit ?_
    refine wpList_load_row rfl 26 _ rfl T rfl 26 (⟨4, (sd : Int), 0, 0, 0, 0, 0, ⟨#[]⟩⟩ : St).cells (0, 0) _ HQ1.out.t Tryz.underlying26 rfl (hi8 (⟨4, (sd : Int), 0, 0, 0, 0, 0, ⟨#[]⟩⟩ : St)) ?_
    go_wp2_with fail
    refine (HRt.out _).mono ?_
    rintro _ wl ⟨rfl, hbl⟩
    have HPf := Lib.hid (HQ1.out.below hbl)
    clear hbl
    by_cases hr : rightP (⟨4, (sd : Int), 0, 0, 0, 0, 0, ⟨#[]⟩⟩ : St)
    · rw [decide_eq_true hr]
      have HRR := Lib.hid hr
      clear hr
      go_upto_region 16 with fail
      refine wp_region_lit ?_
      refine wpList_load_row rfl 26 _ rfl T rfl 26 (⟨4, (sd : Int), 0, 0, 0, 0, 0, ⟨#[]⟩⟩ : St).cells (0, 0) _ HPf.out.t Tryz.underlying26 rfl (hi8 (⟨4, (sd : Int), 0, 0, 0, 0, 0, ⟨#[]⟩⟩ : St)) ?_
      refine wpList_store_rowTo rfl 26 _ _ rfl rfl w.heap.size (⟨4, (sd : Int), 0, 0, 0, 0, 0, ⟨#[]⟩⟩ : St).cells rfl rfl 26 _ HPf.out.r0 (hi8 (⟨4, (sd : Int), 0, 0, 0, 0, 0, ⟨#[]⟩⟩ : St)) rfl (cells8_one _) ?_
      have HR' := setRow_heap wl w.heap.size _ (⟨4, (sd : Int), 0, 0, 0, 0, 0, ⟨#[]⟩⟩ : St).cells 26 (0, 0) HPf.out.r0
      have hB9 : Below w.heap.size w (wl.setRow w.heap.size (⟨4, (sd : Int), 0, 0, 0, 0, 0, ⟨#[]⟩⟩ : St).cells) := ⟨HPf.out.b.os, HPf.out.b.tape, HPf.out.b.output, by simpa using HPf.out.b.size, fun i hi => (setRow_other _ _ _ _ (by omega)).trans (HPf.out.b.block i hi)⟩
      obtain ⟨W9, hW9⟩ : ∃ W9, W9 = wl.setRow w.heap.size (⟨4, (sd : Int), 0, 0, 0, 0, 0, ⟨#[]⟩⟩ : St).cells := ⟨_, rfl⟩
      rw [← hW9] at HR' hB9 ⊢
      clear hW9
      go_wp2_with fail
      exact bodyPost_ret (res8g _ _ w.heap.size (⟨4, (sd : Int), 0, 0, 0, 0, 0, ⟨#[]⟩⟩ : St) 0 rfl rfl HR') rfl ⟨by rw [HG.out]; unfold finG; rw [if_neg (by rw [H0.out]; decide), if_pos HRR.out], hB9⟩
    · rw [decide_eq_false hr]
      have HRR := Lib.hid hr
      clear hr
      go_upto_region 15 with fail
      refine wp_region_lit ?_
      refine wpList_step (fun K hK => ?_)
      go_simp
      refine hK _ _ ?_
      clear hK K
      refine wpList_store_rowTo rfl 26 _ _ rfl rfl w.heap.size St0.cells rfl rfl 26 _ HPf.out.r0 (hi8 St0) rfl (cells8_one _) ?_
      have HR' := setRow_heap wl w.heap.size _ St0.cells 26 (0, 0) HPf.out.r0
      have hB9 : Below w.heap.size w (wl.setRow w.heap.size St0.cells) := ⟨HPf.out.b.os, HPf.out.b.tape, HPf.out.b.output, by simpa using HPf.out.b.size, fun i hi => (setRow_other _ _ _ _ (by omega)).trans (HPf.out.b.block i hi)⟩
      obtain ⟨W9, hW9⟩ : ∃ W9, W9 = wl.setRow w.heap.size St0.cells := ⟨_, rfl⟩
      rw [← hW9] at HR' hB9 ⊢
      clear hW9
      go_wp2_with fail
      exact bodyPost_ret (res8g _ _ w.heap.size St0 3 rfl rfl HR') rfl ⟨by rw [HG.out]; unfold finG; rw [if_neg (by rw [H0.out]; decide), if_neg HRR.out], hB9⟩
  · have H0 := Lib.hid h0
    have he2 : (ee == 0) = false := by simpa using h0
    go_upto_region 13 with fail
    refine wp_region_lit ?_
    refine wpList_step (fun K hK => ?_)
    go_simp
    refine hK _ _ ?_
    clear hK K
    refine wpList_step (fun K hK => ?_)
    go_simp
    refine hK _ _ ?_
    clear hK K
    refine wpList_store_rowTo rfl 26 _ _ rfl rfl w.heap.size St0.cells rfl rfl 26 _ HQ1.out.r0 (hi8 St0) rfl (cells8_one _) ?_
    have HR' := setRow_heap WQ1 w.heap.size _ St0.cells 26 (0, 0) HQ1.out.r0
    have hB9 : Below w.heap.size w (WQ1.setRow w.heap.size St0.cells) := ⟨HQ1.out.b.os, HQ1.out.b.tape, HQ1.out.b.output, by simpa using HQ1.out.b.size, fun i hi => (setRow_other _ _ _ _ (by omega)).trans (HQ1.out.b.block i hi)⟩
    obtain ⟨W9, hW9⟩ : ∃ W9, W9 = WQ1.setRow w.heap.size St0.cells := ⟨_, rfl⟩
    rw [← hW9] at HR' hB9 ⊢
    clear hW9
    go_wp2_with fail
    exact bodyPost_ret (res8g _ _ w.heap.size St0 ee rfl rfl HR') rfl ⟨by rw [HG.out]; unfold finG; rw [if_pos H0.out], hB9⟩

set_option maxHeartbeats 2000000 in
set_option maxRecDepth 100000 in
theorem gget_5 (s : ByteArray) (hs : s.size ≤ 1099511627776) (hk : ((Rd.R2.mk s 0).num 8).1 = 5) (w : World) : Calls Tryz.prog 12 #[.string s] w fun e w' => e = .returned (.tuple #[.agg (getG s).1.cells, .int .i64 (getG s).2]) ∧ Below w.heap.size w w' := by
  have HN0 := Lib.hid (fun (W : World) (h : Rd.Lies W (w.heap.size + 1) ⟨s, 0⟩) => num_r (m := 8) (by decide) hs W h)
  have hz0 : ((Rd.R2.mk s 0).num 8).2.s.size ≤ 1099511627776 := Nat.le_trans (Rd.R2.num_rest _ _) hs
  have hG : getG s = finG (let k := (Rd.R2.mk s 0).num 8; let a := g1 k.2 5; let b := g2 a.2 5; let p := g3 b.2 5; ⟨5, (a.1 : Int), (b.1 : Int), p.1.c, p.1.f, p.1.s, p.1.t, p.1.d⟩) (let k := (Rd.R2.mk s 0).num 8; let a := g1 k.2 5; let b := g2 a.2 5; let p := g3 b.2 5; p.2.end') := by
    unfold getG; dsimp only; rw [hk]; rfl
  dsimp only at hG
  rw [hk] at HN0
  generalize ((Rd.R2.mk s 0).num 8).2 = r0 at HN0 hz0 hG
  clear hk hs
  have HN1 := Lib.hid (fun (W : World) (h : Rd.Lies W (w.heap.size + 1) r0) => num_r (m := 7) (by decide) hz0 W h)
  have hb1 := Rd.R2.num_val r0 7
  have hz1 := Nat.le_trans (Rd.R2.num_rest r0 7) hz0
  have hG : getG s = finG ⟨5, 0, ((r0.num 7).1 : Int), 0, 0, 0, 0, ⟨#[]⟩⟩ (r0.num 7).2.end' := hG
  generalize r0.num 7 = q1 at HN1 hb1 hz1 hG
  obtain ⟨n, r1⟩ := q1
  dsimp only at HN1 hb1 hz1 hG
  have HE := Lib.hid (fun (W : World) (h : Rd.Lies W (w.heap.size + 1) r1) => Rd.end_any (w.heap.size + 1) r1 W h)
  generalize hee : r1.end' = ee at HE hG
  clear hee
  have HG := Lib.hid hG
  have HRt := Lib.hid (fun W => right_any (⟨5, 0, (n : Int), 0, 0, 0, 0, ⟨#[]⟩⟩ : St) W)
  unfold St.cells at HRt
  dsimp only at HRt
  clear hG
  go_enter Tryz.func12, Tryz.ntmps12
  go_wp2_with fail
  refine (Rd.new_any s _).mono ?_
  rintro _ w1 ⟨rfl, hw⟩
  have hL : Rd.Lies w1 (w.heap.size + 1) ⟨s, 0⟩ := by
    rw [hw]
    have := heap_alloc_new (w.alloc (.cells St0.cells 26)) (.cells #[.string s, .int .i64 0] 95)
    rw [World.size_alloc] at this
    exact this
  have HW := Lib.hid hw
  clear hw
  simp only [World.size_alloc]
  go_wp2_with fail
  refine (HN0.out w1 hL).mono ?_
  rintro _ w2 ⟨rfl, hl2, ho2⟩
  have HQ : Hid (∀ W3, W3 = w2.alloc (.cells (⟨5, 0, 0, 0, 0, 0, 0, ⟨#[]⟩⟩ : St).cells 26) → QX w W3 w2.heap.size _ _) := Lib.hid (fun W3 h => QX.start hl2 (by rw [HW.out] at ho2; exact ho2) h)
  clear hl2 ho2 hL
  go_upto_region 3 with fail
  have HQ0 := Lib.hid (HQ.out _ rfl)
  generalize hT : w2.heap.size = T at HQ0 ⊢
  unfold St.cells at HQ0
  dsimp only at HQ0
  generalize w2.alloc (.cells #[.int .i64 5, .int .i64 0, .int .i64 0, .int .i64 0, .int .i64 0, .int .u64 0, .int .u64 0, .string ⟨#[]⟩] 26) = W3 at HQ0 ⊢
  clear hT HQ HW
  obtain ⟨⟨c0, c1, c2, c3, c4, c5, c6, c7⟩, z1, z2, z3, z4, z5, z6, z7⟩ := HQ0.out.cells
  dsimp only at c0 c1 c2 c3 c4 c5 c6 c7
  have hTw := HQ0.out.hT
  go_wp2_with fail
  refine (parts_5 _).mono ?_
  rintro _ wq ⟨rfl, hq⟩
  obtain rfl := hq.symm
  clear hq
  go_wp2_with fail
  refine (bounds_5 _).mono ?_
  rintro _ wq ⟨rfl, hq⟩
  obtain rfl := hq.symm
  clear hq
  go_wp2_with fail
  refine (HN1.out _ HQ0.out.rd).mono ?_
  rintro _ wn1 ⟨rfl, hl1, ho1⟩
  have HA1 := Lib.hid (HQ0.out.only ho1 hl1)
  clear hl1 ho1
  clear c0 c1 c2 c3 c4 c5 c6 c7 z1 z2 z3 z4 z5 z6 z7 hTw
  obtain ⟨⟨c0, c1, c2, c3, c4, c5, c6, c7⟩, z1, z2, z3, z4, z5, z6, z7⟩ := HA1.out.cells
  dsimp only at c0 c1 c2 c3 c4 c5 c6 c7
  have hTw := HA1.out.hT
  go_upto_region 9 with fail
  have HQ1 := Lib.hid (HA1.out.set (x' := (⟨5, 0, (n : Int), 0, 0, 0, 0, ⟨#[]⟩⟩ : St)) 2 (.int .i64 (n : Int)) rfl)
  generalize wn1.setCell ⟨T, 2, none⟩ (.int .i64 (n : Int)) = WQ1 at HQ1 ⊢
  clear c0 c1 c2 c3 c4 c5 c6 c7 z1 z2 z3 z4 z5 z6 z7 hTw
  obtain ⟨⟨c0, c1, c2, c3, c4, c5, c6, c7⟩, z1, z2, z3, z4, z5, z6, z7⟩ := HQ1.out.cells
  dsimp only at c0 c1 c2 c3 c4 c5 c6 c7
  have hTw := HQ1.out.hT
  go_wp2_with fail
  refine (HE.out _ HQ1.out.rd).mono ?_
  rintro _ wq ⟨rfl, hq⟩
  obtain rfl := hq.symm
  clear hq
  clear c0 c1 c2 c3 c4 c5 c6 c7 z1 z2 z3 z4 z5 z6 z7 hTw
  by_cases h0 : ee = 0
  · have H0 := Lib.hid h0
    rw [h0]
    clear h0
    go_upto_region 14 with fail
    refine wp_region_lit ?_
    refine wpList_load_row rfl 26 _ rfl T rfl 26 (⟨5, 0, (n : Int), 0, 0, 0, 0, ⟨#[]⟩⟩ : St).cells (0, 0) _ HQ1.out.t Tryz.underlying26 rfl (hi8 (⟨5, 0, (n : Int), 0, 0, 0, 0, ⟨#[]⟩⟩ : St)) ?_
    go_wp2_with fail
    refine (HRt.out _).mono ?_
    rintro _ wl ⟨rfl, hbl⟩
    have HPf := Lib.hid (HQ1.out.below hbl)
    clear hbl
    by_cases hr : rightP (⟨5, 0, (n : Int), 0, 0, 0, 0, ⟨#[]⟩⟩ : St)
    · rw [decide_eq_true hr]
      have HRR := Lib.hid hr
      clear hr
      go_upto_region 16 with fail
      refine wp_region_lit ?_
      refine wpList_load_row rfl 26 _ rfl T rfl 26 (⟨5, 0, (n : Int), 0, 0, 0, 0, ⟨#[]⟩⟩ : St).cells (0, 0) _ HPf.out.t Tryz.underlying26 rfl (hi8 (⟨5, 0, (n : Int), 0, 0, 0, 0, ⟨#[]⟩⟩ : St)) ?_
      refine wpList_store_rowTo rfl 26 _ _ rfl rfl w.heap.size (⟨5, 0, (n : Int), 0, 0, 0, 0, ⟨#[]⟩⟩ : St).cells rfl rfl 26 _ HPf.out.r0 (hi8 (⟨5, 0, (n : Int), 0, 0, 0, 0, ⟨#[]⟩⟩ : St)) rfl (cells8_one _) ?_
      have HR' := setRow_heap wl w.heap.size _ (⟨5, 0, (n : Int), 0, 0, 0, 0, ⟨#[]⟩⟩ : St).cells 26 (0, 0) HPf.out.r0
      have hB9 : Below w.heap.size w (wl.setRow w.heap.size (⟨5, 0, (n : Int), 0, 0, 0, 0, ⟨#[]⟩⟩ : St).cells) := ⟨HPf.out.b.os, HPf.out.b.tape, HPf.out.b.output, by simpa using HPf.out.b.size, fun i hi => (setRow_other _ _ _ _ (by omega)).trans (HPf.out.b.block i hi)⟩
      obtain ⟨W9, hW9⟩ : ∃ W9, W9 = wl.setRow w.heap.size (⟨5, 0, (n : Int), 0, 0, 0, 0, ⟨#[]⟩⟩ : St).cells := ⟨_, rfl⟩
      rw [← hW9] at HR' hB9 ⊢
      clear hW9
      go_wp2_with fail
      exact bodyPost_ret (res8g _ _ w.heap.size (⟨5, 0, (n : Int), 0, 0, 0, 0, ⟨#[]⟩⟩ : St) 0 rfl rfl HR') rfl ⟨by rw [HG.out]; unfold finG; rw [if_neg (by rw [H0.out]; decide), if_pos HRR.out], hB9⟩
    · rw [decide_eq_false hr]
      have HRR := Lib.hid hr
      clear hr
      go_upto_region 15 with fail
      refine wp_region_lit ?_
      refine wpList_step (fun K hK => ?_)
      go_simp
      refine hK _ _ ?_
      clear hK K
      refine wpList_store_rowTo rfl 26 _ _ rfl rfl w.heap.size St0.cells rfl rfl 26 _ HPf.out.r0 (hi8 St0) rfl (cells8_one _) ?_
      have HR' := setRow_heap wl w.heap.size _ St0.cells 26 (0, 0) HPf.out.r0
      have hB9 : Below w.heap.size w (wl.setRow w.heap.size St0.cells) := ⟨HPf.out.b.os, HPf.out.b.tape, HPf.out.b.output, by simpa using HPf.out.b.size, fun i hi => (setRow_other _ _ _ _ (by omega)).trans (HPf.out.b.block i hi)⟩
      obtain ⟨W9, hW9⟩ : ∃ W9, W9 = wl.setRow w.heap.size St0.cells := ⟨_, rfl⟩
      rw [← hW9] at HR' hB9 ⊢
      clear hW9
      go_wp2_with fail
      exact bodyPost_ret (res8g _ _ w.heap.size St0 3 rfl rfl HR') rfl ⟨by rw [HG.out]; unfold finG; rw [if_neg (by rw [H0.out]; decide), if_neg HRR.out], hB9⟩
  · have H0 := Lib.hid h0
    have he2 : (ee == 0) = false := by simpa using h0
    go_upto_region 13 with fail
    refine wp_region_lit ?_
    refine wpList_step (fun K hK => ?_)
    go_simp
    refine hK _ _ ?_
    clear hK K
    refine wpList_step (fun K hK => ?_)
    go_simp
    refine hK _ _ ?_
    clear hK K
    refine wpList_store_rowTo rfl 26 _ _ rfl rfl w.heap.size St0.cells rfl rfl 26 _ HQ1.out.r0 (hi8 St0) rfl (cells8_one _) ?_
    have HR' := setRow_heap WQ1 w.heap.size _ St0.cells 26 (0, 0) HQ1.out.r0
    have hB9 : Below w.heap.size w (WQ1.setRow w.heap.size St0.cells) := ⟨HQ1.out.b.os, HQ1.out.b.tape, HQ1.out.b.output, by simpa using HQ1.out.b.size, fun i hi => (setRow_other _ _ _ _ (by omega)).trans (HQ1.out.b.block i hi)⟩
    obtain ⟨W9, hW9⟩ : ∃ W9, W9 = WQ1.setRow w.heap.size St0.cells := ⟨_, rfl⟩
    rw [← hW9] at HR' hB9 ⊢
    clear hW9
    go_wp2_with fail
    exact bodyPost_ret (res8g _ _ w.heap.size St0 ee rfl rfl HR') rfl ⟨by rw [HG.out]; unfold finG; rw [if_pos H0.out], hB9⟩

set_option maxHeartbeats 2000000 in
set_option maxRecDepth 100000 in
theorem gget_6 (s : ByteArray) (hs : s.size ≤ 1099511627776) (hk : ((Rd.R2.mk s 0).num 8).1 = 6) (w : World) : Calls Tryz.prog 12 #[.string s] w fun e w' => e = .returned (.tuple #[.agg (getG s).1.cells, .int .i64 (getG s).2]) ∧ Below w.heap.size w w' := by
  have HN0 := Lib.hid (fun (W : World) (h : Rd.Lies W (w.heap.size + 1) ⟨s, 0⟩) => num_r (m := 8) (by decide) hs W h)
  have hz0 : ((Rd.R2.mk s 0).num 8).2.s.size ≤ 1099511627776 := Nat.le_trans (Rd.R2.num_rest _ _) hs
  have hG : getG s = finG (let k := (Rd.R2.mk s 0).num 8; let a := g1 k.2 6; let b := g2 a.2 6; let p := g3 b.2 6; ⟨6, (a.1 : Int), (b.1 : Int), p.1.c, p.1.f, p.1.s, p.1.t, p.1.d⟩) (let k := (Rd.R2.mk s 0).num 8; let a := g1 k.2 6; let b := g2 a.2 6; let p := g3 b.2 6; p.2.end') := by
    unfold getG; dsimp only; rw [hk]; rfl
  dsimp only at hG
  rw [hk] at HN0
  generalize ((Rd.R2.mk s 0).num 8).2 = r0 at HN0 hz0 hG
  clear hk hs
  have HN1 := Lib.hid (fun (W : World) (h : Rd.Lies W (w.heap.size + 1) r0) => num_r (m := 1) (by decide) hz0 W h)
  have hb1 := Rd.R2.num_val r0 1
  have hz1 := Nat.le_trans (Rd.R2.num_rest r0 1) hz0
  have hG : getG s = finG ⟨6, ((r0.num 1).1 : Int), (((r0.num 1).2.num 4).1 : Int), 0, 0, 0, 0, ⟨#[]⟩⟩ ((r0.num 1).2.num 4).2.end' := hG
  generalize r0.num 1 = q1 at HN1 hb1 hz1 hG
  obtain ⟨sd, r1⟩ := q1
  dsimp only at HN1 hb1 hz1 hG
  have HN2 := Lib.hid (fun (W : World) (h : Rd.Lies W (w.heap.size + 1) r1) => num_r (m := 4) (by decide) hz1 W h)
  have hb2 := Rd.R2.num_val r1 4
  have hz2 := Nat.le_trans (Rd.R2.num_rest r1 4) hz1
  have hG : getG s = finG ⟨6, (sd : Int), ((r1.num 4).1 : Int), 0, 0, 0, 0, ⟨#[]⟩⟩ (r1.num 4).2.end' := hG
  generalize r1.num 4 = q2 at HN2 hb2 hz2 hG
  obtain ⟨n, r2⟩ := q2
  dsimp only at HN2 hb2 hz2 hG
  have HE := Lib.hid (fun (W : World) (h : Rd.Lies W (w.heap.size + 1) r2) => Rd.end_any (w.heap.size + 1) r2 W h)
  generalize hee : r2.end' = ee at HE hG
  clear hee
  have HG := Lib.hid hG
  have HRt := Lib.hid (fun W => right_any (⟨6, (sd : Int), (n : Int), 0, 0, 0, 0, ⟨#[]⟩⟩ : St) W)
  unfold St.cells at HRt
  dsimp only at HRt
  clear hG
  go_enter Tryz.func12, Tryz.ntmps12
  go_wp2_with fail
  refine (Rd.new_any s _).mono ?_
  rintro _ w1 ⟨rfl, hw⟩
  have hL : Rd.Lies w1 (w.heap.size + 1) ⟨s, 0⟩ := by
    rw [hw]
    have := heap_alloc_new (w.alloc (.cells St0.cells 26)) (.cells #[.string s, .int .i64 0] 95)
    rw [World.size_alloc] at this
    exact this
  have HW := Lib.hid hw
  clear hw
  simp only [World.size_alloc]
  go_wp2_with fail
  refine (HN0.out w1 hL).mono ?_
  rintro _ w2 ⟨rfl, hl2, ho2⟩
  have HQ : Hid (∀ W3, W3 = w2.alloc (.cells (⟨6, 0, 0, 0, 0, 0, 0, ⟨#[]⟩⟩ : St).cells 26) → QX w W3 w2.heap.size _ _) := Lib.hid (fun W3 h => QX.start hl2 (by rw [HW.out] at ho2; exact ho2) h)
  clear hl2 ho2 hL
  go_upto_region 3 with fail
  have HQ0 := Lib.hid (HQ.out _ rfl)
  generalize hT : w2.heap.size = T at HQ0 ⊢
  unfold St.cells at HQ0
  dsimp only at HQ0
  generalize w2.alloc (.cells #[.int .i64 6, .int .i64 0, .int .i64 0, .int .i64 0, .int .i64 0, .int .u64 0, .int .u64 0, .string ⟨#[]⟩] 26) = W3 at HQ0 ⊢
  clear hT HQ HW
  obtain ⟨⟨c0, c1, c2, c3, c4, c5, c6, c7⟩, z1, z2, z3, z4, z5, z6, z7⟩ := HQ0.out.cells
  dsimp only at c0 c1 c2 c3 c4 c5 c6 c7
  have hTw := HQ0.out.hT
  go_wp2_with fail
  refine (parts_6 _).mono ?_
  rintro _ wq ⟨rfl, hq⟩
  obtain rfl := hq.symm
  clear hq
  go_wp2_with fail
  refine (HN1.out _ HQ0.out.rd).mono ?_
  rintro _ wn1 ⟨rfl, hl1, ho1⟩
  have HA1 := Lib.hid (HQ0.out.only ho1 hl1)
  clear hl1 ho1
  clear c0 c1 c2 c3 c4 c5 c6 c7 z1 z2 z3 z4 z5 z6 z7 hTw
  obtain ⟨⟨c0, c1, c2, c3, c4, c5, c6, c7⟩, z1, z2, z3, z4, z5, z6, z7⟩ := HA1.out.cells
  dsimp only at c0 c1 c2 c3 c4 c5 c6 c7
  have hTw := HA1.out.hT
  go_upto_region 6 with fail
  have HQ1 := Lib.hid (HA1.out.set (x' := (⟨6, (sd : Int), 0, 0, 0, 0, 0, ⟨#[]⟩⟩ : St)) 1 (.int .i64 (sd : Int)) rfl)
  generalize wn1.setCell ⟨T, 1, none⟩ (.int .i64 (sd : Int)) = WQ1 at HQ1 ⊢
  clear c0 c1 c2 c3 c4 c5 c6 c7 z1 z2 z3 z4 z5 z6 z7 hTw
  obtain ⟨⟨c0, c1, c2, c3, c4, c5, c6, c7⟩, z1, z2, z3, z4, z5, z6, z7⟩ := HQ1.out.cells
  dsimp only at c0 c1 c2 c3 c4 c5 c6 c7
  have hTw := HQ1.out.hT
  go_wp2_with fail
  refine (bounds_6 _).mono ?_
  rintro _ wq ⟨rfl, hq⟩
  obtain rfl := hq.symm
  clear hq
  go_wp2_with fail
  refine (HN2.out _ HQ1.out.rd).mono ?_
  rintro _ wn2 ⟨rfl, hl2, ho2⟩
  have HA2 := Lib.hid (HQ1.out.only ho2 hl2)
  clear hl2 ho2
  clear c0 c1 c2 c3 c4 c5 c6 c7 z1 z2 z3 z4 z5 z6 z7 hTw
  obtain ⟨⟨c0, c1, c2, c3, c4, c5, c6, c7⟩, z1, z2, z3, z4, z5, z6, z7⟩ := HA2.out.cells
  dsimp only at c0 c1 c2 c3 c4 c5 c6 c7
  have hTw := HA2.out.hT
  go_upto_region 9 with fail
  have HQ2 := Lib.hid (HA2.out.set (x' := (⟨6, (sd : Int), (n : Int), 0, 0, 0, 0, ⟨#[]⟩⟩ : St)) 2 (.int .i64 (n : Int)) rfl)
  generalize wn2.setCell ⟨T, 2, none⟩ (.int .i64 (n : Int)) = WQ2 at HQ2 ⊢
  clear c0 c1 c2 c3 c4 c5 c6 c7 z1 z2 z3 z4 z5 z6 z7 hTw
  obtain ⟨⟨c0, c1, c2, c3, c4, c5, c6, c7⟩, z1, z2, z3, z4, z5, z6, z7⟩ := HQ2.out.cells
  dsimp only at c0 c1 c2 c3 c4 c5 c6 c7
  have hTw := HQ2.out.hT
  go_wp2_with fail
  refine (HE.out _ HQ2.out.rd).mono ?_
  rintro _ wq ⟨rfl, hq⟩
  obtain rfl := hq.symm
  clear hq
  clear c0 c1 c2 c3 c4 c5 c6 c7 z1 z2 z3 z4 z5 z6 z7 hTw
  by_cases h0 : ee = 0
  · have H0 := Lib.hid h0
    rw [h0]
    clear h0
    go_upto_region 14 with fail
    refine wp_region_lit ?_
    refine wpList_load_row rfl 26 _ rfl T rfl 26 (⟨6, (sd : Int), (n : Int), 0, 0, 0, 0, ⟨#[]⟩⟩ : St).cells (0, 0) _ HQ2.out.t Tryz.underlying26 rfl (hi8 (⟨6, (sd : Int), (n : Int), 0, 0, 0, 0, ⟨#[]⟩⟩ : St)) ?_
    go_wp2_with fail
    refine (HRt.out _).mono ?_
    rintro _ wl ⟨rfl, hbl⟩
    have HPf := Lib.hid (HQ2.out.below hbl)
    clear hbl
    by_cases hr : rightP (⟨6, (sd : Int), (n : Int), 0, 0, 0, 0, ⟨#[]⟩⟩ : St)
    · rw [decide_eq_true hr]
      have HRR := Lib.hid hr
      clear hr
      go_upto_region 16 with fail
      refine wp_region_lit ?_
      refine wpList_load_row rfl 26 _ rfl T rfl 26 (⟨6, (sd : Int), (n : Int), 0, 0, 0, 0, ⟨#[]⟩⟩ : St).cells (0, 0) _ HPf.out.t Tryz.underlying26 rfl (hi8 (⟨6, (sd : Int), (n : Int), 0, 0, 0, 0, ⟨#[]⟩⟩ : St)) ?_
      refine wpList_store_rowTo rfl 26 _ _ rfl rfl w.heap.size (⟨6, (sd : Int), (n : Int), 0, 0, 0, 0, ⟨#[]⟩⟩ : St).cells rfl rfl 26 _ HPf.out.r0 (hi8 (⟨6, (sd : Int), (n : Int), 0, 0, 0, 0, ⟨#[]⟩⟩ : St)) rfl (cells8_one _) ?_
      have HR' := setRow_heap wl w.heap.size _ (⟨6, (sd : Int), (n : Int), 0, 0, 0, 0, ⟨#[]⟩⟩ : St).cells 26 (0, 0) HPf.out.r0
      have hB9 : Below w.heap.size w (wl.setRow w.heap.size (⟨6, (sd : Int), (n : Int), 0, 0, 0, 0, ⟨#[]⟩⟩ : St).cells) := ⟨HPf.out.b.os, HPf.out.b.tape, HPf.out.b.output, by simpa using HPf.out.b.size, fun i hi => (setRow_other _ _ _ _ (by omega)).trans (HPf.out.b.block i hi)⟩
      obtain ⟨W9, hW9⟩ : ∃ W9, W9 = wl.setRow w.heap.size (⟨6, (sd : Int), (n : Int), 0, 0, 0, 0, ⟨#[]⟩⟩ : St).cells := ⟨_, rfl⟩
      rw [← hW9] at HR' hB9 ⊢
      clear hW9
      go_wp2_with fail
      exact bodyPost_ret (res8g _ _ w.heap.size (⟨6, (sd : Int), (n : Int), 0, 0, 0, 0, ⟨#[]⟩⟩ : St) 0 rfl rfl HR') rfl ⟨by rw [HG.out]; unfold finG; rw [if_neg (by rw [H0.out]; decide), if_pos HRR.out], hB9⟩
    · rw [decide_eq_false hr]
      have HRR := Lib.hid hr
      clear hr
      go_upto_region 15 with fail
      refine wp_region_lit ?_
      refine wpList_step (fun K hK => ?_)
      go_simp
      refine hK _ _ ?_
      clear hK K
      refine wpList_store_rowTo rfl 26 _ _ rfl rfl w.heap.size St0.cells rfl rfl 26 _ HPf.out.r0 (hi8 St0) rfl (cells8_one _) ?_
      have HR' := setRow_heap wl w.heap.size _ St0.cells 26 (0, 0) HPf.out.r0
      have hB9 : Below w.heap.size w (wl.setRow w.heap.size St0.cells) := ⟨HPf.out.b.os, HPf.out.b.tape, HPf.out.b.output, by simpa using HPf.out.b.size, fun i hi => (setRow_other _ _ _ _ (by omega)).trans (HPf.out.b.block i hi)⟩
      obtain ⟨W9, hW9⟩ : ∃ W9, W9 = wl.setRow w.heap.size St0.cells := ⟨_, rfl⟩
      rw [← hW9] at HR' hB9 ⊢
      clear hW9
      go_wp2_with fail
      exact bodyPost_ret (res8g _ _ w.heap.size St0 3 rfl rfl HR') rfl ⟨by rw [HG.out]; unfold finG; rw [if_neg (by rw [H0.out]; decide), if_neg HRR.out], hB9⟩
  · have H0 := Lib.hid h0
    have he2 : (ee == 0) = false := by simpa using h0
    go_upto_region 13 with fail
    refine wp_region_lit ?_
    refine wpList_step (fun K hK => ?_)
    go_simp
    refine hK _ _ ?_
    clear hK K
    refine wpList_step (fun K hK => ?_)
    go_simp
    refine hK _ _ ?_
    clear hK K
    refine wpList_store_rowTo rfl 26 _ _ rfl rfl w.heap.size St0.cells rfl rfl 26 _ HQ2.out.r0 (hi8 St0) rfl (cells8_one _) ?_
    have HR' := setRow_heap WQ2 w.heap.size _ St0.cells 26 (0, 0) HQ2.out.r0
    have hB9 : Below w.heap.size w (WQ2.setRow w.heap.size St0.cells) := ⟨HQ2.out.b.os, HQ2.out.b.tape, HQ2.out.b.output, by simpa using HQ2.out.b.size, fun i hi => (setRow_other _ _ _ _ (by omega)).trans (HQ2.out.b.block i hi)⟩
    obtain ⟨W9, hW9⟩ : ∃ W9, W9 = WQ2.setRow w.heap.size St0.cells := ⟨_, rfl⟩
    rw [← hW9] at HR' hB9 ⊢
    clear hW9
    go_wp2_with fail
    exact bodyPost_ret (res8g _ _ w.heap.size St0 ee rfl rfl HR') rfl ⟨by rw [HG.out]; unfold finG; rw [if_pos H0.out], hB9⟩

set_option maxHeartbeats 2000000 in
set_option maxRecDepth 100000 in
theorem gget_7 (s : ByteArray) (hs : s.size ≤ 1099511627776) (hk : ((Rd.R2.mk s 0).num 8).1 = 7) (w : World) : Calls Tryz.prog 12 #[.string s] w fun e w' => e = .returned (.tuple #[.agg (getG s).1.cells, .int .i64 (getG s).2]) ∧ Below w.heap.size w w' := by
  have HN0 := Lib.hid (fun (W : World) (h : Rd.Lies W (w.heap.size + 1) ⟨s, 0⟩) => num_r (m := 8) (by decide) hs W h)
  have hz0 : ((Rd.R2.mk s 0).num 8).2.s.size ≤ 1099511627776 := Nat.le_trans (Rd.R2.num_rest _ _) hs
  have hG : getG s = finG (let k := (Rd.R2.mk s 0).num 8; let a := g1 k.2 7; let b := g2 a.2 7; let p := g3 b.2 7; ⟨7, (a.1 : Int), (b.1 : Int), p.1.c, p.1.f, p.1.s, p.1.t, p.1.d⟩) (let k := (Rd.R2.mk s 0).num 8; let a := g1 k.2 7; let b := g2 a.2 7; let p := g3 b.2 7; p.2.end') := by
    unfold getG; dsimp only; rw [hk]; rfl
  dsimp only at hG
  rw [hk] at HN0
  generalize ((Rd.R2.mk s 0).num 8).2 = r0 at HN0 hz0 hG
  clear hk hs
  have hG : getG s = finG ⟨7, 0, 0, 0, 0, 0, 0, ⟨#[]⟩⟩ r0.end' := hG
  have HE := Lib.hid (fun (W : World) (h : Rd.Lies W (w.heap.size + 1) r0) => Rd.end_any (w.heap.size + 1) r0 W h)
  generalize hee : r0.end' = ee at HE hG
  clear hee
  have HG := Lib.hid hG
  have HRt := Lib.hid (fun W => right_any (⟨7, 0, 0, 0, 0, 0, 0, ⟨#[]⟩⟩ : St) W)
  unfold St.cells at HRt
  dsimp only at HRt
  clear hG
  go_enter Tryz.func12, Tryz.ntmps12
  go_wp2_with fail
  refine (Rd.new_any s _).mono ?_
  rintro _ w1 ⟨rfl, hw⟩
  have hL : Rd.Lies w1 (w.heap.size + 1) ⟨s, 0⟩ := by
    rw [hw]
    have := heap_alloc_new (w.alloc (.cells St0.cells 26)) (.cells #[.string s, .int .i64 0] 95)
    rw [World.size_alloc] at this
    exact this
  have HW := Lib.hid hw
  clear hw
  simp only [World.size_alloc]
  go_wp2_with fail
  refine (HN0.out w1 hL).mono ?_
  rintro _ w2 ⟨rfl, hl2, ho2⟩
  have HQ : Hid (∀ W3, W3 = w2.alloc (.cells (⟨7, 0, 0, 0, 0, 0, 0, ⟨#[]⟩⟩ : St).cells 26) → QX w W3 w2.heap.size _ _) := Lib.hid (fun W3 h => QX.start hl2 (by rw [HW.out] at ho2; exact ho2) h)
  clear hl2 ho2 hL
  go_upto_region 3 with fail
  have HQ0 := Lib.hid (HQ.out _ rfl)
  generalize hT : w2.heap.size = T at HQ0 ⊢
  unfold St.cells at HQ0
  dsimp only at HQ0
  generalize w2.alloc (.cells #[.int .i64 7, .int .i64 0, .int .i64 0, .int .i64 0, .int .i64 0, .int .u64 0, .int .u64 0, .string ⟨#[]⟩] 26) = W3 at HQ0 ⊢
  clear hT HQ HW
  obtain ⟨⟨c0, c1, c2, c3, c4, c5, c6, c7⟩, z1, z2, z3, z4, z5, z6, z7⟩ := HQ0.out.cells
  dsimp only at c0 c1 c2 c3 c4 c5 c6 c7
  have hTw := HQ0.out.hT
  go_wp2_with fail
  refine (parts_7 _).mono ?_
  rintro _ wq ⟨rfl, hq⟩
  obtain rfl := hq.symm
  clear hq
  go_wp2_with fail
  refine (HE.out _ HQ0.out.rd).mono ?_
  rintro _ wq ⟨rfl, hq⟩
  obtain rfl := hq.symm
  clear hq
  clear c0 c1 c2 c3 c4 c5 c6 c7 z1 z2 z3 z4 z5 z6 z7 hTw
  by_cases h0 : ee = 0
  · have H0 := Lib.hid h0
    rw [h0]
    clear h0
    go_upto_region 14 with fail
    refine wp_region_lit ?_
    refine wpList_load_row rfl 26 _ rfl T rfl 26 (⟨7, 0, 0, 0, 0, 0, 0, ⟨#[]⟩⟩ : St).cells (0, 0) _ HQ0.out.t Tryz.underlying26 rfl (hi8 (⟨7, 0, 0, 0, 0, 0, 0, ⟨#[]⟩⟩ : St)) ?_
    go_wp2_with fail
    refine (HRt.out _).mono ?_
    rintro _ wl ⟨rfl, hbl⟩
    have HPf := Lib.hid (HQ0.out.below hbl)
    clear hbl
    by_cases hr : rightP (⟨7, 0, 0, 0, 0, 0, 0, ⟨#[]⟩⟩ : St)
    · rw [decide_eq_true hr]
      have HRR := Lib.hid hr
      clear hr
      go_upto_region 16 with fail
      refine wp_region_lit ?_
      refine wpList_load_row rfl 26 _ rfl T rfl 26 (⟨7, 0, 0, 0, 0, 0, 0, ⟨#[]⟩⟩ : St).cells (0, 0) _ HPf.out.t Tryz.underlying26 rfl (hi8 (⟨7, 0, 0, 0, 0, 0, 0, ⟨#[]⟩⟩ : St)) ?_
      refine wpList_store_rowTo rfl 26 _ _ rfl rfl w.heap.size (⟨7, 0, 0, 0, 0, 0, 0, ⟨#[]⟩⟩ : St).cells rfl rfl 26 _ HPf.out.r0 (hi8 (⟨7, 0, 0, 0, 0, 0, 0, ⟨#[]⟩⟩ : St)) rfl (cells8_one _) ?_
      have HR' := setRow_heap wl w.heap.size _ (⟨7, 0, 0, 0, 0, 0, 0, ⟨#[]⟩⟩ : St).cells 26 (0, 0) HPf.out.r0
      have hB9 : Below w.heap.size w (wl.setRow w.heap.size (⟨7, 0, 0, 0, 0, 0, 0, ⟨#[]⟩⟩ : St).cells) := ⟨HPf.out.b.os, HPf.out.b.tape, HPf.out.b.output, by simpa using HPf.out.b.size, fun i hi => (setRow_other _ _ _ _ (by omega)).trans (HPf.out.b.block i hi)⟩
      obtain ⟨W9, hW9⟩ : ∃ W9, W9 = wl.setRow w.heap.size (⟨7, 0, 0, 0, 0, 0, 0, ⟨#[]⟩⟩ : St).cells := ⟨_, rfl⟩
      rw [← hW9] at HR' hB9 ⊢
      clear hW9
      go_wp2_with fail
      exact bodyPost_ret (res8g _ _ w.heap.size (⟨7, 0, 0, 0, 0, 0, 0, ⟨#[]⟩⟩ : St) 0 rfl rfl HR') rfl ⟨by rw [HG.out]; unfold finG; rw [if_neg (by rw [H0.out]; decide), if_pos HRR.out], hB9⟩
    · rw [decide_eq_false hr]
      have HRR := Lib.hid hr
      clear hr
      go_upto_region 15 with fail
      refine wp_region_lit ?_
      refine wpList_step (fun K hK => ?_)
      go_simp
      refine hK _ _ ?_
      clear hK K
      refine wpList_store_rowTo rfl 26 _ _ rfl rfl w.heap.size St0.cells rfl rfl 26 _ HPf.out.r0 (hi8 St0) rfl (cells8_one _) ?_
      have HR' := setRow_heap wl w.heap.size _ St0.cells 26 (0, 0) HPf.out.r0
      have hB9 : Below w.heap.size w (wl.setRow w.heap.size St0.cells) := ⟨HPf.out.b.os, HPf.out.b.tape, HPf.out.b.output, by simpa using HPf.out.b.size, fun i hi => (setRow_other _ _ _ _ (by omega)).trans (HPf.out.b.block i hi)⟩
      obtain ⟨W9, hW9⟩ : ∃ W9, W9 = wl.setRow w.heap.size St0.cells := ⟨_, rfl⟩
      rw [← hW9] at HR' hB9 ⊢
      clear hW9
      go_wp2_with fail
      exact bodyPost_ret (res8g _ _ w.heap.size St0 3 rfl rfl HR') rfl ⟨by rw [HG.out]; unfold finG; rw [if_neg (by rw [H0.out]; decide), if_neg HRR.out], hB9⟩
  · have H0 := Lib.hid h0
    have he2 : (ee == 0) = false := by simpa using h0
    go_upto_region 13 with fail
    refine wp_region_lit ?_
    refine wpList_step (fun K hK => ?_)
    go_simp
    refine hK _ _ ?_
    clear hK K
    refine wpList_step (fun K hK => ?_)
    go_simp
    refine hK _ _ ?_
    clear hK K
    refine wpList_store_rowTo rfl 26 _ _ rfl rfl w.heap.size St0.cells rfl rfl 26 _ HQ0.out.r0 (hi8 St0) rfl (cells8_one _) ?_
    have HR' := setRow_heap W3 w.heap.size _ St0.cells 26 (0, 0) HQ0.out.r0
    have hB9 : Below w.heap.size w (W3.setRow w.heap.size St0.cells) := ⟨HQ0.out.b.os, HQ0.out.b.tape, HQ0.out.b.output, by simpa using HQ0.out.b.size, fun i hi => (setRow_other _ _ _ _ (by omega)).trans (HQ0.out.b.block i hi)⟩
    obtain ⟨W9, hW9⟩ : ∃ W9, W9 = W3.setRow w.heap.size St0.cells := ⟨_, rfl⟩
    rw [← hW9] at HR' hB9 ⊢
    clear hW9
    go_wp2_with fail
    exact bodyPost_ret (res8g _ _ w.heap.size St0 ee rfl rfl HR') rfl ⟨by rw [HG.out]; unfold finG; rw [if_pos H0.out], hB9⟩

set_option maxHeartbeats 2000000 in
set_option maxRecDepth 100000 in
theorem gget_8 (s : ByteArray) (hs : s.size ≤ 1099511627776) (hk : ((Rd.R2.mk s 0).num 8).1 = 8) (w : World) : Calls Tryz.prog 12 #[.string s] w fun e w' => e = .returned (.tuple #[.agg (getG s).1.cells, .int .i64 (getG s).2]) ∧ Below w.heap.size w w' := by
  have HN0 := Lib.hid (fun (W : World) (h : Rd.Lies W (w.heap.size + 1) ⟨s, 0⟩) => num_r (m := 8) (by decide) hs W h)
  have hz0 : ((Rd.R2.mk s 0).num 8).2.s.size ≤ 1099511627776 := Nat.le_trans (Rd.R2.num_rest _ _) hs
  have hG : getG s = finG (let k := (Rd.R2.mk s 0).num 8; let a := g1 k.2 8; let b := g2 a.2 8; let p := g3 b.2 8; ⟨8, (a.1 : Int), (b.1 : Int), p.1.c, p.1.f, p.1.s, p.1.t, p.1.d⟩) (let k := (Rd.R2.mk s 0).num 8; let a := g1 k.2 8; let b := g2 a.2 8; let p := g3 b.2 8; p.2.end') := by
    unfold getG; dsimp only; rw [hk]; rfl
  dsimp only at hG
  rw [hk] at HN0
  generalize ((Rd.R2.mk s 0).num 8).2 = r0 at HN0 hz0 hG
  clear hk hs
  have hG : getG s = finG ⟨8, 0, 0, 0, 0, 0, 0, ⟨#[]⟩⟩ r0.end' := hG
  have HE := Lib.hid (fun (W : World) (h : Rd.Lies W (w.heap.size + 1) r0) => Rd.end_any (w.heap.size + 1) r0 W h)
  generalize hee : r0.end' = ee at HE hG
  clear hee
  have HG := Lib.hid hG
  have HRt := Lib.hid (fun W => right_any (⟨8, 0, 0, 0, 0, 0, 0, ⟨#[]⟩⟩ : St) W)
  unfold St.cells at HRt
  dsimp only at HRt
  clear hG
  go_enter Tryz.func12, Tryz.ntmps12
  go_wp2_with fail
  refine (Rd.new_any s _).mono ?_
  rintro _ w1 ⟨rfl, hw⟩
  have hL : Rd.Lies w1 (w.heap.size + 1) ⟨s, 0⟩ := by
    rw [hw]
    have := heap_alloc_new (w.alloc (.cells St0.cells 26)) (.cells #[.string s, .int .i64 0] 95)
    rw [World.size_alloc] at this
    exact this
  have HW := Lib.hid hw
  clear hw
  simp only [World.size_alloc]
  go_wp2_with fail
  refine (HN0.out w1 hL).mono ?_
  rintro _ w2 ⟨rfl, hl2, ho2⟩
  have HQ : Hid (∀ W3, W3 = w2.alloc (.cells (⟨8, 0, 0, 0, 0, 0, 0, ⟨#[]⟩⟩ : St).cells 26) → QX w W3 w2.heap.size _ _) := Lib.hid (fun W3 h => QX.start hl2 (by rw [HW.out] at ho2; exact ho2) h)
  clear hl2 ho2 hL
  go_upto_region 3 with fail
  have HQ0 := Lib.hid (HQ.out _ rfl)
  generalize hT : w2.heap.size = T at HQ0 ⊢
  unfold St.cells at HQ0
  dsimp only at HQ0
  generalize w2.alloc (.cells #[.int .i64 8, .int .i64 0, .int .i64 0, .int .i64 0, .int .i64 0, .int .u64 0, .int .u64 0, .string ⟨#[]⟩] 26) = W3 at HQ0 ⊢
  clear hT HQ HW
  obtain ⟨⟨c0, c1, c2, c3, c4, c5, c6, c7⟩, z1, z2, z3, z4, z5, z6, z7⟩ := HQ0.out.cells
  dsimp only at c0 c1 c2 c3 c4 c5 c6 c7
  have hTw := HQ0.out.hT
  go_wp2_with fail
  refine (parts_8 _).mono ?_
  rintro _ wq ⟨rfl, hq⟩
  obtain rfl := hq.symm
  clear hq
  go_wp2_with fail
  refine (HE.out _ HQ0.out.rd).mono ?_
  rintro _ wq ⟨rfl, hq⟩
  obtain rfl := hq.symm
  clear hq
  clear c0 c1 c2 c3 c4 c5 c6 c7 z1 z2 z3 z4 z5 z6 z7 hTw
  by_cases h0 : ee = 0
  · have H0 := Lib.hid h0
    rw [h0]
    clear h0
    go_upto_region 14 with fail
    refine wp_region_lit ?_
    refine wpList_load_row rfl 26 _ rfl T rfl 26 (⟨8, 0, 0, 0, 0, 0, 0, ⟨#[]⟩⟩ : St).cells (0, 0) _ HQ0.out.t Tryz.underlying26 rfl (hi8 (⟨8, 0, 0, 0, 0, 0, 0, ⟨#[]⟩⟩ : St)) ?_
    go_wp2_with fail
    refine (HRt.out _).mono ?_
    rintro _ wl ⟨rfl, hbl⟩
    have HPf := Lib.hid (HQ0.out.below hbl)
    clear hbl
    by_cases hr : rightP (⟨8, 0, 0, 0, 0, 0, 0, ⟨#[]⟩⟩ : St)
    · rw [decide_eq_true hr]
      have HRR := Lib.hid hr
      clear hr
      go_upto_region 16 with fail
      refine wp_region_lit ?_
      refine wpList_load_row rfl 26 _ rfl T rfl 26 (⟨8, 0, 0, 0, 0, 0, 0, ⟨#[]⟩⟩ : St).cells (0, 0) _ HPf.out.t Tryz.underlying26 rfl (hi8 (⟨8, 0, 0, 0, 0, 0, 0, ⟨#[]⟩⟩ : St)) ?_
      refine wpList_store_rowTo rfl 26 _ _ rfl rfl w.heap.size (⟨8, 0, 0, 0, 0, 0, 0, ⟨#[]⟩⟩ : St).cells rfl rfl 26 _ HPf.out.r0 (hi8 (⟨8, 0, 0, 0, 0, 0, 0, ⟨#[]⟩⟩ : St)) rfl (cells8_one _) ?_
      have HR' := setRow_heap wl w.heap.size _ (⟨8, 0, 0, 0, 0, 0, 0, ⟨#[]⟩⟩ : St).cells 26 (0, 0) HPf.out.r0
      have hB9 : Below w.heap.size w (wl.setRow w.heap.size (⟨8, 0, 0, 0, 0, 0, 0, ⟨#[]⟩⟩ : St).cells) := ⟨HPf.out.b.os, HPf.out.b.tape, HPf.out.b.output, by simpa using HPf.out.b.size, fun i hi => (setRow_other _ _ _ _ (by omega)).trans (HPf.out.b.block i hi)⟩
      obtain ⟨W9, hW9⟩ : ∃ W9, W9 = wl.setRow w.heap.size (⟨8, 0, 0, 0, 0, 0, 0, ⟨#[]⟩⟩ : St).cells := ⟨_, rfl⟩
      rw [← hW9] at HR' hB9 ⊢
      clear hW9
      go_wp2_with fail
      exact bodyPost_ret (res8g _ _ w.heap.size (⟨8, 0, 0, 0, 0, 0, 0, ⟨#[]⟩⟩ : St) 0 rfl rfl HR') rfl ⟨by rw [HG.out]; unfold finG; rw [if_neg (by rw [H0.out]; decide), if_pos HRR.out], hB9⟩
    · rw [decide_eq_false hr]
      have HRR := Lib.hid hr
      clear hr
      go_upto_region 15 with fail
      refine wp_region_lit ?_
      refine wpList_step (fun K hK => ?_)
      go_simp
      refine hK _ _ ?_
      clear hK K
      refine wpList_store_rowTo rfl 26 _ _ rfl rfl w.heap.size St0.cells rfl rfl 26 _ HPf.out.r0 (hi8 St0) rfl (cells8_one _) ?_
      have HR' := setRow_heap wl w.heap.size _ St0.cells 26 (0, 0) HPf.out.r0
      have hB9 : Below w.heap.size w (wl.setRow w.heap.size St0.cells) := ⟨HPf.out.b.os, HPf.out.b.tape, HPf.out.b.output, by simpa using HPf.out.b.size, fun i hi => (setRow_other _ _ _ _ (by omega)).trans (HPf.out.b.block i hi)⟩
      obtain ⟨W9, hW9⟩ : ∃ W9, W9 = wl.setRow w.heap.size St0.cells := ⟨_, rfl⟩
      rw [← hW9] at HR' hB9 ⊢
      clear hW9
      go_wp2_with fail
      exact bodyPost_ret (res8g _ _ w.heap.size St0 3 rfl rfl HR') rfl ⟨by rw [HG.out]; unfold finG; rw [if_neg (by rw [H0.out]; decide), if_neg HRR.out], hB9⟩
  · have H0 := Lib.hid h0
    have he2 : (ee == 0) = false := by simpa using h0
    go_upto_region 13 with fail
    refine wp_region_lit ?_
    refine wpList_step (fun K hK => ?_)
    go_simp
    refine hK _ _ ?_
    clear hK K
    refine wpList_step (fun K hK => ?_)
    go_simp
    refine hK _ _ ?_
    clear hK K
    refine wpList_store_rowTo rfl 26 _ _ rfl rfl w.heap.size St0.cells rfl rfl 26 _ HQ0.out.r0 (hi8 St0) rfl (cells8_one _) ?_
    have HR' := setRow_heap W3 w.heap.size _ St0.cells 26 (0, 0) HQ0.out.r0
    have hB9 : Below w.heap.size w (W3.setRow w.heap.size St0.cells) := ⟨HQ0.out.b.os, HQ0.out.b.tape, HQ0.out.b.output, by simpa using HQ0.out.b.size, fun i hi => (setRow_other _ _ _ _ (by omega)).trans (HQ0.out.b.block i hi)⟩
    obtain ⟨W9, hW9⟩ : ∃ W9, W9 = W3.setRow w.heap.size St0.cells := ⟨_, rfl⟩
    rw [← hW9] at HR' hB9 ⊢
    clear hW9
    go_wp2_with fail
    exact bodyPost_ret (res8g _ _ w.heap.size St0 ee rfl rfl HR') rfl ⟨by rw [HG.out]; unfold finG; rw [if_pos H0.out], hB9⟩

theorem get_any (s : ByteArray) (hs : s.size ≤ 1099511627776) (w : World) : Calls Tryz.prog 12 #[.string s] w fun e w' => e = .returned (.tuple #[.agg (getG s).1.cells, .int .i64 (getG s).2]) ∧ Below w.heap.size w w' := by
  have h8 := Rd.R2.num_val ⟨s, 0⟩ 8
  rcases hk : ((Rd.R2.mk s 0).num 8).1 with _ | _ | _ | _ | _ | _ | _ | _ | _ | k
  · exact gget_0 s hs hk w
  · exact gget_1 s hs hk w
  · exact gget_2 s hs hk w
  · exact gget_3 s hs hk w
  · exact gget_4 s hs hk w
  · exact gget_5 s hs hk w
  · exact gget_6 s hs hk w
  · exact gget_7 s hs hk w
  · exact gget_8 s hs hk w
  · rw [hk] at h8; omega

end Go.Proofs.YtnjcenbmdcogpaaGreatDoor.Sp
