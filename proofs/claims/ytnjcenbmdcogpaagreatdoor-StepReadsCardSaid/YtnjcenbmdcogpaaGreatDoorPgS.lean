import Derived.Test.YtnjcenbmdcogpaaGreatDoorStpGetA
import Derived.Test.YtnjcenbmdcogpaaGreatDoorPgU
import Derived.Test.YtnjcenbmdcogpaaGreatDoorPgStWord
import Derived.Test.YtnjcenbmdcogpaaGreatDoorStep15R
import Derived.Test.YtnjcenbmdcogpaaGreatDoorPgRight
import Derived.Test.YtnjcenbmdcogpaaGreatDoorStU
/- Steps: the page's Get of any bytes. -/
namespace Go.Proofs.YtnjcenbmdcogpaaGreatDoor.Sp
open Go Go.Lib Go.RowKit Num
set_option linter.unusedSimpArgs false
set_option linter.unusedVariables false

set_option maxRecDepth 20000 in
theorem in_q_110 (W : World) : Calls Tryz.prog 37 #[.string ⟨#[63]⟩, .int .u8 110] W fun e w' => e = .returned (.bool false) ∧ w' = W := by
  go_enter Tryz.func37, Tryz.ntmps37
  go_wp2
  refine wp_loop_rounds 2 ?_
  rw [rounds_succ]
  go_wp2
  rw [rounds_succ]
  go_wp2
  go_ret
  exact ⟨rfl, rfl⟩

set_option maxRecDepth 20000 in
theorem in_q_115 (W : World) : Calls Tryz.prog 37 #[.string ⟨#[63]⟩, .int .u8 115] W fun e w' => e = .returned (.bool false) ∧ w' = W := by
  go_enter Tryz.func37, Tryz.ntmps37
  go_wp2
  refine wp_loop_rounds 2 ?_
  rw [rounds_succ]
  go_wp2
  rw [rounds_succ]
  go_wp2
  go_ret
  exact ⟨rfl, rfl⟩

structure PQ (w W : World) (s : ByteArray) (r : Rd.R2) (x : St) : Prop where
  b : Below w.heap.size w W
  r0 : W.heap[w.heap.size]? = some (.cells St0.cells 26 (0, 0))
  rd : Rd.PLies W (w.heap.size + 1) s r
  t : W.heap[w.heap.size + 2]? = some (.cells x.cells 26 (0, 0))
theorem PQ.only {w W W' : World} {s : ByteArray} {r r' : Rd.R2} {x : St} (h : PQ w W s r x) (ho : Rd.Only (w.heap.size + 1) W W') (hl : Rd.PLies W' (w.heap.size + 1) s r') : PQ w W' s r' x :=
  have lt : ∀ k o, W.heap[k]? = some o → k < W.heap.size := fun k o e => (Array.getElem?_eq_some_iff.1 e).1
  ⟨Rd.Only.below h.b ho (by omega) h.b.size, (ho.block _ (lt _ _ h.r0) (by omega)).trans h.r0, hl, (ho.block _ (lt _ _ h.t) (by omega)).trans h.t⟩
theorem PQ.below {w W W' : World} {s : ByteArray} {r : Rd.R2} {x : St} (h : PQ w W s r x) (hb : Below W.heap.size W W') : PQ w W' s r x :=
  h.only (Rd.Only.of_below hb) (h.rd.heap (hb.block _ h.rd.lt))
theorem PQ.set {w W : World} {s : ByteArray} {r : Rd.R2} {x x' : St} (h : PQ w W s r x) (i : Nat) (v : Value) (hx : x.cells.setIfInBounds i v = x'.cells) : PQ w (W.setCell ⟨w.heap.size + 2, i, none⟩ v) s r x' := by
  have bl : ∀ k, k ≠ w.heap.size + 2 → (W.setCell ⟨w.heap.size + 2, i, none⟩ v).heap[k]? = W.heap[k]? := fun k hk => Below.heap_setCell _ _ _ _ hk
  exact ⟨h.b.setCell (p := ⟨w.heap.size + 2, i, none⟩) (by show w.heap.size ≤ w.heap.size + 2; omega) v, (bl _ (by omega)).trans h.r0, h.rd.off (by omega) v, by rw [← hx]; exact set_cells h.t v⟩
theorem PQ.cells {w W : World} {s : ByteArray} {r : Rd.R2} {x : St} (h : PQ w W s r x) {T : Nat} (hT : T = w.heap.size + 2) : (W.cell? ⟨T, 0, none⟩ = some (.int .i64 x.k) ∧ W.cell? ⟨T, 1, none⟩ = some (.int .i64 x.sd) ∧ W.cell? ⟨T, 2, none⟩ = some (.int .i64 x.n) ∧ W.cell? ⟨T, 3, none⟩ = some (.int .i64 x.c) ∧ W.cell? ⟨T, 4, none⟩ = some (.int .i64 x.f) ∧ W.cell? ⟨T, 5, none⟩ = some (.int .u64 x.s) ∧ W.cell? ⟨T, 6, none⟩ = some (.int .u64 x.t) ∧ W.cell? ⟨T, 7, none⟩ = some (.string x.d)) ∧
    (W.frozen? ⟨T, 0, none⟩ = false ∧ W.frozen? ⟨T, 1, none⟩ = false ∧ W.frozen? ⟨T, 2, none⟩ = false ∧ W.frozen? ⟨T, 3, none⟩ = false ∧ W.frozen? ⟨T, 4, none⟩ = false ∧ W.frozen? ⟨T, 5, none⟩ = false ∧ W.frozen? ⟨T, 6, none⟩ = false ∧ W.frozen? ⟨T, 7, none⟩ = false) := by
  subst hT
  have c : ∀ i, W.cell? ⟨w.heap.size + 2, i, none⟩ = x.cells[i]? := fun i => cell_of_row _ _ _ _ _ (0, 0) h.t
  have f : ∀ i, W.frozen? ⟨w.heap.size + 2, i, none⟩ = false := fun i => Lib.frozen_of_heap h.t i
  exact ⟨⟨c 0, c 1, c 2, c 3, c 4, c 5, c 6, c 7⟩, f 0, f 1, f 2, f 3, f 4, f 5, f 6, f 7⟩
theorem PQ.start (w : World) (s : ByteArray) : PQ w (((w.alloc (.cells St0.cells 26)).alloc (.cells #[.string s, .int .i64 0, .int .i64 0] 87)).alloc (.cells St0.cells 26)) s ⟨s, 0⟩ St0 := by
  refine ⟨(((Below.refl _ _).alloc (Nat.le_refl _) _).alloc (by simp) _).alloc (by simp; omega) _, ?_, ⟨0, Nat.zero_le _, by show s = s.extract 0 s.size; rw [ByteArray.extract_zero_size], ?_⟩, ?_⟩
  · rw [Below.heap_alloc _ _ _ (by simp; omega), Below.heap_alloc _ _ _ (by simp)]; exact heap_alloc_new _ _
  · have h1 := heap_alloc_new (w.alloc (.cells St0.cells 26)) (.cells #[.string s, .int .i64 0, .int .i64 0] 87)
    show (World.heap _)[_]? = _
    rw [Below.heap_alloc _ _ _ (by simp)]
    simpa using h1
  · have h1 := heap_alloc_new ((w.alloc (.cells St0.cells 26)).alloc (.cells #[.string s, .int .i64 0, .int .i64 0] 87)) (.cells St0.cells 26)
    simpa using h1
theorem res8pg (tmps : Array Value) (w : World) (g : Nat) (x : St) (n : Int) (hp : tmps.getD 2 undef = .pointer (some ⟨g, 0, none⟩)) (h3 : tmps.getD 3 undef = .int .i64 n)
    (hg : w.heap[g]? = some (.cells x.cells 26 (0, 0))) : (results Tryz.f65 tmps).run Tryz.prog w = .ok (.tuple #[.agg x.cells, .int .i64 n]) w := by
  have hp' : tmps[2]?.getD undef = .pointer (some ⟨g, 0, none⟩) := by simpa using hp
  have h3' : tmps[3]?.getD undef = .int .i64 n := by simpa using h3
  simp [results, Tryz.results65, hp', h3', asAddr, run_loadVar_row w g 26 26 x.cells (0, 0) _ hg Tryz.underlying26 rfl (hi8 x)]

set_option maxHeartbeats 2000000 in
set_option maxRecDepth 100000 in
theorem rget_0 (s : ByteArray) (hs : s.size ≤ 1099511627776) (hk : ((Rd.R2.mk s 0).num 8).1 = 0) (w : World) : Calls Tryz.prog 65 #[.string s] w fun e w' => e = .returned (.tuple #[.agg (getG s).1.cells, .int .i64 (getG s).2]) ∧ Below w.heap.size w w' := by
  have HN0 := Lib.hid (fun (W : World) (h : Rd.PLies W (w.heap.size + 1) s ⟨s, 0⟩) => Rd.pnum_any (w.heap.size + 1) s ⟨s, 0⟩ 8 hs W h)
  have hok : ((Rd.R2.mk s 0).num 8).2.okay := Rd.R2.num_okay _ 8 (by intro h; exact absurd rfl h)
  have hG : getG s = finG (let k := (Rd.R2.mk s 0).num 8; let a := g1 k.2 0; let b := g2 a.2 0; let p := g3 b.2 0; ⟨0, (a.1 : Int), (b.1 : Int), p.1.c, p.1.f, p.1.s, p.1.t, p.1.d⟩) (let k := (Rd.R2.mk s 0).num 8; let a := g1 k.2 0; let b := g2 a.2 0; let p := g3 b.2 0; p.2.end') := by
    unfold getG; dsimp only; rw [hk]; rfl
  dsimp only at hG
  rw [hk] at HN0
  generalize ((Rd.R2.mk s 0).num 8).2 = r0 at HN0 hok hG
  clear hk
  have hG : getG s = finG ⟨0, 0, 0, 0, 0, 0, 0, ⟨#[]⟩⟩ r0.end' := hG
  have HE := Lib.hid (fun (W : World) (h : Rd.PLies W (w.heap.size + 1) s r0) => Rd.pend_any (w.heap.size + 1) s r0 hs W h)
  generalize hee : r0.end' = ee at HE hG
  clear hee hok hs
  have HG := Lib.hid hG
  have HRt := Lib.hid (fun W => rright_any (⟨0, 0, 0, 0, 0, 0, 0, ⟨#[]⟩⟩ : St) W)
  unfold St.cells at HRt
  dsimp only at HRt
  clear hG
  obtain ⟨T, hT⟩ : ∃ T, T = w.heap.size + 2 := ⟨_, rfl⟩
  have HT := Lib.hid hT
  have HS := Lib.hid (PQ.start w s)
  have e2 : w.heap.size + 1 + 1 = T := by omega
  clear hT
  go_enter Tryz.func65, Tryz.ntmps65
  go_upto_region 3 with fail
  try rw [e2]
  try rw [← HT.out]
  obtain ⟨W0, hW0⟩ : ∃ W0, W0 = ((w.alloc (.cells St0.cells 26)).alloc (.cells #[.string s, .int .i64 0, .int .i64 0] 87)).alloc (.cells St0.cells 26) := ⟨_, rfl⟩
  rw [← hW0] at HS
  unfold St0 St.cells at hW0
  dsimp only at hW0
  rw [← hW0]
  clear hW0 e2
  go_wp2_with fail
  refine (HN0.out W0 HS.out.rd).mono ?_
  rintro _ wn0 ⟨rfl, hl0, ho0⟩
  have HA0 := Lib.hid (HS.out.only ho0 hl0)
  clear hl0 ho0
  obtain ⟨⟨c0, c1, c2, c3, c4, c5, c6, c7⟩, z0, z1, z2, z3, z4, z5, z6, z7⟩ := HA0.out.cells HT.out
  dsimp only [St0] at c0 c1 c2 c3 c4 c5 c6 c7
  go_upto_region 4 with fail
  have HQ0 := Lib.hid (HA0.out.set (x' := (⟨0, 0, 0, 0, 0, 0, 0, ⟨#[]⟩⟩ : St)) 0 (.int .i64 0) rfl)
  rw [← HT.out] at HQ0
  generalize wn0.setCell ⟨T, 0, none⟩ (.int .i64 0) = WQ0 at HQ0 ⊢
  clear c0 c1 c2 c3 c4 c5 c6 c7 z0 z1 z2 z3 z4 z5 z6 z7
  obtain ⟨⟨c0, c1, c2, c3, c4, c5, c6, c7⟩, z0, z1, z2, z3, z4, z5, z6, z7⟩ := HQ0.out.cells HT.out
  dsimp only [St0] at c0 c1 c2 c3 c4 c5 c6 c7
  go_wp2_with fail
  refine (has_0 _).mono ?_
  rintro _ wh ⟨rfl, hbh⟩
  have HQH := Lib.hid (HQ0.out.below hbh)
  clear hbh
  clear c0 c1 c2 c3 c4 c5 c6 c7 z0 z1 z2 z3 z4 z5 z6 z7
  obtain ⟨⟨c0, c1, c2, c3, c4, c5, c6, c7⟩, z0, z1, z2, z3, z4, z5, z6, z7⟩ := HQH.out.cells HT.out
  dsimp only [St0] at c0 c1 c2 c3 c4 c5 c6 c7
  go_wp2_with fail
  refine (in_q_115 _).mono ?_
  rintro _ wq ⟨rfl, hq⟩
  obtain rfl := hq.symm
  clear hq
  go_wp2_with fail
  refine (in_q_110 _).mono ?_
  rintro _ wq ⟨rfl, hq⟩
  obtain rfl := hq.symm
  clear hq
  go_wp2_with fail
  refine (in_q_112 _).mono ?_
  rintro _ wq ⟨rfl, hq⟩
  obtain rfl := hq.symm
  clear hq
  clear c0 c1 c2 c3 c4 c5 c6 c7 z0 z1 z2 z3 z4 z5 z6 z7
  go_wp2_with fail
  refine (HE.out _ HQH.out.rd).mono ?_
  rintro _ we ⟨rfl, hle, hoe⟩
  have HX := Lib.hid (HQH.out.only hoe hle)
  clear hle hoe
  by_cases h0 : ee = 0
  · have H0 := Lib.hid h0
    subst h0
    go_upto_region 13 with fail
    refine wp_region_lit ?_
    refine wpList_load_row rfl 26 _ rfl T rfl 26 (⟨0, 0, 0, 0, 0, 0, 0, ⟨#[]⟩⟩ : St).cells (0, 0) _ (by rw [HT.out]; exact HX.out.t) Tryz.underlying26 rfl (hi8 (⟨0, 0, 0, 0, 0, 0, 0, ⟨#[]⟩⟩ : St)) ?_
    go_wp2_with fail
    refine (HRt.out _).mono ?_
    rintro _ wl ⟨rfl, hbl⟩
    have HPf := Lib.hid (HX.out.below hbl)
    clear hbl
    by_cases hr : rightP (⟨0, 0, 0, 0, 0, 0, 0, ⟨#[]⟩⟩ : St)
    · rw [decide_eq_true hr]
      have HRR := Lib.hid hr
      clear hr
      go_upto_region 15 with fail
      refine wp_region_lit ?_
      refine wpList_load_row rfl 26 _ rfl T rfl 26 (⟨0, 0, 0, 0, 0, 0, 0, ⟨#[]⟩⟩ : St).cells (0, 0) _ (by rw [HT.out]; exact HPf.out.t) Tryz.underlying26 rfl (hi8 (⟨0, 0, 0, 0, 0, 0, 0, ⟨#[]⟩⟩ : St)) ?_
      refine wpList_store_rowTo rfl 26 _ _ rfl rfl w.heap.size (⟨0, 0, 0, 0, 0, 0, 0, ⟨#[]⟩⟩ : St).cells rfl rfl 26 _ HPf.out.r0 (hi8 (⟨0, 0, 0, 0, 0, 0, 0, ⟨#[]⟩⟩ : St)) rfl (cells8_one _) ?_
      have HR' := setRow_heap wl w.heap.size _ (⟨0, 0, 0, 0, 0, 0, 0, ⟨#[]⟩⟩ : St).cells 26 (0, 0) HPf.out.r0
      have hB9 : Below w.heap.size w (wl.setRow w.heap.size (⟨0, 0, 0, 0, 0, 0, 0, ⟨#[]⟩⟩ : St).cells) := ⟨HPf.out.b.os, HPf.out.b.tape, HPf.out.b.output, by simpa using HPf.out.b.size, fun i hi => (setRow_other _ _ _ _ (by omega)).trans (HPf.out.b.block i hi)⟩
      obtain ⟨W9, hW9⟩ : ∃ W9, W9 = wl.setRow w.heap.size (⟨0, 0, 0, 0, 0, 0, 0, ⟨#[]⟩⟩ : St).cells := ⟨_, rfl⟩
      rw [← hW9] at HR' hB9 ⊢
      clear hW9
      go_wp2_with fail
      exact bodyPost_ret (res8pg _ _ w.heap.size (⟨0, 0, 0, 0, 0, 0, 0, ⟨#[]⟩⟩ : St) 0 rfl rfl HR') rfl ⟨by rw [HG.out]; unfold finG; rw [if_neg (by decide), if_pos HRR.out], hB9⟩
    · rw [decide_eq_false hr]
      have HRR := Lib.hid hr
      clear hr
      go_upto_region 14 with fail
      refine wp_region_lit ?_
      refine wpList_step (fun K hK => ?_)
      go_simp
      refine hK _ _ ?_
      clear hK K
      refine wpList_store_rowTo rfl 26 _ _ rfl rfl w.heap.size St0.cells rfl rfl 26 _ HPf.out.r0 (hi8 St0) rfl (cells8_one _) ?_
      have HR' := setRow_heap wl w.heap.size _ St0.cells 26 (0, 0) HPf.out.r0
      have hB9 : Below w.heap.size w (wl.setRow w.heap.size St0.cells) := ⟨HPf.out.b.os, HPf.out.b.tape, HPf.out.b.output, by simpa using HPf.out.b.size, fun i hi => (setRow_other _ _ _ _ (by omega)).trans (HPf.out.b.block i hi)⟩
      obtain ⟨W9, hW9⟩ : ∃ W9, W9 = wl.setRow w.heap.size St0.cells := ⟨_, rfl⟩
      rw [← hW9] at HR' hB9 ⊢
      clear hW9
      go_wp2_with fail
      exact bodyPost_ret (res8pg _ _ w.heap.size St0 3 rfl rfl HR') rfl ⟨by rw [HG.out]; unfold finG; rw [if_neg (by decide), if_neg HRR.out], hB9⟩
  · have H0 := Lib.hid h0
    have he2 : (ee == 0) = false := by simpa using h0
    go_upto_region 12 with fail
    refine wp_region_lit ?_
    refine wpList_step (fun K hK => ?_)
    go_simp
    refine hK _ _ ?_
    clear hK K
    refine wpList_step (fun K hK => ?_)
    go_simp
    refine hK _ _ ?_
    clear hK K
    refine wpList_step (fun K hK => ?_)
    go_simp
    refine (HE.out _ HX.out.rd).mono ?_
    rintro _ wl ⟨rfl, hll, hol⟩
    have HPf := Lib.hid (HX.out.only hol hll)
    clear hll hol
    refine hK _ _ ?_
    clear hK K
    refine wpList_store_rowTo rfl 26 _ _ rfl rfl w.heap.size St0.cells rfl rfl 26 _ HPf.out.r0 (hi8 St0) rfl (cells8_one _) ?_
    have HR' := setRow_heap wl w.heap.size _ St0.cells 26 (0, 0) HPf.out.r0
    have hB9 : Below w.heap.size w (wl.setRow w.heap.size St0.cells) := ⟨HPf.out.b.os, HPf.out.b.tape, HPf.out.b.output, by simpa using HPf.out.b.size, fun i hi => (setRow_other _ _ _ _ (by omega)).trans (HPf.out.b.block i hi)⟩
    obtain ⟨W9, hW9⟩ : ∃ W9, W9 = wl.setRow w.heap.size St0.cells := ⟨_, rfl⟩
    rw [← hW9] at HR' hB9 ⊢
    clear hW9
    go_wp2_with fail
    exact bodyPost_ret (res8pg _ _ w.heap.size St0 ee rfl rfl HR') rfl ⟨by rw [HG.out]; unfold finG; rw [if_pos H0.out], hB9⟩

set_option maxHeartbeats 2000000 in
set_option maxRecDepth 100000 in
theorem rget_1 (s : ByteArray) (hs : s.size ≤ 1099511627776) (hk : ((Rd.R2.mk s 0).num 8).1 = 1) (w : World) : Calls Tryz.prog 65 #[.string s] w fun e w' => e = .returned (.tuple #[.agg (getG s).1.cells, .int .i64 (getG s).2]) ∧ Below w.heap.size w w' := by
  have HN0 := Lib.hid (fun (W : World) (h : Rd.PLies W (w.heap.size + 1) s ⟨s, 0⟩) => Rd.pnum_any (w.heap.size + 1) s ⟨s, 0⟩ 8 hs W h)
  have hok : ((Rd.R2.mk s 0).num 8).2.okay := Rd.R2.num_okay _ 8 (by intro h; exact absurd rfl h)
  have hG : getG s = finG (let k := (Rd.R2.mk s 0).num 8; let a := g1 k.2 1; let b := g2 a.2 1; let p := g3 b.2 1; ⟨1, (a.1 : Int), (b.1 : Int), p.1.c, p.1.f, p.1.s, p.1.t, p.1.d⟩) (let k := (Rd.R2.mk s 0).num 8; let a := g1 k.2 1; let b := g2 a.2 1; let p := g3 b.2 1; p.2.end') := by
    unfold getG; dsimp only; rw [hk]; rfl
  dsimp only at hG
  rw [hk] at HN0
  generalize ((Rd.R2.mk s 0).num 8).2 = r0 at HN0 hok hG
  clear hk
  have HN1 := Lib.hid (fun (W : World) (h : Rd.PLies W (w.heap.size + 1) s r0) => Rd.pnum_any (w.heap.size + 1) s r0 2147483647 hs W h)
  have hb1 := Rd.R2.num_val r0 2147483647
  have hG : getG s = finG ⟨1, 0, ((r0.num 2147483647).1 : Int), 0, 0, 0, 0, ⟨#[]⟩⟩ (r0.num 2147483647).2.end' := hG
  generalize r0.num 2147483647 = q1 at HN1 hb1 hG
  obtain ⟨n, r1⟩ := q1
  dsimp only at HN1 hb1 hG
  have HE := Lib.hid (fun (W : World) (h : Rd.PLies W (w.heap.size + 1) s r1) => Rd.pend_any (w.heap.size + 1) s r1 hs W h)
  generalize hee : r1.end' = ee at HE hG
  clear hee hok hs
  have HG := Lib.hid hG
  have HRt := Lib.hid (fun W => rright_any (⟨1, 0, (n : Int), 0, 0, 0, 0, ⟨#[]⟩⟩ : St) W)
  unfold St.cells at HRt
  dsimp only at HRt
  clear hG
  obtain ⟨T, hT⟩ : ∃ T, T = w.heap.size + 2 := ⟨_, rfl⟩
  have HT := Lib.hid hT
  have HS := Lib.hid (PQ.start w s)
  have e2 : w.heap.size + 1 + 1 = T := by omega
  clear hT
  go_enter Tryz.func65, Tryz.ntmps65
  go_upto_region 3 with fail
  try rw [e2]
  try rw [← HT.out]
  obtain ⟨W0, hW0⟩ : ∃ W0, W0 = ((w.alloc (.cells St0.cells 26)).alloc (.cells #[.string s, .int .i64 0, .int .i64 0] 87)).alloc (.cells St0.cells 26) := ⟨_, rfl⟩
  rw [← hW0] at HS
  unfold St0 St.cells at hW0
  dsimp only at hW0
  rw [← hW0]
  clear hW0 e2
  go_wp2_with fail
  refine (HN0.out W0 HS.out.rd).mono ?_
  rintro _ wn0 ⟨rfl, hl0, ho0⟩
  have HA0 := Lib.hid (HS.out.only ho0 hl0)
  clear hl0 ho0
  obtain ⟨⟨c0, c1, c2, c3, c4, c5, c6, c7⟩, z0, z1, z2, z3, z4, z5, z6, z7⟩ := HA0.out.cells HT.out
  dsimp only [St0] at c0 c1 c2 c3 c4 c5 c6 c7
  go_upto_region 4 with fail
  have HQ0 := Lib.hid (HA0.out.set (x' := (⟨1, 0, 0, 0, 0, 0, 0, ⟨#[]⟩⟩ : St)) 0 (.int .i64 1) rfl)
  rw [← HT.out] at HQ0
  generalize wn0.setCell ⟨T, 0, none⟩ (.int .i64 1) = WQ0 at HQ0 ⊢
  clear c0 c1 c2 c3 c4 c5 c6 c7 z0 z1 z2 z3 z4 z5 z6 z7
  obtain ⟨⟨c0, c1, c2, c3, c4, c5, c6, c7⟩, z0, z1, z2, z3, z4, z5, z6, z7⟩ := HQ0.out.cells HT.out
  dsimp only [St0] at c0 c1 c2 c3 c4 c5 c6 c7
  go_wp2_with fail
  refine (St15.has_1 _).mono ?_
  rintro _ wh ⟨rfl, hbh⟩
  have HQH := Lib.hid (HQ0.out.below hbh)
  clear hbh
  clear c0 c1 c2 c3 c4 c5 c6 c7 z0 z1 z2 z3 z4 z5 z6 z7
  obtain ⟨⟨c0, c1, c2, c3, c4, c5, c6, c7⟩, z0, z1, z2, z3, z4, z5, z6, z7⟩ := HQH.out.cells HT.out
  dsimp only [St0] at c0 c1 c2 c3 c4 c5 c6 c7
  go_wp2_with fail
  refine (St15.in_n_115 _).mono ?_
  rintro _ wq ⟨rfl, hq⟩
  obtain rfl := hq.symm
  clear hq
  go_wp2_with fail
  refine (in_n_110 _).mono ?_
  rintro _ wq ⟨rfl, hq⟩
  obtain rfl := hq.symm
  clear hq
  go_wp2_with fail
  refine (St15.most_1' _).mono ?_
  rintro _ wq ⟨rfl, hq⟩
  obtain rfl := hq.symm
  clear hq
  go_wp2_with fail
  refine (HN1.out _ HQH.out.rd).mono ?_
  rintro _ wn1 ⟨rfl, hl1, ho1⟩
  have HA1 := Lib.hid (HQH.out.only ho1 hl1)
  clear hl1 ho1
  clear c0 c1 c2 c3 c4 c5 c6 c7 z0 z1 z2 z3 z4 z5 z6 z7
  obtain ⟨⟨c0, c1, c2, c3, c4, c5, c6, c7⟩, z0, z1, z2, z3, z4, z5, z6, z7⟩ := HA1.out.cells HT.out
  dsimp only [St0] at c0 c1 c2 c3 c4 c5 c6 c7
  go_upto_region 9 with fail
  have HQ1 := Lib.hid (HA1.out.set (x' := (⟨1, 0, (n : Int), 0, 0, 0, 0, ⟨#[]⟩⟩ : St)) 2 (.int .i64 (n : Int)) rfl)
  rw [← HT.out] at HQ1
  generalize wn1.setCell ⟨T, 2, none⟩ (.int .i64 (n : Int)) = WQ1 at HQ1 ⊢
  clear c0 c1 c2 c3 c4 c5 c6 c7 z0 z1 z2 z3 z4 z5 z6 z7
  obtain ⟨⟨c0, c1, c2, c3, c4, c5, c6, c7⟩, z0, z1, z2, z3, z4, z5, z6, z7⟩ := HQ1.out.cells HT.out
  dsimp only [St0] at c0 c1 c2 c3 c4 c5 c6 c7
  go_wp2_with fail
  refine (St15.in_n_112 _).mono ?_
  rintro _ wq ⟨rfl, hq⟩
  obtain rfl := hq.symm
  clear hq
  clear c0 c1 c2 c3 c4 c5 c6 c7 z0 z1 z2 z3 z4 z5 z6 z7
  go_wp2_with fail
  refine (HE.out _ HQ1.out.rd).mono ?_
  rintro _ we ⟨rfl, hle, hoe⟩
  have HX := Lib.hid (HQ1.out.only hoe hle)
  clear hle hoe
  by_cases h0 : ee = 0
  · have H0 := Lib.hid h0
    subst h0
    go_upto_region 13 with fail
    refine wp_region_lit ?_
    refine wpList_load_row rfl 26 _ rfl T rfl 26 (⟨1, 0, (n : Int), 0, 0, 0, 0, ⟨#[]⟩⟩ : St).cells (0, 0) _ (by rw [HT.out]; exact HX.out.t) Tryz.underlying26 rfl (hi8 (⟨1, 0, (n : Int), 0, 0, 0, 0, ⟨#[]⟩⟩ : St)) ?_
    go_wp2_with fail
    refine (HRt.out _).mono ?_
    rintro _ wl ⟨rfl, hbl⟩
    have HPf := Lib.hid (HX.out.below hbl)
    clear hbl
    by_cases hr : rightP (⟨1, 0, (n : Int), 0, 0, 0, 0, ⟨#[]⟩⟩ : St)
    · rw [decide_eq_true hr]
      have HRR := Lib.hid hr
      clear hr
      go_upto_region 15 with fail
      refine wp_region_lit ?_
      refine wpList_load_row rfl 26 _ rfl T rfl 26 (⟨1, 0, (n : Int), 0, 0, 0, 0, ⟨#[]⟩⟩ : St).cells (0, 0) _ (by rw [HT.out]; exact HPf.out.t) Tryz.underlying26 rfl (hi8 (⟨1, 0, (n : Int), 0, 0, 0, 0, ⟨#[]⟩⟩ : St)) ?_
      refine wpList_store_rowTo rfl 26 _ _ rfl rfl w.heap.size (⟨1, 0, (n : Int), 0, 0, 0, 0, ⟨#[]⟩⟩ : St).cells rfl rfl 26 _ HPf.out.r0 (hi8 (⟨1, 0, (n : Int), 0, 0, 0, 0, ⟨#[]⟩⟩ : St)) rfl (cells8_one _) ?_
      have HR' := setRow_heap wl w.heap.size _ (⟨1, 0, (n : Int), 0, 0, 0, 0, ⟨#[]⟩⟩ : St).cells 26 (0, 0) HPf.out.r0
      have hB9 : Below w.heap.size w (wl.setRow w.heap.size (⟨1, 0, (n : Int), 0, 0, 0, 0, ⟨#[]⟩⟩ : St).cells) := ⟨HPf.out.b.os, HPf.out.b.tape, HPf.out.b.output, by simpa using HPf.out.b.size, fun i hi => (setRow_other _ _ _ _ (by omega)).trans (HPf.out.b.block i hi)⟩
      obtain ⟨W9, hW9⟩ : ∃ W9, W9 = wl.setRow w.heap.size (⟨1, 0, (n : Int), 0, 0, 0, 0, ⟨#[]⟩⟩ : St).cells := ⟨_, rfl⟩
      rw [← hW9] at HR' hB9 ⊢
      clear hW9
      go_wp2_with fail
      exact bodyPost_ret (res8pg _ _ w.heap.size (⟨1, 0, (n : Int), 0, 0, 0, 0, ⟨#[]⟩⟩ : St) 0 rfl rfl HR') rfl ⟨by rw [HG.out]; unfold finG; rw [if_neg (by decide), if_pos HRR.out], hB9⟩
    · rw [decide_eq_false hr]
      have HRR := Lib.hid hr
      clear hr
      go_upto_region 14 with fail
      refine wp_region_lit ?_
      refine wpList_step (fun K hK => ?_)
      go_simp
      refine hK _ _ ?_
      clear hK K
      refine wpList_store_rowTo rfl 26 _ _ rfl rfl w.heap.size St0.cells rfl rfl 26 _ HPf.out.r0 (hi8 St0) rfl (cells8_one _) ?_
      have HR' := setRow_heap wl w.heap.size _ St0.cells 26 (0, 0) HPf.out.r0
      have hB9 : Below w.heap.size w (wl.setRow w.heap.size St0.cells) := ⟨HPf.out.b.os, HPf.out.b.tape, HPf.out.b.output, by simpa using HPf.out.b.size, fun i hi => (setRow_other _ _ _ _ (by omega)).trans (HPf.out.b.block i hi)⟩
      obtain ⟨W9, hW9⟩ : ∃ W9, W9 = wl.setRow w.heap.size St0.cells := ⟨_, rfl⟩
      rw [← hW9] at HR' hB9 ⊢
      clear hW9
      go_wp2_with fail
      exact bodyPost_ret (res8pg _ _ w.heap.size St0 3 rfl rfl HR') rfl ⟨by rw [HG.out]; unfold finG; rw [if_neg (by decide), if_neg HRR.out], hB9⟩
  · have H0 := Lib.hid h0
    have he2 : (ee == 0) = false := by simpa using h0
    go_upto_region 12 with fail
    refine wp_region_lit ?_
    refine wpList_step (fun K hK => ?_)
    go_simp
    refine hK _ _ ?_
    clear hK K
    refine wpList_step (fun K hK => ?_)
    go_simp
    refine hK _ _ ?_
    clear hK K
    refine wpList_step (fun K hK => ?_)
    go_simp
    refine (HE.out _ HX.out.rd).mono ?_
    rintro _ wl ⟨rfl, hll, hol⟩
    have HPf := Lib.hid (HX.out.only hol hll)
    clear hll hol
    refine hK _ _ ?_
    clear hK K
    refine wpList_store_rowTo rfl 26 _ _ rfl rfl w.heap.size St0.cells rfl rfl 26 _ HPf.out.r0 (hi8 St0) rfl (cells8_one _) ?_
    have HR' := setRow_heap wl w.heap.size _ St0.cells 26 (0, 0) HPf.out.r0
    have hB9 : Below w.heap.size w (wl.setRow w.heap.size St0.cells) := ⟨HPf.out.b.os, HPf.out.b.tape, HPf.out.b.output, by simpa using HPf.out.b.size, fun i hi => (setRow_other _ _ _ _ (by omega)).trans (HPf.out.b.block i hi)⟩
    obtain ⟨W9, hW9⟩ : ∃ W9, W9 = wl.setRow w.heap.size St0.cells := ⟨_, rfl⟩
    rw [← hW9] at HR' hB9 ⊢
    clear hW9
    go_wp2_with fail
    exact bodyPost_ret (res8pg _ _ w.heap.size St0 ee rfl rfl HR') rfl ⟨by rw [HG.out]; unfold finG; rw [if_pos H0.out], hB9⟩

set_option maxHeartbeats 2000000 in
set_option maxRecDepth 100000 in
theorem rget_2 (s : ByteArray) (hs : s.size ≤ 1099511627776) (hk : ((Rd.R2.mk s 0).num 8).1 = 2) (w : World) : Calls Tryz.prog 65 #[.string s] w fun e w' => e = .returned (.tuple #[.agg (getG s).1.cells, .int .i64 (getG s).2]) ∧ Below w.heap.size w w' := by
  have HN0 := Lib.hid (fun (W : World) (h : Rd.PLies W (w.heap.size + 1) s ⟨s, 0⟩) => Rd.pnum_any (w.heap.size + 1) s ⟨s, 0⟩ 8 hs W h)
  have hok : ((Rd.R2.mk s 0).num 8).2.okay := Rd.R2.num_okay _ 8 (by intro h; exact absurd rfl h)
  have hG : getG s = finG (let k := (Rd.R2.mk s 0).num 8; let a := g1 k.2 2; let b := g2 a.2 2; let p := g3 b.2 2; ⟨2, (a.1 : Int), (b.1 : Int), p.1.c, p.1.f, p.1.s, p.1.t, p.1.d⟩) (let k := (Rd.R2.mk s 0).num 8; let a := g1 k.2 2; let b := g2 a.2 2; let p := g3 b.2 2; p.2.end') := by
    unfold getG; dsimp only; rw [hk]; rfl
  dsimp only at hG
  rw [hk] at HN0
  generalize ((Rd.R2.mk s 0).num 8).2 = r0 at HN0 hok hG
  clear hk
  have HN1 := Lib.hid (fun (W : World) (h : Rd.PLies W (w.heap.size + 1) s r0) => Rd.pnum_any (w.heap.size + 1) s r0 1 hs W h)
  have hb1 := Rd.R2.num_val r0 1
  have hG : getG s = finG ⟨2, ((r0.num 1).1 : Int), 0, 0, 0, 0, 0, ⟨#[]⟩⟩ (r0.num 1).2.end' := hG
  generalize r0.num 1 = q1 at HN1 hb1 hG
  obtain ⟨sd, r1⟩ := q1
  dsimp only at HN1 hb1 hG
  have HE := Lib.hid (fun (W : World) (h : Rd.PLies W (w.heap.size + 1) s r1) => Rd.pend_any (w.heap.size + 1) s r1 hs W h)
  generalize hee : r1.end' = ee at HE hG
  clear hee hok hs
  have HG := Lib.hid hG
  have HRt := Lib.hid (fun W => rright_any (⟨2, (sd : Int), 0, 0, 0, 0, 0, ⟨#[]⟩⟩ : St) W)
  unfold St.cells at HRt
  dsimp only at HRt
  clear hG
  obtain ⟨T, hT⟩ : ∃ T, T = w.heap.size + 2 := ⟨_, rfl⟩
  have HT := Lib.hid hT
  have HS := Lib.hid (PQ.start w s)
  have e2 : w.heap.size + 1 + 1 = T := by omega
  clear hT
  go_enter Tryz.func65, Tryz.ntmps65
  go_upto_region 3 with fail
  try rw [e2]
  try rw [← HT.out]
  obtain ⟨W0, hW0⟩ : ∃ W0, W0 = ((w.alloc (.cells St0.cells 26)).alloc (.cells #[.string s, .int .i64 0, .int .i64 0] 87)).alloc (.cells St0.cells 26) := ⟨_, rfl⟩
  rw [← hW0] at HS
  unfold St0 St.cells at hW0
  dsimp only at hW0
  rw [← hW0]
  clear hW0 e2
  go_wp2_with fail
  refine (HN0.out W0 HS.out.rd).mono ?_
  rintro _ wn0 ⟨rfl, hl0, ho0⟩
  have HA0 := Lib.hid (HS.out.only ho0 hl0)
  clear hl0 ho0
  obtain ⟨⟨c0, c1, c2, c3, c4, c5, c6, c7⟩, z0, z1, z2, z3, z4, z5, z6, z7⟩ := HA0.out.cells HT.out
  dsimp only [St0] at c0 c1 c2 c3 c4 c5 c6 c7
  go_upto_region 4 with fail
  have HQ0 := Lib.hid (HA0.out.set (x' := (⟨2, 0, 0, 0, 0, 0, 0, ⟨#[]⟩⟩ : St)) 0 (.int .i64 2) rfl)
  rw [← HT.out] at HQ0
  generalize wn0.setCell ⟨T, 0, none⟩ (.int .i64 2) = WQ0 at HQ0 ⊢
  clear c0 c1 c2 c3 c4 c5 c6 c7 z0 z1 z2 z3 z4 z5 z6 z7
  obtain ⟨⟨c0, c1, c2, c3, c4, c5, c6, c7⟩, z0, z1, z2, z3, z4, z5, z6, z7⟩ := HQ0.out.cells HT.out
  dsimp only [St0] at c0 c1 c2 c3 c4 c5 c6 c7
  go_wp2_with fail
  refine (St15.has_2 _).mono ?_
  rintro _ wh ⟨rfl, hbh⟩
  have HQH := Lib.hid (HQ0.out.below hbh)
  clear hbh
  clear c0 c1 c2 c3 c4 c5 c6 c7 z0 z1 z2 z3 z4 z5 z6 z7
  obtain ⟨⟨c0, c1, c2, c3, c4, c5, c6, c7⟩, z0, z1, z2, z3, z4, z5, z6, z7⟩ := HQH.out.cells HT.out
  dsimp only [St0] at c0 c1 c2 c3 c4 c5 c6 c7
  go_wp2_with fail
  refine (St15.in_s_115 _).mono ?_
  rintro _ wq ⟨rfl, hq⟩
  obtain rfl := hq.symm
  clear hq
  go_wp2_with fail
  refine (HN1.out _ HQH.out.rd).mono ?_
  rintro _ wn1 ⟨rfl, hl1, ho1⟩
  have HA1 := Lib.hid (HQH.out.only ho1 hl1)
  clear hl1 ho1
  clear c0 c1 c2 c3 c4 c5 c6 c7 z0 z1 z2 z3 z4 z5 z6 z7
  obtain ⟨⟨c0, c1, c2, c3, c4, c5, c6, c7⟩, z0, z1, z2, z3, z4, z5, z6, z7⟩ := HA1.out.cells HT.out
  dsimp only [St0] at c0 c1 c2 c3 c4 c5 c6 c7
  go_upto_region 7 with fail
  have HQ1 := Lib.hid (HA1.out.set (x' := (⟨2, (sd : Int), 0, 0, 0, 0, 0, ⟨#[]⟩⟩ : St)) 1 (.int .i64 (sd : Int)) rfl)
  rw [← HT.out] at HQ1
  generalize wn1.setCell ⟨T, 1, none⟩ (.int .i64 (sd : Int)) = WQ1 at HQ1 ⊢
  clear c0 c1 c2 c3 c4 c5 c6 c7 z0 z1 z2 z3 z4 z5 z6 z7
  obtain ⟨⟨c0, c1, c2, c3, c4, c5, c6, c7⟩, z0, z1, z2, z3, z4, z5, z6, z7⟩ := HQ1.out.cells HT.out
  dsimp only [St0] at c0 c1 c2 c3 c4 c5 c6 c7
  go_wp2_with fail
  refine (in_s_110 _).mono ?_
  rintro _ wq ⟨rfl, hq⟩
  obtain rfl := hq.symm
  clear hq
  go_wp2_with fail
  refine (St15.in_s_112 _).mono ?_
  rintro _ wq ⟨rfl, hq⟩
  obtain rfl := hq.symm
  clear hq
  clear c0 c1 c2 c3 c4 c5 c6 c7 z0 z1 z2 z3 z4 z5 z6 z7
  go_wp2_with fail
  refine (HE.out _ HQ1.out.rd).mono ?_
  rintro _ we ⟨rfl, hle, hoe⟩
  have HX := Lib.hid (HQ1.out.only hoe hle)
  clear hle hoe
  by_cases h0 : ee = 0
  · have H0 := Lib.hid h0
    subst h0
    go_upto_region 13 with fail
    refine wp_region_lit ?_
    refine wpList_load_row rfl 26 _ rfl T rfl 26 (⟨2, (sd : Int), 0, 0, 0, 0, 0, ⟨#[]⟩⟩ : St).cells (0, 0) _ (by rw [HT.out]; exact HX.out.t) Tryz.underlying26 rfl (hi8 (⟨2, (sd : Int), 0, 0, 0, 0, 0, ⟨#[]⟩⟩ : St)) ?_
    go_wp2_with fail
    refine (HRt.out _).mono ?_
    rintro _ wl ⟨rfl, hbl⟩
    have HPf := Lib.hid (HX.out.below hbl)
    clear hbl
    by_cases hr : rightP (⟨2, (sd : Int), 0, 0, 0, 0, 0, ⟨#[]⟩⟩ : St)
    · rw [decide_eq_true hr]
      have HRR := Lib.hid hr
      clear hr
      go_upto_region 15 with fail
      refine wp_region_lit ?_
      refine wpList_load_row rfl 26 _ rfl T rfl 26 (⟨2, (sd : Int), 0, 0, 0, 0, 0, ⟨#[]⟩⟩ : St).cells (0, 0) _ (by rw [HT.out]; exact HPf.out.t) Tryz.underlying26 rfl (hi8 (⟨2, (sd : Int), 0, 0, 0, 0, 0, ⟨#[]⟩⟩ : St)) ?_
      refine wpList_store_rowTo rfl 26 _ _ rfl rfl w.heap.size (⟨2, (sd : Int), 0, 0, 0, 0, 0, ⟨#[]⟩⟩ : St).cells rfl rfl 26 _ HPf.out.r0 (hi8 (⟨2, (sd : Int), 0, 0, 0, 0, 0, ⟨#[]⟩⟩ : St)) rfl (cells8_one _) ?_
      have HR' := setRow_heap wl w.heap.size _ (⟨2, (sd : Int), 0, 0, 0, 0, 0, ⟨#[]⟩⟩ : St).cells 26 (0, 0) HPf.out.r0
      have hB9 : Below w.heap.size w (wl.setRow w.heap.size (⟨2, (sd : Int), 0, 0, 0, 0, 0, ⟨#[]⟩⟩ : St).cells) := ⟨HPf.out.b.os, HPf.out.b.tape, HPf.out.b.output, by simpa using HPf.out.b.size, fun i hi => (setRow_other _ _ _ _ (by omega)).trans (HPf.out.b.block i hi)⟩
      obtain ⟨W9, hW9⟩ : ∃ W9, W9 = wl.setRow w.heap.size (⟨2, (sd : Int), 0, 0, 0, 0, 0, ⟨#[]⟩⟩ : St).cells := ⟨_, rfl⟩
      rw [← hW9] at HR' hB9 ⊢
      clear hW9
      go_wp2_with fail
      exact bodyPost_ret (res8pg _ _ w.heap.size (⟨2, (sd : Int), 0, 0, 0, 0, 0, ⟨#[]⟩⟩ : St) 0 rfl rfl HR') rfl ⟨by rw [HG.out]; unfold finG; rw [if_neg (by decide), if_pos HRR.out], hB9⟩
    · rw [decide_eq_false hr]
      have HRR := Lib.hid hr
      clear hr
      go_upto_region 14 with fail
      refine wp_region_lit ?_
      refine wpList_step (fun K hK => ?_)
      go_simp
      refine hK _ _ ?_
      clear hK K
      refine wpList_store_rowTo rfl 26 _ _ rfl rfl w.heap.size St0.cells rfl rfl 26 _ HPf.out.r0 (hi8 St0) rfl (cells8_one _) ?_
      have HR' := setRow_heap wl w.heap.size _ St0.cells 26 (0, 0) HPf.out.r0
      have hB9 : Below w.heap.size w (wl.setRow w.heap.size St0.cells) := ⟨HPf.out.b.os, HPf.out.b.tape, HPf.out.b.output, by simpa using HPf.out.b.size, fun i hi => (setRow_other _ _ _ _ (by omega)).trans (HPf.out.b.block i hi)⟩
      obtain ⟨W9, hW9⟩ : ∃ W9, W9 = wl.setRow w.heap.size St0.cells := ⟨_, rfl⟩
      rw [← hW9] at HR' hB9 ⊢
      clear hW9
      go_wp2_with fail
      exact bodyPost_ret (res8pg _ _ w.heap.size St0 3 rfl rfl HR') rfl ⟨by rw [HG.out]; unfold finG; rw [if_neg (by decide), if_neg HRR.out], hB9⟩
  · have H0 := Lib.hid h0
    have he2 : (ee == 0) = false := by simpa using h0
    go_upto_region 12 with fail
    refine wp_region_lit ?_
    refine wpList_step (fun K hK => ?_)
    go_simp
    refine hK _ _ ?_
    clear hK K
    refine wpList_step (fun K hK => ?_)
    go_simp
    refine hK _ _ ?_
    clear hK K
    refine wpList_step (fun K hK => ?_)
    go_simp
    refine (HE.out _ HX.out.rd).mono ?_
    rintro _ wl ⟨rfl, hll, hol⟩
    have HPf := Lib.hid (HX.out.only hol hll)
    clear hll hol
    refine hK _ _ ?_
    clear hK K
    refine wpList_store_rowTo rfl 26 _ _ rfl rfl w.heap.size St0.cells rfl rfl 26 _ HPf.out.r0 (hi8 St0) rfl (cells8_one _) ?_
    have HR' := setRow_heap wl w.heap.size _ St0.cells 26 (0, 0) HPf.out.r0
    have hB9 : Below w.heap.size w (wl.setRow w.heap.size St0.cells) := ⟨HPf.out.b.os, HPf.out.b.tape, HPf.out.b.output, by simpa using HPf.out.b.size, fun i hi => (setRow_other _ _ _ _ (by omega)).trans (HPf.out.b.block i hi)⟩
    obtain ⟨W9, hW9⟩ : ∃ W9, W9 = wl.setRow w.heap.size St0.cells := ⟨_, rfl⟩
    rw [← hW9] at HR' hB9 ⊢
    clear hW9
    go_wp2_with fail
    exact bodyPost_ret (res8pg _ _ w.heap.size St0 ee rfl rfl HR') rfl ⟨by rw [HG.out]; unfold finG; rw [if_pos H0.out], hB9⟩

set_option maxHeartbeats 2000000 in
set_option maxRecDepth 100000 in
theorem rget_3 (s : ByteArray) (hs : s.size ≤ 1099511627776) (hk : ((Rd.R2.mk s 0).num 8).1 = 3) (w : World) : Calls Tryz.prog 65 #[.string s] w fun e w' => e = .returned (.tuple #[.agg (getG s).1.cells, .int .i64 (getG s).2]) ∧ Below w.heap.size w w' := by
  have HN0 := Lib.hid (fun (W : World) (h : Rd.PLies W (w.heap.size + 1) s ⟨s, 0⟩) => Rd.pnum_any (w.heap.size + 1) s ⟨s, 0⟩ 8 hs W h)
  have hok : ((Rd.R2.mk s 0).num 8).2.okay := Rd.R2.num_okay _ 8 (by intro h; exact absurd rfl h)
  have hG : getG s = finG (let k := (Rd.R2.mk s 0).num 8; let a := g1 k.2 3; let b := g2 a.2 3; let p := g3 b.2 3; ⟨3, (a.1 : Int), (b.1 : Int), p.1.c, p.1.f, p.1.s, p.1.t, p.1.d⟩) (let k := (Rd.R2.mk s 0).num 8; let a := g1 k.2 3; let b := g2 a.2 3; let p := g3 b.2 3; p.2.end') := by
    unfold getG; dsimp only; rw [hk]; rfl
  dsimp only at hG
  rw [hk] at HN0
  generalize ((Rd.R2.mk s 0).num 8).2 = r0 at HN0 hok hG
  clear hk
  have HN1 := Lib.hid (fun (W : World) (h : Rd.PLies W (w.heap.size + 1) s r0) => Rd.ptake_any (w.heap.size + 1) s r0 hok hs W h)
  have hG : getG s = finG ⟨3, 0, 0, r0.packet.1.c, r0.packet.1.f, r0.packet.1.s, r0.packet.1.t, r0.packet.1.d⟩ r0.packet.2.end' := hG
  generalize r0.packet = pq at HN1 hG
  obtain ⟨⟨c, f, sq, t, d⟩, r1⟩ := pq
  dsimp only at HN1 hG
  have HE := Lib.hid (fun (W : World) (h : Rd.PLies W (w.heap.size + 1) s r1) => Rd.pend_any (w.heap.size + 1) s r1 hs W h)
  generalize hee : r1.end' = ee at HE hG
  clear hee hok hs
  have HG := Lib.hid hG
  have HRt := Lib.hid (fun W => rright_any (⟨3, 0, 0, c, f, sq, t, d⟩ : St) W)
  unfold St.cells at HRt
  dsimp only at HRt
  clear hG
  obtain ⟨T, hT⟩ : ∃ T, T = w.heap.size + 2 := ⟨_, rfl⟩
  have HT := Lib.hid hT
  have HS := Lib.hid (PQ.start w s)
  have e2 : w.heap.size + 1 + 1 = T := by omega
  clear hT
  go_enter Tryz.func65, Tryz.ntmps65
  go_upto_region 3 with fail
  try rw [e2]
  try rw [← HT.out]
  obtain ⟨W0, hW0⟩ : ∃ W0, W0 = ((w.alloc (.cells St0.cells 26)).alloc (.cells #[.string s, .int .i64 0, .int .i64 0] 87)).alloc (.cells St0.cells 26) := ⟨_, rfl⟩
  rw [← hW0] at HS
  unfold St0 St.cells at hW0
  dsimp only at hW0
  rw [← hW0]
  clear hW0 e2
  go_wp2_with fail
  refine (HN0.out W0 HS.out.rd).mono ?_
  rintro _ wn0 ⟨rfl, hl0, ho0⟩
  have HA0 := Lib.hid (HS.out.only ho0 hl0)
  clear hl0 ho0
  obtain ⟨⟨c0, c1, c2, c3, c4, c5, c6, c7⟩, z0, z1, z2, z3, z4, z5, z6, z7⟩ := HA0.out.cells HT.out
  dsimp only [St0] at c0 c1 c2 c3 c4 c5 c6 c7
  go_upto_region 4 with fail
  have HQ0 := Lib.hid (HA0.out.set (x' := (⟨3, 0, 0, 0, 0, 0, 0, ⟨#[]⟩⟩ : St)) 0 (.int .i64 3) rfl)
  rw [← HT.out] at HQ0
  generalize wn0.setCell ⟨T, 0, none⟩ (.int .i64 3) = WQ0 at HQ0 ⊢
  clear c0 c1 c2 c3 c4 c5 c6 c7 z0 z1 z2 z3 z4 z5 z6 z7
  obtain ⟨⟨c0, c1, c2, c3, c4, c5, c6, c7⟩, z0, z1, z2, z3, z4, z5, z6, z7⟩ := HQ0.out.cells HT.out
  dsimp only [St0] at c0 c1 c2 c3 c4 c5 c6 c7
  go_wp2_with fail
  refine (St15.has_3 _).mono ?_
  rintro _ wh ⟨rfl, hbh⟩
  have HQH := Lib.hid (HQ0.out.below hbh)
  clear hbh
  clear c0 c1 c2 c3 c4 c5 c6 c7 z0 z1 z2 z3 z4 z5 z6 z7
  obtain ⟨⟨c0, c1, c2, c3, c4, c5, c6, c7⟩, z0, z1, z2, z3, z4, z5, z6, z7⟩ := HQH.out.cells HT.out
  dsimp only [St0] at c0 c1 c2 c3 c4 c5 c6 c7
  go_wp2_with fail
  refine (St15.in_p_115 _).mono ?_
  rintro _ wq ⟨rfl, hq⟩
  obtain rfl := hq.symm
  clear hq
  go_wp2_with fail
  refine (in_p_110 _).mono ?_
  rintro _ wq ⟨rfl, hq⟩
  obtain rfl := hq.symm
  clear hq
  go_wp2_with fail
  refine (St15.in_p_112 _).mono ?_
  rintro _ wq ⟨rfl, hq⟩
  obtain rfl := hq.symm
  clear hq
  go_wp2_with fail
  refine (HN1.out _ HQH.out.rd).mono ?_
  rintro _ wn1 ⟨rfl, hl1, ho1⟩
  have HA1 := Lib.hid (HQH.out.only ho1 hl1)
  clear hl1 ho1
  clear c0 c1 c2 c3 c4 c5 c6 c7 z0 z1 z2 z3 z4 z5 z6 z7
  obtain ⟨⟨c0, c1, c2, c3, c4, c5, c6, c7⟩, z0, z1, z2, z3, z4, z5, z6, z7⟩ := HA1.out.cells HT.out
  dsimp only [St0] at c0 c1 c2 c3 c4 c5 c6 c7
  unfold Packet.P5.cells
  dsimp only
  go_upto_region 11 with fail
  have HQ1 := Lib.hid (((((HA1.out.set (x' := (⟨3, 0, 0, c, 0, 0, 0, ⟨#[]⟩⟩ : St)) 3 (.int .i64 c) rfl).set (x' := (⟨3, 0, 0, c, f, 0, 0, ⟨#[]⟩⟩ : St)) 4 (.int .i64 f) rfl).set (x' := (⟨3, 0, 0, c, f, sq, 0, ⟨#[]⟩⟩ : St)) 5 (.int .u64 sq) rfl).set (x' := (⟨3, 0, 0, c, f, sq, t, ⟨#[]⟩⟩ : St)) 6 (.int .u64 t) rfl).set (x' := (⟨3, 0, 0, c, f, sq, t, d⟩ : St)) 7 (.string d) rfl)
  rw [← HT.out] at HQ1
  generalize ((((wn1.setCell ⟨T, 3, none⟩ (.int .i64 c)).setCell ⟨T, 4, none⟩ (.int .i64 f)).setCell ⟨T, 5, none⟩ (.int .u64 sq)).setCell ⟨T, 6, none⟩ (.int .u64 t)).setCell ⟨T, 7, none⟩ (.string d) = WQ1 at HQ1 ⊢
  clear c0 c1 c2 c3 c4 c5 c6 c7 z0 z1 z2 z3 z4 z5 z6 z7
  obtain ⟨⟨c0, c1, c2, c3, c4, c5, c6, c7⟩, z0, z1, z2, z3, z4, z5, z6, z7⟩ := HQ1.out.cells HT.out
  dsimp only [St0] at c0 c1 c2 c3 c4 c5 c6 c7
  clear c0 c1 c2 c3 c4 c5 c6 c7 z0 z1 z2 z3 z4 z5 z6 z7
  go_wp2_with fail
  refine (HE.out _ HQ1.out.rd).mono ?_
  rintro _ we ⟨rfl, hle, hoe⟩
  have HX := Lib.hid (HQ1.out.only hoe hle)
  clear hle hoe
  by_cases h0 : ee = 0
  · have H0 := Lib.hid h0
    subst h0
    go_upto_region 13 with fail
    refine wp_region_lit ?_
    refine wpList_load_row rfl 26 _ rfl T rfl 26 (⟨3, 0, 0, c, f, sq, t, d⟩ : St).cells (0, 0) _ (by rw [HT.out]; exact HX.out.t) Tryz.underlying26 rfl (hi8 (⟨3, 0, 0, c, f, sq, t, d⟩ : St)) ?_
    go_wp2_with fail
    refine (HRt.out _).mono ?_
    rintro _ wl ⟨rfl, hbl⟩
    have HPf := Lib.hid (HX.out.below hbl)
    clear hbl
    by_cases hr : rightP (⟨3, 0, 0, c, f, sq, t, d⟩ : St)
    · rw [decide_eq_true hr]
      have HRR := Lib.hid hr
      clear hr
      go_upto_region 15 with fail
      refine wp_region_lit ?_
      refine wpList_load_row rfl 26 _ rfl T rfl 26 (⟨3, 0, 0, c, f, sq, t, d⟩ : St).cells (0, 0) _ (by rw [HT.out]; exact HPf.out.t) Tryz.underlying26 rfl (hi8 (⟨3, 0, 0, c, f, sq, t, d⟩ : St)) ?_
      refine wpList_store_rowTo rfl 26 _ _ rfl rfl w.heap.size (⟨3, 0, 0, c, f, sq, t, d⟩ : St).cells rfl rfl 26 _ HPf.out.r0 (hi8 (⟨3, 0, 0, c, f, sq, t, d⟩ : St)) rfl (cells8_one _) ?_
      have HR' := setRow_heap wl w.heap.size _ (⟨3, 0, 0, c, f, sq, t, d⟩ : St).cells 26 (0, 0) HPf.out.r0
      have hB9 : Below w.heap.size w (wl.setRow w.heap.size (⟨3, 0, 0, c, f, sq, t, d⟩ : St).cells) := ⟨HPf.out.b.os, HPf.out.b.tape, HPf.out.b.output, by simpa using HPf.out.b.size, fun i hi => (setRow_other _ _ _ _ (by omega)).trans (HPf.out.b.block i hi)⟩
      obtain ⟨W9, hW9⟩ : ∃ W9, W9 = wl.setRow w.heap.size (⟨3, 0, 0, c, f, sq, t, d⟩ : St).cells := ⟨_, rfl⟩
      rw [← hW9] at HR' hB9 ⊢
      clear hW9
      go_wp2_with fail
      exact bodyPost_ret (res8pg _ _ w.heap.size (⟨3, 0, 0, c, f, sq, t, d⟩ : St) 0 rfl rfl HR') rfl ⟨by rw [HG.out]; unfold finG; rw [if_neg (by decide), if_pos HRR.out], hB9⟩
    · rw [decide_eq_false hr]
      have HRR := Lib.hid hr
      clear hr
      go_upto_region 14 with fail
      refine wp_region_lit ?_
      refine wpList_step (fun K hK => ?_)
      go_simp
      refine hK _ _ ?_
      clear hK K
      refine wpList_store_rowTo rfl 26 _ _ rfl rfl w.heap.size St0.cells rfl rfl 26 _ HPf.out.r0 (hi8 St0) rfl (cells8_one _) ?_
      have HR' := setRow_heap wl w.heap.size _ St0.cells 26 (0, 0) HPf.out.r0
      have hB9 : Below w.heap.size w (wl.setRow w.heap.size St0.cells) := ⟨HPf.out.b.os, HPf.out.b.tape, HPf.out.b.output, by simpa using HPf.out.b.size, fun i hi => (setRow_other _ _ _ _ (by omega)).trans (HPf.out.b.block i hi)⟩
      obtain ⟨W9, hW9⟩ : ∃ W9, W9 = wl.setRow w.heap.size St0.cells := ⟨_, rfl⟩
      rw [← hW9] at HR' hB9 ⊢
      clear hW9
      go_wp2_with fail
      exact bodyPost_ret (res8pg _ _ w.heap.size St0 3 rfl rfl HR') rfl ⟨by rw [HG.out]; unfold finG; rw [if_neg (by decide), if_neg HRR.out], hB9⟩
  · have H0 := Lib.hid h0
    have he2 : (ee == 0) = false := by simpa using h0
    go_upto_region 12 with fail
    refine wp_region_lit ?_
    refine wpList_step (fun K hK => ?_)
    go_simp
    refine hK _ _ ?_
    clear hK K
    refine wpList_step (fun K hK => ?_)
    go_simp
    refine hK _ _ ?_
    clear hK K
    refine wpList_step (fun K hK => ?_)
    go_simp
    refine (HE.out _ HX.out.rd).mono ?_
    rintro _ wl ⟨rfl, hll, hol⟩
    have HPf := Lib.hid (HX.out.only hol hll)
    clear hll hol
    refine hK _ _ ?_
    clear hK K
    refine wpList_store_rowTo rfl 26 _ _ rfl rfl w.heap.size St0.cells rfl rfl 26 _ HPf.out.r0 (hi8 St0) rfl (cells8_one _) ?_
    have HR' := setRow_heap wl w.heap.size _ St0.cells 26 (0, 0) HPf.out.r0
    have hB9 : Below w.heap.size w (wl.setRow w.heap.size St0.cells) := ⟨HPf.out.b.os, HPf.out.b.tape, HPf.out.b.output, by simpa using HPf.out.b.size, fun i hi => (setRow_other _ _ _ _ (by omega)).trans (HPf.out.b.block i hi)⟩
    obtain ⟨W9, hW9⟩ : ∃ W9, W9 = wl.setRow w.heap.size St0.cells := ⟨_, rfl⟩
    rw [← hW9] at HR' hB9 ⊢
    clear hW9
    go_wp2_with fail
    exact bodyPost_ret (res8pg _ _ w.heap.size St0 ee rfl rfl HR') rfl ⟨by rw [HG.out]; unfold finG; rw [if_pos H0.out], hB9⟩

set_option maxHeartbeats 2000000 in
set_option maxRecDepth 100000 in
theorem rget_4 (s : ByteArray) (hs : s.size ≤ 1099511627776) (hk : ((Rd.R2.mk s 0).num 8).1 = 4) (w : World) : Calls Tryz.prog 65 #[.string s] w fun e w' => e = .returned (.tuple #[.agg (getG s).1.cells, .int .i64 (getG s).2]) ∧ Below w.heap.size w w' := by
  have HN0 := Lib.hid (fun (W : World) (h : Rd.PLies W (w.heap.size + 1) s ⟨s, 0⟩) => Rd.pnum_any (w.heap.size + 1) s ⟨s, 0⟩ 8 hs W h)
  have hok : ((Rd.R2.mk s 0).num 8).2.okay := Rd.R2.num_okay _ 8 (by intro h; exact absurd rfl h)
  have hG : getG s = finG (let k := (Rd.R2.mk s 0).num 8; let a := g1 k.2 4; let b := g2 a.2 4; let p := g3 b.2 4; ⟨4, (a.1 : Int), (b.1 : Int), p.1.c, p.1.f, p.1.s, p.1.t, p.1.d⟩) (let k := (Rd.R2.mk s 0).num 8; let a := g1 k.2 4; let b := g2 a.2 4; let p := g3 b.2 4; p.2.end') := by
    unfold getG; dsimp only; rw [hk]; rfl
  dsimp only at hG
  rw [hk] at HN0
  generalize ((Rd.R2.mk s 0).num 8).2 = r0 at HN0 hok hG
  clear hk
  have HN1 := Lib.hid (fun (W : World) (h : Rd.PLies W (w.heap.size + 1) s r0) => Rd.pnum_any (w.heap.size + 1) s r0 1 hs W h)
  have hb1 := Rd.R2.num_val r0 1
  have hG : getG s = finG ⟨4, ((r0.num 1).1 : Int), 0, 0, 0, 0, 0, ⟨#[]⟩⟩ (r0.num 1).2.end' := hG
  generalize r0.num 1 = q1 at HN1 hb1 hG
  obtain ⟨sd, r1⟩ := q1
  dsimp only at HN1 hb1 hG
  have HE := Lib.hid (fun (W : World) (h : Rd.PLies W (w.heap.size + 1) s r1) => Rd.pend_any (w.heap.size + 1) s r1 hs W h)
  generalize hee : r1.end' = ee at HE hG
  clear hee hok hs
  have HG := Lib.hid hG
  have HRt := Lib.hid (fun W => rright_any (⟨4, (sd : Int), 0, 0, 0, 0, 0, ⟨#[]⟩⟩ : St) W)
  unfold St.cells at HRt
  dsimp only at HRt
  clear hG
  obtain ⟨T, hT⟩ : ∃ T, T = w.heap.size + 2 := ⟨_, rfl⟩
  have HT := Lib.hid hT
  have HS := Lib.hid (PQ.start w s)
  have e2 : w.heap.size + 1 + 1 = T := by omega
  clear hT
  go_enter Tryz.func65, Tryz.ntmps65
  go_upto_region 3 with fail
  try rw [e2]
  try rw [← HT.out]
  obtain ⟨W0, hW0⟩ : ∃ W0, W0 = ((w.alloc (.cells St0.cells 26)).alloc (.cells #[.string s, .int .i64 0, .int .i64 0] 87)).alloc (.cells St0.cells 26) := ⟨_, rfl⟩
  rw [← hW0] at HS
  unfold St0 St.cells at hW0
  dsimp only at hW0
  rw [← hW0]
  clear hW0 e2
  go_wp2_with fail
  refine (HN0.out W0 HS.out.rd).mono ?_
  rintro _ wn0 ⟨rfl, hl0, ho0⟩
  have HA0 := Lib.hid (HS.out.only ho0 hl0)
  clear hl0 ho0
  obtain ⟨⟨c0, c1, c2, c3, c4, c5, c6, c7⟩, z0, z1, z2, z3, z4, z5, z6, z7⟩ := HA0.out.cells HT.out
  dsimp only [St0] at c0 c1 c2 c3 c4 c5 c6 c7
  go_upto_region 4 with fail
  have HQ0 := Lib.hid (HA0.out.set (x' := (⟨4, 0, 0, 0, 0, 0, 0, ⟨#[]⟩⟩ : St)) 0 (.int .i64 4) rfl)
  rw [← HT.out] at HQ0
  generalize wn0.setCell ⟨T, 0, none⟩ (.int .i64 4) = WQ0 at HQ0 ⊢
  clear c0 c1 c2 c3 c4 c5 c6 c7 z0 z1 z2 z3 z4 z5 z6 z7
  obtain ⟨⟨c0, c1, c2, c3, c4, c5, c6, c7⟩, z0, z1, z2, z3, z4, z5, z6, z7⟩ := HQ0.out.cells HT.out
  dsimp only [St0] at c0 c1 c2 c3 c4 c5 c6 c7
  go_wp2_with fail
  refine (St15.has_4 _).mono ?_
  rintro _ wh ⟨rfl, hbh⟩
  have HQH := Lib.hid (HQ0.out.below hbh)
  clear hbh
  clear c0 c1 c2 c3 c4 c5 c6 c7 z0 z1 z2 z3 z4 z5 z6 z7
  obtain ⟨⟨c0, c1, c2, c3, c4, c5, c6, c7⟩, z0, z1, z2, z3, z4, z5, z6, z7⟩ := HQH.out.cells HT.out
  dsimp only [St0] at c0 c1 c2 c3 c4 c5 c6 c7
  go_wp2_with fail
  refine (St15.in_s_115 _).mono ?_
  rintro _ wq ⟨rfl, hq⟩
  obtain rfl := hq.symm
  clear hq
  go_wp2_with fail
  refine (HN1.out _ HQH.out.rd).mono ?_
  rintro _ wn1 ⟨rfl, hl1, ho1⟩
  have HA1 := Lib.hid (HQH.out.only ho1 hl1)
  clear hl1 ho1
  clear c0 c1 c2 c3 c4 c5 c6 c7 z0 z1 z2 z3 z4 z5 z6 z7
  obtain ⟨⟨c0, c1, c2, c3, c4, c5, c6, c7⟩, z0, z1, z2, z3, z4, z5, z6, z7⟩ := HA1.out.cells HT.out
  dsimp only [St0] at c0 c1 c2 c3 c4 c5 c6 c7
  go_upto_region 7 with fail
  have HQ1 := Lib.hid (HA1.out.set (x' := (⟨4, (sd : Int), 0, 0, 0, 0, 0, ⟨#[]⟩⟩ : St)) 1 (.int .i64 (sd : Int)) rfl)
  rw [← HT.out] at HQ1
  generalize wn1.setCell ⟨T, 1, none⟩ (.int .i64 (sd : Int)) = WQ1 at HQ1 ⊢
  clear c0 c1 c2 c3 c4 c5 c6 c7 z0 z1 z2 z3 z4 z5 z6 z7
  obtain ⟨⟨c0, c1, c2, c3, c4, c5, c6, c7⟩, z0, z1, z2, z3, z4, z5, z6, z7⟩ := HQ1.out.cells HT.out
  dsimp only [St0] at c0 c1 c2 c3 c4 c5 c6 c7
  go_wp2_with fail
  refine (in_s_110 _).mono ?_
  rintro _ wq ⟨rfl, hq⟩
  obtain rfl := hq.symm
  clear hq
  go_wp2_with fail
  refine (St15.in_s_112 _).mono ?_
  rintro _ wq ⟨rfl, hq⟩
  obtain rfl := hq.symm
  clear hq
  clear c0 c1 c2 c3 c4 c5 c6 c7 z0 z1 z2 z3 z4 z5 z6 z7
  go_wp2_with fail
  refine (HE.out _ HQ1.out.rd).mono ?_
  rintro _ we ⟨rfl, hle, hoe⟩
  have HX := Lib.hid (HQ1.out.only hoe hle)
  clear hle hoe
  by_cases h0 : ee = 0
  · have H0 := Lib.hid h0
    subst h0
    go_upto_region 13 with fail
    refine wp_region_lit ?_
    refine wpList_load_row rfl 26 _ rfl T rfl 26 (⟨4, (sd : Int), 0, 0, 0, 0, 0, ⟨#[]⟩⟩ : St).cells (0, 0) _ (by rw [HT.out]; exact HX.out.t) Tryz.underlying26 rfl (hi8 (⟨4, (sd : Int), 0, 0, 0, 0, 0, ⟨#[]⟩⟩ : St)) ?_
    go_wp2_with fail
    refine (HRt.out _).mono ?_
    rintro _ wl ⟨rfl, hbl⟩
    have HPf := Lib.hid (HX.out.below hbl)
    clear hbl
    by_cases hr : rightP (⟨4, (sd : Int), 0, 0, 0, 0, 0, ⟨#[]⟩⟩ : St)
    · rw [decide_eq_true hr]
      have HRR := Lib.hid hr
      clear hr
      go_upto_region 15 with fail
      refine wp_region_lit ?_
      refine wpList_load_row rfl 26 _ rfl T rfl 26 (⟨4, (sd : Int), 0, 0, 0, 0, 0, ⟨#[]⟩⟩ : St).cells (0, 0) _ (by rw [HT.out]; exact HPf.out.t) Tryz.underlying26 rfl (hi8 (⟨4, (sd : Int), 0, 0, 0, 0, 0, ⟨#[]⟩⟩ : St)) ?_
      refine wpList_store_rowTo rfl 26 _ _ rfl rfl w.heap.size (⟨4, (sd : Int), 0, 0, 0, 0, 0, ⟨#[]⟩⟩ : St).cells rfl rfl 26 _ HPf.out.r0 (hi8 (⟨4, (sd : Int), 0, 0, 0, 0, 0, ⟨#[]⟩⟩ : St)) rfl (cells8_one _) ?_
      have HR' := setRow_heap wl w.heap.size _ (⟨4, (sd : Int), 0, 0, 0, 0, 0, ⟨#[]⟩⟩ : St).cells 26 (0, 0) HPf.out.r0
      have hB9 : Below w.heap.size w (wl.setRow w.heap.size (⟨4, (sd : Int), 0, 0, 0, 0, 0, ⟨#[]⟩⟩ : St).cells) := ⟨HPf.out.b.os, HPf.out.b.tape, HPf.out.b.output, by simpa using HPf.out.b.size, fun i hi => (setRow_other _ _ _ _ (by omega)).trans (HPf.out.b.block i hi)⟩
      obtain ⟨W9, hW9⟩ : ∃ W9, W9 = wl.setRow w.heap.size (⟨4, (sd : Int), 0, 0, 0, 0, 0, ⟨#[]⟩⟩ : St).cells := ⟨_, rfl⟩
      rw [← hW9] at HR' hB9 ⊢
      clear hW9
      go_wp2_with fail
      exact bodyPost_ret (res8pg _ _ w.heap.size (⟨4, (sd : Int), 0, 0, 0, 0, 0, ⟨#[]⟩⟩ : St) 0 rfl rfl HR') rfl ⟨by rw [HG.out]; unfold finG; rw [if_neg (by decide), if_pos HRR.out], hB9⟩
    · rw [decide_eq_false hr]
      have HRR := Lib.hid hr
      clear hr
      go_upto_region 14 with fail
      refine wp_region_lit ?_
      refine wpList_step (fun K hK => ?_)
      go_simp
      refine hK _ _ ?_
      clear hK K
      refine wpList_store_rowTo rfl 26 _ _ rfl rfl w.heap.size St0.cells rfl rfl 26 _ HPf.out.r0 (hi8 St0) rfl (cells8_one _) ?_
      have HR' := setRow_heap wl w.heap.size _ St0.cells 26 (0, 0) HPf.out.r0
      have hB9 : Below w.heap.size w (wl.setRow w.heap.size St0.cells) := ⟨HPf.out.b.os, HPf.out.b.tape, HPf.out.b.output, by simpa using HPf.out.b.size, fun i hi => (setRow_other _ _ _ _ (by omega)).trans (HPf.out.b.block i hi)⟩
      obtain ⟨W9, hW9⟩ : ∃ W9, W9 = wl.setRow w.heap.size St0.cells := ⟨_, rfl⟩
      rw [← hW9] at HR' hB9 ⊢
      clear hW9
      go_wp2_with fail
      exact bodyPost_ret (res8pg _ _ w.heap.size St0 3 rfl rfl HR') rfl ⟨by rw [HG.out]; unfold finG; rw [if_neg (by decide), if_neg HRR.out], hB9⟩
  · have H0 := Lib.hid h0
    have he2 : (ee == 0) = false := by simpa using h0
    go_upto_region 12 with fail
    refine wp_region_lit ?_
    refine wpList_step (fun K hK => ?_)
    go_simp
    refine hK _ _ ?_
    clear hK K
    refine wpList_step (fun K hK => ?_)
    go_simp
    refine hK _ _ ?_
    clear hK K
    refine wpList_step (fun K hK => ?_)
    go_simp
    refine (HE.out _ HX.out.rd).mono ?_
    rintro _ wl ⟨rfl, hll, hol⟩
    have HPf := Lib.hid (HX.out.only hol hll)
    clear hll hol
    refine hK _ _ ?_
    clear hK K
    refine wpList_store_rowTo rfl 26 _ _ rfl rfl w.heap.size St0.cells rfl rfl 26 _ HPf.out.r0 (hi8 St0) rfl (cells8_one _) ?_
    have HR' := setRow_heap wl w.heap.size _ St0.cells 26 (0, 0) HPf.out.r0
    have hB9 : Below w.heap.size w (wl.setRow w.heap.size St0.cells) := ⟨HPf.out.b.os, HPf.out.b.tape, HPf.out.b.output, by simpa using HPf.out.b.size, fun i hi => (setRow_other _ _ _ _ (by omega)).trans (HPf.out.b.block i hi)⟩
    obtain ⟨W9, hW9⟩ : ∃ W9, W9 = wl.setRow w.heap.size St0.cells := ⟨_, rfl⟩
    rw [← hW9] at HR' hB9 ⊢
    clear hW9
    go_wp2_with fail
    exact bodyPost_ret (res8pg _ _ w.heap.size St0 ee rfl rfl HR') rfl ⟨by rw [HG.out]; unfold finG; rw [if_pos H0.out], hB9⟩

set_option maxHeartbeats 2000000 in
set_option maxRecDepth 100000 in
theorem rget_5 (s : ByteArray) (hs : s.size ≤ 1099511627776) (hk : ((Rd.R2.mk s 0).num 8).1 = 5) (w : World) : Calls Tryz.prog 65 #[.string s] w fun e w' => e = .returned (.tuple #[.agg (getG s).1.cells, .int .i64 (getG s).2]) ∧ Below w.heap.size w w' := by
  have HN0 := Lib.hid (fun (W : World) (h : Rd.PLies W (w.heap.size + 1) s ⟨s, 0⟩) => Rd.pnum_any (w.heap.size + 1) s ⟨s, 0⟩ 8 hs W h)
  have hok : ((Rd.R2.mk s 0).num 8).2.okay := Rd.R2.num_okay _ 8 (by intro h; exact absurd rfl h)
  have hG : getG s = finG (let k := (Rd.R2.mk s 0).num 8; let a := g1 k.2 5; let b := g2 a.2 5; let p := g3 b.2 5; ⟨5, (a.1 : Int), (b.1 : Int), p.1.c, p.1.f, p.1.s, p.1.t, p.1.d⟩) (let k := (Rd.R2.mk s 0).num 8; let a := g1 k.2 5; let b := g2 a.2 5; let p := g3 b.2 5; p.2.end') := by
    unfold getG; dsimp only; rw [hk]; rfl
  dsimp only at hG
  rw [hk] at HN0
  generalize ((Rd.R2.mk s 0).num 8).2 = r0 at HN0 hok hG
  clear hk
  have HN1 := Lib.hid (fun (W : World) (h : Rd.PLies W (w.heap.size + 1) s r0) => Rd.pnum_any (w.heap.size + 1) s r0 7 hs W h)
  have hb1 := Rd.R2.num_val r0 7
  have hG : getG s = finG ⟨5, 0, ((r0.num 7).1 : Int), 0, 0, 0, 0, ⟨#[]⟩⟩ (r0.num 7).2.end' := hG
  generalize r0.num 7 = q1 at HN1 hb1 hG
  obtain ⟨n, r1⟩ := q1
  dsimp only at HN1 hb1 hG
  have HE := Lib.hid (fun (W : World) (h : Rd.PLies W (w.heap.size + 1) s r1) => Rd.pend_any (w.heap.size + 1) s r1 hs W h)
  generalize hee : r1.end' = ee at HE hG
  clear hee hok hs
  have HG := Lib.hid hG
  have HRt := Lib.hid (fun W => rright_any (⟨5, 0, (n : Int), 0, 0, 0, 0, ⟨#[]⟩⟩ : St) W)
  unfold St.cells at HRt
  dsimp only at HRt
  clear hG
  obtain ⟨T, hT⟩ : ∃ T, T = w.heap.size + 2 := ⟨_, rfl⟩
  have HT := Lib.hid hT
  have HS := Lib.hid (PQ.start w s)
  have e2 : w.heap.size + 1 + 1 = T := by omega
  clear hT
  go_enter Tryz.func65, Tryz.ntmps65
  go_upto_region 3 with fail
  try rw [e2]
  try rw [← HT.out]
  obtain ⟨W0, hW0⟩ : ∃ W0, W0 = ((w.alloc (.cells St0.cells 26)).alloc (.cells #[.string s, .int .i64 0, .int .i64 0] 87)).alloc (.cells St0.cells 26) := ⟨_, rfl⟩
  rw [← hW0] at HS
  unfold St0 St.cells at hW0
  dsimp only at hW0
  rw [← hW0]
  clear hW0 e2
  go_wp2_with fail
  refine (HN0.out W0 HS.out.rd).mono ?_
  rintro _ wn0 ⟨rfl, hl0, ho0⟩
  have HA0 := Lib.hid (HS.out.only ho0 hl0)
  clear hl0 ho0
  obtain ⟨⟨c0, c1, c2, c3, c4, c5, c6, c7⟩, z0, z1, z2, z3, z4, z5, z6, z7⟩ := HA0.out.cells HT.out
  dsimp only [St0] at c0 c1 c2 c3 c4 c5 c6 c7
  go_upto_region 4 with fail
  have HQ0 := Lib.hid (HA0.out.set (x' := (⟨5, 0, 0, 0, 0, 0, 0, ⟨#[]⟩⟩ : St)) 0 (.int .i64 5) rfl)
  rw [← HT.out] at HQ0
  generalize wn0.setCell ⟨T, 0, none⟩ (.int .i64 5) = WQ0 at HQ0 ⊢
  clear c0 c1 c2 c3 c4 c5 c6 c7 z0 z1 z2 z3 z4 z5 z6 z7
  obtain ⟨⟨c0, c1, c2, c3, c4, c5, c6, c7⟩, z0, z1, z2, z3, z4, z5, z6, z7⟩ := HQ0.out.cells HT.out
  dsimp only [St0] at c0 c1 c2 c3 c4 c5 c6 c7
  go_wp2_with fail
  refine (St15.has_5 _).mono ?_
  rintro _ wh ⟨rfl, hbh⟩
  have HQH := Lib.hid (HQ0.out.below hbh)
  clear hbh
  clear c0 c1 c2 c3 c4 c5 c6 c7 z0 z1 z2 z3 z4 z5 z6 z7
  obtain ⟨⟨c0, c1, c2, c3, c4, c5, c6, c7⟩, z0, z1, z2, z3, z4, z5, z6, z7⟩ := HQH.out.cells HT.out
  dsimp only [St0] at c0 c1 c2 c3 c4 c5 c6 c7
  go_wp2_with fail
  refine (St15.in_n_115 _).mono ?_
  rintro _ wq ⟨rfl, hq⟩
  obtain rfl := hq.symm
  clear hq
  go_wp2_with fail
  refine (in_n_110 _).mono ?_
  rintro _ wq ⟨rfl, hq⟩
  obtain rfl := hq.symm
  clear hq
  go_wp2_with fail
  refine (St15.most_5' _).mono ?_
  rintro _ wq ⟨rfl, hq⟩
  obtain rfl := hq.symm
  clear hq
  go_wp2_with fail
  refine (HN1.out _ HQH.out.rd).mono ?_
  rintro _ wn1 ⟨rfl, hl1, ho1⟩
  have HA1 := Lib.hid (HQH.out.only ho1 hl1)
  clear hl1 ho1
  clear c0 c1 c2 c3 c4 c5 c6 c7 z0 z1 z2 z3 z4 z5 z6 z7
  obtain ⟨⟨c0, c1, c2, c3, c4, c5, c6, c7⟩, z0, z1, z2, z3, z4, z5, z6, z7⟩ := HA1.out.cells HT.out
  dsimp only [St0] at c0 c1 c2 c3 c4 c5 c6 c7
  go_upto_region 9 with fail
  have HQ1 := Lib.hid (HA1.out.set (x' := (⟨5, 0, (n : Int), 0, 0, 0, 0, ⟨#[]⟩⟩ : St)) 2 (.int .i64 (n : Int)) rfl)
  rw [← HT.out] at HQ1
  generalize wn1.setCell ⟨T, 2, none⟩ (.int .i64 (n : Int)) = WQ1 at HQ1 ⊢
  clear c0 c1 c2 c3 c4 c5 c6 c7 z0 z1 z2 z3 z4 z5 z6 z7
  obtain ⟨⟨c0, c1, c2, c3, c4, c5, c6, c7⟩, z0, z1, z2, z3, z4, z5, z6, z7⟩ := HQ1.out.cells HT.out
  dsimp only [St0] at c0 c1 c2 c3 c4 c5 c6 c7
  go_wp2_with fail
  refine (St15.in_n_112 _).mono ?_
  rintro _ wq ⟨rfl, hq⟩
  obtain rfl := hq.symm
  clear hq
  clear c0 c1 c2 c3 c4 c5 c6 c7 z0 z1 z2 z3 z4 z5 z6 z7
  go_wp2_with fail
  refine (HE.out _ HQ1.out.rd).mono ?_
  rintro _ we ⟨rfl, hle, hoe⟩
  have HX := Lib.hid (HQ1.out.only hoe hle)
  clear hle hoe
  by_cases h0 : ee = 0
  · have H0 := Lib.hid h0
    subst h0
    go_upto_region 13 with fail
    refine wp_region_lit ?_
    refine wpList_load_row rfl 26 _ rfl T rfl 26 (⟨5, 0, (n : Int), 0, 0, 0, 0, ⟨#[]⟩⟩ : St).cells (0, 0) _ (by rw [HT.out]; exact HX.out.t) Tryz.underlying26 rfl (hi8 (⟨5, 0, (n : Int), 0, 0, 0, 0, ⟨#[]⟩⟩ : St)) ?_
    go_wp2_with fail
    refine (HRt.out _).mono ?_
    rintro _ wl ⟨rfl, hbl⟩
    have HPf := Lib.hid (HX.out.below hbl)
    clear hbl
    by_cases hr : rightP (⟨5, 0, (n : Int), 0, 0, 0, 0, ⟨#[]⟩⟩ : St)
    · rw [decide_eq_true hr]
      have HRR := Lib.hid hr
      clear hr
      go_upto_region 15 with fail
      refine wp_region_lit ?_
      refine wpList_load_row rfl 26 _ rfl T rfl 26 (⟨5, 0, (n : Int), 0, 0, 0, 0, ⟨#[]⟩⟩ : St).cells (0, 0) _ (by rw [HT.out]; exact HPf.out.t) Tryz.underlying26 rfl (hi8 (⟨5, 0, (n : Int), 0, 0, 0, 0, ⟨#[]⟩⟩ : St)) ?_
      refine wpList_store_rowTo rfl 26 _ _ rfl rfl w.heap.size (⟨5, 0, (n : Int), 0, 0, 0, 0, ⟨#[]⟩⟩ : St).cells rfl rfl 26 _ HPf.out.r0 (hi8 (⟨5, 0, (n : Int), 0, 0, 0, 0, ⟨#[]⟩⟩ : St)) rfl (cells8_one _) ?_
      have HR' := setRow_heap wl w.heap.size _ (⟨5, 0, (n : Int), 0, 0, 0, 0, ⟨#[]⟩⟩ : St).cells 26 (0, 0) HPf.out.r0
      have hB9 : Below w.heap.size w (wl.setRow w.heap.size (⟨5, 0, (n : Int), 0, 0, 0, 0, ⟨#[]⟩⟩ : St).cells) := ⟨HPf.out.b.os, HPf.out.b.tape, HPf.out.b.output, by simpa using HPf.out.b.size, fun i hi => (setRow_other _ _ _ _ (by omega)).trans (HPf.out.b.block i hi)⟩
      obtain ⟨W9, hW9⟩ : ∃ W9, W9 = wl.setRow w.heap.size (⟨5, 0, (n : Int), 0, 0, 0, 0, ⟨#[]⟩⟩ : St).cells := ⟨_, rfl⟩
      rw [← hW9] at HR' hB9 ⊢
      clear hW9
      go_wp2_with fail
      exact bodyPost_ret (res8pg _ _ w.heap.size (⟨5, 0, (n : Int), 0, 0, 0, 0, ⟨#[]⟩⟩ : St) 0 rfl rfl HR') rfl ⟨by rw [HG.out]; unfold finG; rw [if_neg (by decide), if_pos HRR.out], hB9⟩
    · rw [decide_eq_false hr]
      have HRR := Lib.hid hr
      clear hr
      go_upto_region 14 with fail
      refine wp_region_lit ?_
      refine wpList_step (fun K hK => ?_)
      go_simp
      refine hK _ _ ?_
      clear hK K
      refine wpList_store_rowTo rfl 26 _ _ rfl rfl w.heap.size St0.cells rfl rfl 26 _ HPf.out.r0 (hi8 St0) rfl (cells8_one _) ?_
      have HR' := setRow_heap wl w.heap.size _ St0.cells 26 (0, 0) HPf.out.r0
      have hB9 : Below w.heap.size w (wl.setRow w.heap.size St0.cells) := ⟨HPf.out.b.os, HPf.out.b.tape, HPf.out.b.output, by simpa using HPf.out.b.size, fun i hi => (setRow_other _ _ _ _ (by omega)).trans (HPf.out.b.block i hi)⟩
      obtain ⟨W9, hW9⟩ : ∃ W9, W9 = wl.setRow w.heap.size St0.cells := ⟨_, rfl⟩
      rw [← hW9] at HR' hB9 ⊢
      clear hW9
      go_wp2_with fail
      exact bodyPost_ret (res8pg _ _ w.heap.size St0 3 rfl rfl HR') rfl ⟨by rw [HG.out]; unfold finG; rw [if_neg (by decide), if_neg HRR.out], hB9⟩
  · have H0 := Lib.hid h0
    have he2 : (ee == 0) = false := by simpa using h0
    go_upto_region 12 with fail
    refine wp_region_lit ?_
    refine wpList_step (fun K hK => ?_)
    go_simp
    refine hK _ _ ?_
    clear hK K
    refine wpList_step (fun K hK => ?_)
    go_simp
    refine hK _ _ ?_
    clear hK K
    refine wpList_step (fun K hK => ?_)
    go_simp
    refine (HE.out _ HX.out.rd).mono ?_
    rintro _ wl ⟨rfl, hll, hol⟩
    have HPf := Lib.hid (HX.out.only hol hll)
    clear hll hol
    refine hK _ _ ?_
    clear hK K
    refine wpList_store_rowTo rfl 26 _ _ rfl rfl w.heap.size St0.cells rfl rfl 26 _ HPf.out.r0 (hi8 St0) rfl (cells8_one _) ?_
    have HR' := setRow_heap wl w.heap.size _ St0.cells 26 (0, 0) HPf.out.r0
    have hB9 : Below w.heap.size w (wl.setRow w.heap.size St0.cells) := ⟨HPf.out.b.os, HPf.out.b.tape, HPf.out.b.output, by simpa using HPf.out.b.size, fun i hi => (setRow_other _ _ _ _ (by omega)).trans (HPf.out.b.block i hi)⟩
    obtain ⟨W9, hW9⟩ : ∃ W9, W9 = wl.setRow w.heap.size St0.cells := ⟨_, rfl⟩
    rw [← hW9] at HR' hB9 ⊢
    clear hW9
    go_wp2_with fail
    exact bodyPost_ret (res8pg _ _ w.heap.size St0 ee rfl rfl HR') rfl ⟨by rw [HG.out]; unfold finG; rw [if_pos H0.out], hB9⟩

set_option maxHeartbeats 2000000 in
set_option maxRecDepth 100000 in
theorem rget_6 (s : ByteArray) (hs : s.size ≤ 1099511627776) (hk : ((Rd.R2.mk s 0).num 8).1 = 6) (w : World) : Calls Tryz.prog 65 #[.string s] w fun e w' => e = .returned (.tuple #[.agg (getG s).1.cells, .int .i64 (getG s).2]) ∧ Below w.heap.size w w' := by
  have HN0 := Lib.hid (fun (W : World) (h : Rd.PLies W (w.heap.size + 1) s ⟨s, 0⟩) => Rd.pnum_any (w.heap.size + 1) s ⟨s, 0⟩ 8 hs W h)
  have hok : ((Rd.R2.mk s 0).num 8).2.okay := Rd.R2.num_okay _ 8 (by intro h; exact absurd rfl h)
  have hG : getG s = finG (let k := (Rd.R2.mk s 0).num 8; let a := g1 k.2 6; let b := g2 a.2 6; let p := g3 b.2 6; ⟨6, (a.1 : Int), (b.1 : Int), p.1.c, p.1.f, p.1.s, p.1.t, p.1.d⟩) (let k := (Rd.R2.mk s 0).num 8; let a := g1 k.2 6; let b := g2 a.2 6; let p := g3 b.2 6; p.2.end') := by
    unfold getG; dsimp only; rw [hk]; rfl
  dsimp only at hG
  rw [hk] at HN0
  generalize ((Rd.R2.mk s 0).num 8).2 = r0 at HN0 hok hG
  clear hk
  have HN1 := Lib.hid (fun (W : World) (h : Rd.PLies W (w.heap.size + 1) s r0) => Rd.pnum_any (w.heap.size + 1) s r0 1 hs W h)
  have hb1 := Rd.R2.num_val r0 1
  have hG : getG s = finG ⟨6, ((r0.num 1).1 : Int), (((r0.num 1).2.num 4).1 : Int), 0, 0, 0, 0, ⟨#[]⟩⟩ ((r0.num 1).2.num 4).2.end' := hG
  generalize r0.num 1 = q1 at HN1 hb1 hG
  obtain ⟨sd, r1⟩ := q1
  dsimp only at HN1 hb1 hG
  have HN2 := Lib.hid (fun (W : World) (h : Rd.PLies W (w.heap.size + 1) s r1) => Rd.pnum_any (w.heap.size + 1) s r1 4 hs W h)
  have hb2 := Rd.R2.num_val r1 4
  have hG : getG s = finG ⟨6, (sd : Int), ((r1.num 4).1 : Int), 0, 0, 0, 0, ⟨#[]⟩⟩ (r1.num 4).2.end' := hG
  generalize r1.num 4 = q2 at HN2 hb2 hG
  obtain ⟨n, r2⟩ := q2
  dsimp only at HN2 hb2 hG
  have HE := Lib.hid (fun (W : World) (h : Rd.PLies W (w.heap.size + 1) s r2) => Rd.pend_any (w.heap.size + 1) s r2 hs W h)
  generalize hee : r2.end' = ee at HE hG
  clear hee hok hs
  have HG := Lib.hid hG
  have HRt := Lib.hid (fun W => rright_any (⟨6, (sd : Int), (n : Int), 0, 0, 0, 0, ⟨#[]⟩⟩ : St) W)
  unfold St.cells at HRt
  dsimp only at HRt
  clear hG
  obtain ⟨T, hT⟩ : ∃ T, T = w.heap.size + 2 := ⟨_, rfl⟩
  have HT := Lib.hid hT
  have HS := Lib.hid (PQ.start w s)
  have e2 : w.heap.size + 1 + 1 = T := by omega
  clear hT
  go_enter Tryz.func65, Tryz.ntmps65
  go_upto_region 3 with fail
  try rw [e2]
  try rw [← HT.out]
  obtain ⟨W0, hW0⟩ : ∃ W0, W0 = ((w.alloc (.cells St0.cells 26)).alloc (.cells #[.string s, .int .i64 0, .int .i64 0] 87)).alloc (.cells St0.cells 26) := ⟨_, rfl⟩
  rw [← hW0] at HS
  unfold St0 St.cells at hW0
  dsimp only at hW0
  rw [← hW0]
  clear hW0 e2
  go_wp2_with fail
  refine (HN0.out W0 HS.out.rd).mono ?_
  rintro _ wn0 ⟨rfl, hl0, ho0⟩
  have HA0 := Lib.hid (HS.out.only ho0 hl0)
  clear hl0 ho0
  obtain ⟨⟨c0, c1, c2, c3, c4, c5, c6, c7⟩, z0, z1, z2, z3, z4, z5, z6, z7⟩ := HA0.out.cells HT.out
  dsimp only [St0] at c0 c1 c2 c3 c4 c5 c6 c7
  go_upto_region 4 with fail
  have HQ0 := Lib.hid (HA0.out.set (x' := (⟨6, 0, 0, 0, 0, 0, 0, ⟨#[]⟩⟩ : St)) 0 (.int .i64 6) rfl)
  rw [← HT.out] at HQ0
  generalize wn0.setCell ⟨T, 0, none⟩ (.int .i64 6) = WQ0 at HQ0 ⊢
  clear c0 c1 c2 c3 c4 c5 c6 c7 z0 z1 z2 z3 z4 z5 z6 z7
  obtain ⟨⟨c0, c1, c2, c3, c4, c5, c6, c7⟩, z0, z1, z2, z3, z4, z5, z6, z7⟩ := HQ0.out.cells HT.out
  dsimp only [St0] at c0 c1 c2 c3 c4 c5 c6 c7
  go_wp2_with fail
  refine (St15.has_6 _).mono ?_
  rintro _ wh ⟨rfl, hbh⟩
  have HQH := Lib.hid (HQ0.out.below hbh)
  clear hbh
  clear c0 c1 c2 c3 c4 c5 c6 c7 z0 z1 z2 z3 z4 z5 z6 z7
  obtain ⟨⟨c0, c1, c2, c3, c4, c5, c6, c7⟩, z0, z1, z2, z3, z4, z5, z6, z7⟩ := HQH.out.cells HT.out
  dsimp only [St0] at c0 c1 c2 c3 c4 c5 c6 c7
  go_wp2_with fail
  refine (St15.in_sn_115 _).mono ?_
  rintro _ wq ⟨rfl, hq⟩
  obtain rfl := hq.symm
  clear hq
  go_wp2_with fail
  refine (HN1.out _ HQH.out.rd).mono ?_
  rintro _ wn1 ⟨rfl, hl1, ho1⟩
  have HA1 := Lib.hid (HQH.out.only ho1 hl1)
  clear hl1 ho1
  clear c0 c1 c2 c3 c4 c5 c6 c7 z0 z1 z2 z3 z4 z5 z6 z7
  obtain ⟨⟨c0, c1, c2, c3, c4, c5, c6, c7⟩, z0, z1, z2, z3, z4, z5, z6, z7⟩ := HA1.out.cells HT.out
  dsimp only [St0] at c0 c1 c2 c3 c4 c5 c6 c7
  go_upto_region 7 with fail
  have HQ1 := Lib.hid (HA1.out.set (x' := (⟨6, (sd : Int), 0, 0, 0, 0, 0, ⟨#[]⟩⟩ : St)) 1 (.int .i64 (sd : Int)) rfl)
  rw [← HT.out] at HQ1
  generalize wn1.setCell ⟨T, 1, none⟩ (.int .i64 (sd : Int)) = WQ1 at HQ1 ⊢
  clear c0 c1 c2 c3 c4 c5 c6 c7 z0 z1 z2 z3 z4 z5 z6 z7
  obtain ⟨⟨c0, c1, c2, c3, c4, c5, c6, c7⟩, z0, z1, z2, z3, z4, z5, z6, z7⟩ := HQ1.out.cells HT.out
  dsimp only [St0] at c0 c1 c2 c3 c4 c5 c6 c7
  go_wp2_with fail
  refine (in_sn_110 _).mono ?_
  rintro _ wq ⟨rfl, hq⟩
  obtain rfl := hq.symm
  clear hq
  go_wp2_with fail
  refine (St15.most_6' _).mono ?_
  rintro _ wq ⟨rfl, hq⟩
  obtain rfl := hq.symm
  clear hq
  go_wp2_with fail
  refine (HN2.out _ HQ1.out.rd).mono ?_
  rintro _ wn2 ⟨rfl, hl2, ho2⟩
  have HA2 := Lib.hid (HQ1.out.only ho2 hl2)
  clear hl2 ho2
  clear c0 c1 c2 c3 c4 c5 c6 c7 z0 z1 z2 z3 z4 z5 z6 z7
  obtain ⟨⟨c0, c1, c2, c3, c4, c5, c6, c7⟩, z0, z1, z2, z3, z4, z5, z6, z7⟩ := HA2.out.cells HT.out
  dsimp only [St0] at c0 c1 c2 c3 c4 c5 c6 c7
  go_upto_region 9 with fail
  have HQ2 := Lib.hid (HA2.out.set (x' := (⟨6, (sd : Int), (n : Int), 0, 0, 0, 0, ⟨#[]⟩⟩ : St)) 2 (.int .i64 (n : Int)) rfl)
  rw [← HT.out] at HQ2
  generalize wn2.setCell ⟨T, 2, none⟩ (.int .i64 (n : Int)) = WQ2 at HQ2 ⊢
  clear c0 c1 c2 c3 c4 c5 c6 c7 z0 z1 z2 z3 z4 z5 z6 z7
  obtain ⟨⟨c0, c1, c2, c3, c4, c5, c6, c7⟩, z0, z1, z2, z3, z4, z5, z6, z7⟩ := HQ2.out.cells HT.out
  dsimp only [St0] at c0 c1 c2 c3 c4 c5 c6 c7
  go_wp2_with fail
  refine (St15.in_sn_112 _).mono ?_
  rintro _ wq ⟨rfl, hq⟩
  obtain rfl := hq.symm
  clear hq
  clear c0 c1 c2 c3 c4 c5 c6 c7 z0 z1 z2 z3 z4 z5 z6 z7
  go_wp2_with fail
  refine (HE.out _ HQ2.out.rd).mono ?_
  rintro _ we ⟨rfl, hle, hoe⟩
  have HX := Lib.hid (HQ2.out.only hoe hle)
  clear hle hoe
  by_cases h0 : ee = 0
  · have H0 := Lib.hid h0
    subst h0
    go_upto_region 13 with fail
    refine wp_region_lit ?_
    refine wpList_load_row rfl 26 _ rfl T rfl 26 (⟨6, (sd : Int), (n : Int), 0, 0, 0, 0, ⟨#[]⟩⟩ : St).cells (0, 0) _ (by rw [HT.out]; exact HX.out.t) Tryz.underlying26 rfl (hi8 (⟨6, (sd : Int), (n : Int), 0, 0, 0, 0, ⟨#[]⟩⟩ : St)) ?_
    go_wp2_with fail
    refine (HRt.out _).mono ?_
    rintro _ wl ⟨rfl, hbl⟩
    have HPf := Lib.hid (HX.out.below hbl)
    clear hbl
    by_cases hr : rightP (⟨6, (sd : Int), (n : Int), 0, 0, 0, 0, ⟨#[]⟩⟩ : St)
    · rw [decide_eq_true hr]
      have HRR := Lib.hid hr
      clear hr
      go_upto_region 15 with fail
      refine wp_region_lit ?_
      refine wpList_load_row rfl 26 _ rfl T rfl 26 (⟨6, (sd : Int), (n : Int), 0, 0, 0, 0, ⟨#[]⟩⟩ : St).cells (0, 0) _ (by rw [HT.out]; exact HPf.out.t) Tryz.underlying26 rfl (hi8 (⟨6, (sd : Int), (n : Int), 0, 0, 0, 0, ⟨#[]⟩⟩ : St)) ?_
      refine wpList_store_rowTo rfl 26 _ _ rfl rfl w.heap.size (⟨6, (sd : Int), (n : Int), 0, 0, 0, 0, ⟨#[]⟩⟩ : St).cells rfl rfl 26 _ HPf.out.r0 (hi8 (⟨6, (sd : Int), (n : Int), 0, 0, 0, 0, ⟨#[]⟩⟩ : St)) rfl (cells8_one _) ?_
      have HR' := setRow_heap wl w.heap.size _ (⟨6, (sd : Int), (n : Int), 0, 0, 0, 0, ⟨#[]⟩⟩ : St).cells 26 (0, 0) HPf.out.r0
      have hB9 : Below w.heap.size w (wl.setRow w.heap.size (⟨6, (sd : Int), (n : Int), 0, 0, 0, 0, ⟨#[]⟩⟩ : St).cells) := ⟨HPf.out.b.os, HPf.out.b.tape, HPf.out.b.output, by simpa using HPf.out.b.size, fun i hi => (setRow_other _ _ _ _ (by omega)).trans (HPf.out.b.block i hi)⟩
      obtain ⟨W9, hW9⟩ : ∃ W9, W9 = wl.setRow w.heap.size (⟨6, (sd : Int), (n : Int), 0, 0, 0, 0, ⟨#[]⟩⟩ : St).cells := ⟨_, rfl⟩
      rw [← hW9] at HR' hB9 ⊢
      clear hW9
      go_wp2_with fail
      exact bodyPost_ret (res8pg _ _ w.heap.size (⟨6, (sd : Int), (n : Int), 0, 0, 0, 0, ⟨#[]⟩⟩ : St) 0 rfl rfl HR') rfl ⟨by rw [HG.out]; unfold finG; rw [if_neg (by decide), if_pos HRR.out], hB9⟩
    · rw [decide_eq_false hr]
      have HRR := Lib.hid hr
      clear hr
      go_upto_region 14 with fail
      refine wp_region_lit ?_
      refine wpList_step (fun K hK => ?_)
      go_simp
      refine hK _ _ ?_
      clear hK K
      refine wpList_store_rowTo rfl 26 _ _ rfl rfl w.heap.size St0.cells rfl rfl 26 _ HPf.out.r0 (hi8 St0) rfl (cells8_one _) ?_
      have HR' := setRow_heap wl w.heap.size _ St0.cells 26 (0, 0) HPf.out.r0
      have hB9 : Below w.heap.size w (wl.setRow w.heap.size St0.cells) := ⟨HPf.out.b.os, HPf.out.b.tape, HPf.out.b.output, by simpa using HPf.out.b.size, fun i hi => (setRow_other _ _ _ _ (by omega)).trans (HPf.out.b.block i hi)⟩
      obtain ⟨W9, hW9⟩ : ∃ W9, W9 = wl.setRow w.heap.size St0.cells := ⟨_, rfl⟩
      rw [← hW9] at HR' hB9 ⊢
      clear hW9
      go_wp2_with fail
      exact bodyPost_ret (res8pg _ _ w.heap.size St0 3 rfl rfl HR') rfl ⟨by rw [HG.out]; unfold finG; rw [if_neg (by decide), if_neg HRR.out], hB9⟩
  · have H0 := Lib.hid h0
    have he2 : (ee == 0) = false := by simpa using h0
    go_upto_region 12 with fail
    refine wp_region_lit ?_
    refine wpList_step (fun K hK => ?_)
    go_simp
    refine hK _ _ ?_
    clear hK K
    refine wpList_step (fun K hK => ?_)
    go_simp
    refine hK _ _ ?_
    clear hK K
    refine wpList_step (fun K hK => ?_)
    go_simp
    refine (HE.out _ HX.out.rd).mono ?_
    rintro _ wl ⟨rfl, hll, hol⟩
    have HPf := Lib.hid (HX.out.only hol hll)
    clear hll hol
    refine hK _ _ ?_
    clear hK K
    refine wpList_store_rowTo rfl 26 _ _ rfl rfl w.heap.size St0.cells rfl rfl 26 _ HPf.out.r0 (hi8 St0) rfl (cells8_one _) ?_
    have HR' := setRow_heap wl w.heap.size _ St0.cells 26 (0, 0) HPf.out.r0
    have hB9 : Below w.heap.size w (wl.setRow w.heap.size St0.cells) := ⟨HPf.out.b.os, HPf.out.b.tape, HPf.out.b.output, by simpa using HPf.out.b.size, fun i hi => (setRow_other _ _ _ _ (by omega)).trans (HPf.out.b.block i hi)⟩
    obtain ⟨W9, hW9⟩ : ∃ W9, W9 = wl.setRow w.heap.size St0.cells := ⟨_, rfl⟩
    rw [← hW9] at HR' hB9 ⊢
    clear hW9
    go_wp2_with fail
    exact bodyPost_ret (res8pg _ _ w.heap.size St0 ee rfl rfl HR') rfl ⟨by rw [HG.out]; unfold finG; rw [if_pos H0.out], hB9⟩

set_option maxHeartbeats 2000000 in
set_option maxRecDepth 100000 in
theorem rget_7 (s : ByteArray) (hs : s.size ≤ 1099511627776) (hk : ((Rd.R2.mk s 0).num 8).1 = 7) (w : World) : Calls Tryz.prog 65 #[.string s] w fun e w' => e = .returned (.tuple #[.agg (getG s).1.cells, .int .i64 (getG s).2]) ∧ Below w.heap.size w w' := by
  have HN0 := Lib.hid (fun (W : World) (h : Rd.PLies W (w.heap.size + 1) s ⟨s, 0⟩) => Rd.pnum_any (w.heap.size + 1) s ⟨s, 0⟩ 8 hs W h)
  have hok : ((Rd.R2.mk s 0).num 8).2.okay := Rd.R2.num_okay _ 8 (by intro h; exact absurd rfl h)
  have hG : getG s = finG (let k := (Rd.R2.mk s 0).num 8; let a := g1 k.2 7; let b := g2 a.2 7; let p := g3 b.2 7; ⟨7, (a.1 : Int), (b.1 : Int), p.1.c, p.1.f, p.1.s, p.1.t, p.1.d⟩) (let k := (Rd.R2.mk s 0).num 8; let a := g1 k.2 7; let b := g2 a.2 7; let p := g3 b.2 7; p.2.end') := by
    unfold getG; dsimp only; rw [hk]; rfl
  dsimp only at hG
  rw [hk] at HN0
  generalize ((Rd.R2.mk s 0).num 8).2 = r0 at HN0 hok hG
  clear hk
  have hG : getG s = finG ⟨7, 0, 0, 0, 0, 0, 0, ⟨#[]⟩⟩ r0.end' := hG
  have HE := Lib.hid (fun (W : World) (h : Rd.PLies W (w.heap.size + 1) s r0) => Rd.pend_any (w.heap.size + 1) s r0 hs W h)
  generalize hee : r0.end' = ee at HE hG
  clear hee hok hs
  have HG := Lib.hid hG
  have HRt := Lib.hid (fun W => rright_any (⟨7, 0, 0, 0, 0, 0, 0, ⟨#[]⟩⟩ : St) W)
  unfold St.cells at HRt
  dsimp only at HRt
  clear hG
  obtain ⟨T, hT⟩ : ∃ T, T = w.heap.size + 2 := ⟨_, rfl⟩
  have HT := Lib.hid hT
  have HS := Lib.hid (PQ.start w s)
  have e2 : w.heap.size + 1 + 1 = T := by omega
  clear hT
  go_enter Tryz.func65, Tryz.ntmps65
  go_upto_region 3 with fail
  try rw [e2]
  try rw [← HT.out]
  obtain ⟨W0, hW0⟩ : ∃ W0, W0 = ((w.alloc (.cells St0.cells 26)).alloc (.cells #[.string s, .int .i64 0, .int .i64 0] 87)).alloc (.cells St0.cells 26) := ⟨_, rfl⟩
  rw [← hW0] at HS
  unfold St0 St.cells at hW0
  dsimp only at hW0
  rw [← hW0]
  clear hW0 e2
  go_wp2_with fail
  refine (HN0.out W0 HS.out.rd).mono ?_
  rintro _ wn0 ⟨rfl, hl0, ho0⟩
  have HA0 := Lib.hid (HS.out.only ho0 hl0)
  clear hl0 ho0
  obtain ⟨⟨c0, c1, c2, c3, c4, c5, c6, c7⟩, z0, z1, z2, z3, z4, z5, z6, z7⟩ := HA0.out.cells HT.out
  dsimp only [St0] at c0 c1 c2 c3 c4 c5 c6 c7
  go_upto_region 4 with fail
  have HQ0 := Lib.hid (HA0.out.set (x' := (⟨7, 0, 0, 0, 0, 0, 0, ⟨#[]⟩⟩ : St)) 0 (.int .i64 7) rfl)
  rw [← HT.out] at HQ0
  generalize wn0.setCell ⟨T, 0, none⟩ (.int .i64 7) = WQ0 at HQ0 ⊢
  clear c0 c1 c2 c3 c4 c5 c6 c7 z0 z1 z2 z3 z4 z5 z6 z7
  obtain ⟨⟨c0, c1, c2, c3, c4, c5, c6, c7⟩, z0, z1, z2, z3, z4, z5, z6, z7⟩ := HQ0.out.cells HT.out
  dsimp only [St0] at c0 c1 c2 c3 c4 c5 c6 c7
  go_wp2_with fail
  refine (St15.has_7 _).mono ?_
  rintro _ wh ⟨rfl, hbh⟩
  have HQH := Lib.hid (HQ0.out.below hbh)
  clear hbh
  clear c0 c1 c2 c3 c4 c5 c6 c7 z0 z1 z2 z3 z4 z5 z6 z7
  obtain ⟨⟨c0, c1, c2, c3, c4, c5, c6, c7⟩, z0, z1, z2, z3, z4, z5, z6, z7⟩ := HQH.out.cells HT.out
  dsimp only [St0] at c0 c1 c2 c3 c4 c5 c6 c7
  go_wp2_with fail
  refine (St15.in_none_115 _).mono ?_
  rintro _ wq ⟨rfl, hq⟩
  obtain rfl := hq.symm
  clear hq
  go_wp2_with fail
  refine (in_none_110 _).mono ?_
  rintro _ wq ⟨rfl, hq⟩
  obtain rfl := hq.symm
  clear hq
  go_wp2_with fail
  refine (St15.in_none_112 _).mono ?_
  rintro _ wq ⟨rfl, hq⟩
  obtain rfl := hq.symm
  clear hq
  clear c0 c1 c2 c3 c4 c5 c6 c7 z0 z1 z2 z3 z4 z5 z6 z7
  go_wp2_with fail
  refine (HE.out _ HQH.out.rd).mono ?_
  rintro _ we ⟨rfl, hle, hoe⟩
  have HX := Lib.hid (HQH.out.only hoe hle)
  clear hle hoe
  by_cases h0 : ee = 0
  · have H0 := Lib.hid h0
    subst h0
    go_upto_region 13 with fail
    refine wp_region_lit ?_
    refine wpList_load_row rfl 26 _ rfl T rfl 26 (⟨7, 0, 0, 0, 0, 0, 0, ⟨#[]⟩⟩ : St).cells (0, 0) _ (by rw [HT.out]; exact HX.out.t) Tryz.underlying26 rfl (hi8 (⟨7, 0, 0, 0, 0, 0, 0, ⟨#[]⟩⟩ : St)) ?_
    go_wp2_with fail
    refine (HRt.out _).mono ?_
    rintro _ wl ⟨rfl, hbl⟩
    have HPf := Lib.hid (HX.out.below hbl)
    clear hbl
    by_cases hr : rightP (⟨7, 0, 0, 0, 0, 0, 0, ⟨#[]⟩⟩ : St)
    · rw [decide_eq_true hr]
      have HRR := Lib.hid hr
      clear hr
      go_upto_region 15 with fail
      refine wp_region_lit ?_
      refine wpList_load_row rfl 26 _ rfl T rfl 26 (⟨7, 0, 0, 0, 0, 0, 0, ⟨#[]⟩⟩ : St).cells (0, 0) _ (by rw [HT.out]; exact HPf.out.t) Tryz.underlying26 rfl (hi8 (⟨7, 0, 0, 0, 0, 0, 0, ⟨#[]⟩⟩ : St)) ?_
      refine wpList_store_rowTo rfl 26 _ _ rfl rfl w.heap.size (⟨7, 0, 0, 0, 0, 0, 0, ⟨#[]⟩⟩ : St).cells rfl rfl 26 _ HPf.out.r0 (hi8 (⟨7, 0, 0, 0, 0, 0, 0, ⟨#[]⟩⟩ : St)) rfl (cells8_one _) ?_
      have HR' := setRow_heap wl w.heap.size _ (⟨7, 0, 0, 0, 0, 0, 0, ⟨#[]⟩⟩ : St).cells 26 (0, 0) HPf.out.r0
      have hB9 : Below w.heap.size w (wl.setRow w.heap.size (⟨7, 0, 0, 0, 0, 0, 0, ⟨#[]⟩⟩ : St).cells) := ⟨HPf.out.b.os, HPf.out.b.tape, HPf.out.b.output, by simpa using HPf.out.b.size, fun i hi => (setRow_other _ _ _ _ (by omega)).trans (HPf.out.b.block i hi)⟩
      obtain ⟨W9, hW9⟩ : ∃ W9, W9 = wl.setRow w.heap.size (⟨7, 0, 0, 0, 0, 0, 0, ⟨#[]⟩⟩ : St).cells := ⟨_, rfl⟩
      rw [← hW9] at HR' hB9 ⊢
      clear hW9
      go_wp2_with fail
      exact bodyPost_ret (res8pg _ _ w.heap.size (⟨7, 0, 0, 0, 0, 0, 0, ⟨#[]⟩⟩ : St) 0 rfl rfl HR') rfl ⟨by rw [HG.out]; unfold finG; rw [if_neg (by decide), if_pos HRR.out], hB9⟩
    · rw [decide_eq_false hr]
      have HRR := Lib.hid hr
      clear hr
      go_upto_region 14 with fail
      refine wp_region_lit ?_
      refine wpList_step (fun K hK => ?_)
      go_simp
      refine hK _ _ ?_
      clear hK K
      refine wpList_store_rowTo rfl 26 _ _ rfl rfl w.heap.size St0.cells rfl rfl 26 _ HPf.out.r0 (hi8 St0) rfl (cells8_one _) ?_
      have HR' := setRow_heap wl w.heap.size _ St0.cells 26 (0, 0) HPf.out.r0
      have hB9 : Below w.heap.size w (wl.setRow w.heap.size St0.cells) := ⟨HPf.out.b.os, HPf.out.b.tape, HPf.out.b.output, by simpa using HPf.out.b.size, fun i hi => (setRow_other _ _ _ _ (by omega)).trans (HPf.out.b.block i hi)⟩
      obtain ⟨W9, hW9⟩ : ∃ W9, W9 = wl.setRow w.heap.size St0.cells := ⟨_, rfl⟩
      rw [← hW9] at HR' hB9 ⊢
      clear hW9
      go_wp2_with fail
      exact bodyPost_ret (res8pg _ _ w.heap.size St0 3 rfl rfl HR') rfl ⟨by rw [HG.out]; unfold finG; rw [if_neg (by decide), if_neg HRR.out], hB9⟩
  · have H0 := Lib.hid h0
    have he2 : (ee == 0) = false := by simpa using h0
    go_upto_region 12 with fail
    refine wp_region_lit ?_
    refine wpList_step (fun K hK => ?_)
    go_simp
    refine hK _ _ ?_
    clear hK K
    refine wpList_step (fun K hK => ?_)
    go_simp
    refine hK _ _ ?_
    clear hK K
    refine wpList_step (fun K hK => ?_)
    go_simp
    refine (HE.out _ HX.out.rd).mono ?_
    rintro _ wl ⟨rfl, hll, hol⟩
    have HPf := Lib.hid (HX.out.only hol hll)
    clear hll hol
    refine hK _ _ ?_
    clear hK K
    refine wpList_store_rowTo rfl 26 _ _ rfl rfl w.heap.size St0.cells rfl rfl 26 _ HPf.out.r0 (hi8 St0) rfl (cells8_one _) ?_
    have HR' := setRow_heap wl w.heap.size _ St0.cells 26 (0, 0) HPf.out.r0
    have hB9 : Below w.heap.size w (wl.setRow w.heap.size St0.cells) := ⟨HPf.out.b.os, HPf.out.b.tape, HPf.out.b.output, by simpa using HPf.out.b.size, fun i hi => (setRow_other _ _ _ _ (by omega)).trans (HPf.out.b.block i hi)⟩
    obtain ⟨W9, hW9⟩ : ∃ W9, W9 = wl.setRow w.heap.size St0.cells := ⟨_, rfl⟩
    rw [← hW9] at HR' hB9 ⊢
    clear hW9
    go_wp2_with fail
    exact bodyPost_ret (res8pg _ _ w.heap.size St0 ee rfl rfl HR') rfl ⟨by rw [HG.out]; unfold finG; rw [if_pos H0.out], hB9⟩

set_option maxHeartbeats 2000000 in
set_option maxRecDepth 100000 in
theorem rget_8 (s : ByteArray) (hs : s.size ≤ 1099511627776) (hk : ((Rd.R2.mk s 0).num 8).1 = 8) (w : World) : Calls Tryz.prog 65 #[.string s] w fun e w' => e = .returned (.tuple #[.agg (getG s).1.cells, .int .i64 (getG s).2]) ∧ Below w.heap.size w w' := by
  have HN0 := Lib.hid (fun (W : World) (h : Rd.PLies W (w.heap.size + 1) s ⟨s, 0⟩) => Rd.pnum_any (w.heap.size + 1) s ⟨s, 0⟩ 8 hs W h)
  have hok : ((Rd.R2.mk s 0).num 8).2.okay := Rd.R2.num_okay _ 8 (by intro h; exact absurd rfl h)
  have hG : getG s = finG (let k := (Rd.R2.mk s 0).num 8; let a := g1 k.2 8; let b := g2 a.2 8; let p := g3 b.2 8; ⟨8, (a.1 : Int), (b.1 : Int), p.1.c, p.1.f, p.1.s, p.1.t, p.1.d⟩) (let k := (Rd.R2.mk s 0).num 8; let a := g1 k.2 8; let b := g2 a.2 8; let p := g3 b.2 8; p.2.end') := by
    unfold getG; dsimp only; rw [hk]; rfl
  dsimp only at hG
  rw [hk] at HN0
  generalize ((Rd.R2.mk s 0).num 8).2 = r0 at HN0 hok hG
  clear hk
  have hG : getG s = finG ⟨8, 0, 0, 0, 0, 0, 0, ⟨#[]⟩⟩ r0.end' := hG
  have HE := Lib.hid (fun (W : World) (h : Rd.PLies W (w.heap.size + 1) s r0) => Rd.pend_any (w.heap.size + 1) s r0 hs W h)
  generalize hee : r0.end' = ee at HE hG
  clear hee hok hs
  have HG := Lib.hid hG
  have HRt := Lib.hid (fun W => rright_any (⟨8, 0, 0, 0, 0, 0, 0, ⟨#[]⟩⟩ : St) W)
  unfold St.cells at HRt
  dsimp only at HRt
  clear hG
  obtain ⟨T, hT⟩ : ∃ T, T = w.heap.size + 2 := ⟨_, rfl⟩
  have HT := Lib.hid hT
  have HS := Lib.hid (PQ.start w s)
  have e2 : w.heap.size + 1 + 1 = T := by omega
  clear hT
  go_enter Tryz.func65, Tryz.ntmps65
  go_upto_region 3 with fail
  try rw [e2]
  try rw [← HT.out]
  obtain ⟨W0, hW0⟩ : ∃ W0, W0 = ((w.alloc (.cells St0.cells 26)).alloc (.cells #[.string s, .int .i64 0, .int .i64 0] 87)).alloc (.cells St0.cells 26) := ⟨_, rfl⟩
  rw [← hW0] at HS
  unfold St0 St.cells at hW0
  dsimp only at hW0
  rw [← hW0]
  clear hW0 e2
  go_wp2_with fail
  refine (HN0.out W0 HS.out.rd).mono ?_
  rintro _ wn0 ⟨rfl, hl0, ho0⟩
  have HA0 := Lib.hid (HS.out.only ho0 hl0)
  clear hl0 ho0
  obtain ⟨⟨c0, c1, c2, c3, c4, c5, c6, c7⟩, z0, z1, z2, z3, z4, z5, z6, z7⟩ := HA0.out.cells HT.out
  dsimp only [St0] at c0 c1 c2 c3 c4 c5 c6 c7
  go_upto_region 4 with fail
  have HQ0 := Lib.hid (HA0.out.set (x' := (⟨8, 0, 0, 0, 0, 0, 0, ⟨#[]⟩⟩ : St)) 0 (.int .i64 8) rfl)
  rw [← HT.out] at HQ0
  generalize wn0.setCell ⟨T, 0, none⟩ (.int .i64 8) = WQ0 at HQ0 ⊢
  clear c0 c1 c2 c3 c4 c5 c6 c7 z0 z1 z2 z3 z4 z5 z6 z7
  obtain ⟨⟨c0, c1, c2, c3, c4, c5, c6, c7⟩, z0, z1, z2, z3, z4, z5, z6, z7⟩ := HQ0.out.cells HT.out
  dsimp only [St0] at c0 c1 c2 c3 c4 c5 c6 c7
  go_wp2_with fail
  refine (St15.has_8 _).mono ?_
  rintro _ wh ⟨rfl, hbh⟩
  have HQH := Lib.hid (HQ0.out.below hbh)
  clear hbh
  clear c0 c1 c2 c3 c4 c5 c6 c7 z0 z1 z2 z3 z4 z5 z6 z7
  obtain ⟨⟨c0, c1, c2, c3, c4, c5, c6, c7⟩, z0, z1, z2, z3, z4, z5, z6, z7⟩ := HQH.out.cells HT.out
  dsimp only [St0] at c0 c1 c2 c3 c4 c5 c6 c7
  go_wp2_with fail
  refine (St15.in_none_115 _).mono ?_
  rintro _ wq ⟨rfl, hq⟩
  obtain rfl := hq.symm
  clear hq
  go_wp2_with fail
  refine (in_none_110 _).mono ?_
  rintro _ wq ⟨rfl, hq⟩
  obtain rfl := hq.symm
  clear hq
  go_wp2_with fail
  refine (St15.in_none_112 _).mono ?_
  rintro _ wq ⟨rfl, hq⟩
  obtain rfl := hq.symm
  clear hq
  clear c0 c1 c2 c3 c4 c5 c6 c7 z0 z1 z2 z3 z4 z5 z6 z7
  go_wp2_with fail
  refine (HE.out _ HQH.out.rd).mono ?_
  rintro _ we ⟨rfl, hle, hoe⟩
  have HX := Lib.hid (HQH.out.only hoe hle)
  clear hle hoe
  by_cases h0 : ee = 0
  · have H0 := Lib.hid h0
    subst h0
    go_upto_region 13 with fail
    refine wp_region_lit ?_
    refine wpList_load_row rfl 26 _ rfl T rfl 26 (⟨8, 0, 0, 0, 0, 0, 0, ⟨#[]⟩⟩ : St).cells (0, 0) _ (by rw [HT.out]; exact HX.out.t) Tryz.underlying26 rfl (hi8 (⟨8, 0, 0, 0, 0, 0, 0, ⟨#[]⟩⟩ : St)) ?_
    go_wp2_with fail
    refine (HRt.out _).mono ?_
    rintro _ wl ⟨rfl, hbl⟩
    have HPf := Lib.hid (HX.out.below hbl)
    clear hbl
    by_cases hr : rightP (⟨8, 0, 0, 0, 0, 0, 0, ⟨#[]⟩⟩ : St)
    · rw [decide_eq_true hr]
      have HRR := Lib.hid hr
      clear hr
      go_upto_region 15 with fail
      refine wp_region_lit ?_
      refine wpList_load_row rfl 26 _ rfl T rfl 26 (⟨8, 0, 0, 0, 0, 0, 0, ⟨#[]⟩⟩ : St).cells (0, 0) _ (by rw [HT.out]; exact HPf.out.t) Tryz.underlying26 rfl (hi8 (⟨8, 0, 0, 0, 0, 0, 0, ⟨#[]⟩⟩ : St)) ?_
      refine wpList_store_rowTo rfl 26 _ _ rfl rfl w.heap.size (⟨8, 0, 0, 0, 0, 0, 0, ⟨#[]⟩⟩ : St).cells rfl rfl 26 _ HPf.out.r0 (hi8 (⟨8, 0, 0, 0, 0, 0, 0, ⟨#[]⟩⟩ : St)) rfl (cells8_one _) ?_
      have HR' := setRow_heap wl w.heap.size _ (⟨8, 0, 0, 0, 0, 0, 0, ⟨#[]⟩⟩ : St).cells 26 (0, 0) HPf.out.r0
      have hB9 : Below w.heap.size w (wl.setRow w.heap.size (⟨8, 0, 0, 0, 0, 0, 0, ⟨#[]⟩⟩ : St).cells) := ⟨HPf.out.b.os, HPf.out.b.tape, HPf.out.b.output, by simpa using HPf.out.b.size, fun i hi => (setRow_other _ _ _ _ (by omega)).trans (HPf.out.b.block i hi)⟩
      obtain ⟨W9, hW9⟩ : ∃ W9, W9 = wl.setRow w.heap.size (⟨8, 0, 0, 0, 0, 0, 0, ⟨#[]⟩⟩ : St).cells := ⟨_, rfl⟩
      rw [← hW9] at HR' hB9 ⊢
      clear hW9
      go_wp2_with fail
      exact bodyPost_ret (res8pg _ _ w.heap.size (⟨8, 0, 0, 0, 0, 0, 0, ⟨#[]⟩⟩ : St) 0 rfl rfl HR') rfl ⟨by rw [HG.out]; unfold finG; rw [if_neg (by decide), if_pos HRR.out], hB9⟩
    · rw [decide_eq_false hr]
      have HRR := Lib.hid hr
      clear hr
      go_upto_region 14 with fail
      refine wp_region_lit ?_
      refine wpList_step (fun K hK => ?_)
      go_simp
      refine hK _ _ ?_
      clear hK K
      refine wpList_store_rowTo rfl 26 _ _ rfl rfl w.heap.size St0.cells rfl rfl 26 _ HPf.out.r0 (hi8 St0) rfl (cells8_one _) ?_
      have HR' := setRow_heap wl w.heap.size _ St0.cells 26 (0, 0) HPf.out.r0
      have hB9 : Below w.heap.size w (wl.setRow w.heap.size St0.cells) := ⟨HPf.out.b.os, HPf.out.b.tape, HPf.out.b.output, by simpa using HPf.out.b.size, fun i hi => (setRow_other _ _ _ _ (by omega)).trans (HPf.out.b.block i hi)⟩
      obtain ⟨W9, hW9⟩ : ∃ W9, W9 = wl.setRow w.heap.size St0.cells := ⟨_, rfl⟩
      rw [← hW9] at HR' hB9 ⊢
      clear hW9
      go_wp2_with fail
      exact bodyPost_ret (res8pg _ _ w.heap.size St0 3 rfl rfl HR') rfl ⟨by rw [HG.out]; unfold finG; rw [if_neg (by decide), if_neg HRR.out], hB9⟩
  · have H0 := Lib.hid h0
    have he2 : (ee == 0) = false := by simpa using h0
    go_upto_region 12 with fail
    refine wp_region_lit ?_
    refine wpList_step (fun K hK => ?_)
    go_simp
    refine hK _ _ ?_
    clear hK K
    refine wpList_step (fun K hK => ?_)
    go_simp
    refine hK _ _ ?_
    clear hK K
    refine wpList_step (fun K hK => ?_)
    go_simp
    refine (HE.out _ HX.out.rd).mono ?_
    rintro _ wl ⟨rfl, hll, hol⟩
    have HPf := Lib.hid (HX.out.only hol hll)
    clear hll hol
    refine hK _ _ ?_
    clear hK K
    refine wpList_store_rowTo rfl 26 _ _ rfl rfl w.heap.size St0.cells rfl rfl 26 _ HPf.out.r0 (hi8 St0) rfl (cells8_one _) ?_
    have HR' := setRow_heap wl w.heap.size _ St0.cells 26 (0, 0) HPf.out.r0
    have hB9 : Below w.heap.size w (wl.setRow w.heap.size St0.cells) := ⟨HPf.out.b.os, HPf.out.b.tape, HPf.out.b.output, by simpa using HPf.out.b.size, fun i hi => (setRow_other _ _ _ _ (by omega)).trans (HPf.out.b.block i hi)⟩
    obtain ⟨W9, hW9⟩ : ∃ W9, W9 = wl.setRow w.heap.size St0.cells := ⟨_, rfl⟩
    rw [← hW9] at HR' hB9 ⊢
    clear hW9
    go_wp2_with fail
    exact bodyPost_ret (res8pg _ _ w.heap.size St0 ee rfl rfl HR') rfl ⟨by rw [HG.out]; unfold finG; rw [if_pos H0.out], hB9⟩

theorem rget_any (s : ByteArray) (hs : s.size ≤ 1099511627776) (w : World) : Calls Tryz.prog 65 #[.string s] w fun e w' => e = .returned (.tuple #[.agg (getG s).1.cells, .int .i64 (getG s).2]) ∧ Below w.heap.size w w' := by
  have h8 := Rd.R2.num_val ⟨s, 0⟩ 8
  rcases hk : ((Rd.R2.mk s 0).num 8).1 with _ | _ | _ | _ | _ | _ | _ | _ | _ | k
  · exact rget_0 s hs hk w
  · exact rget_1 s hs hk w
  · exact rget_2 s hs hk w
  · exact rget_3 s hs hk w
  · exact rget_4 s hs hk w
  · exact rget_5 s hs hk w
  · exact rget_6 s hs hk w
  · exact rget_7 s hs hk w
  · exact rget_8 s hs hk w
  · rw [hk] at h8; omega

end Go.Proofs.YtnjcenbmdcogpaaGreatDoor.Sp
/- The page's Unpack of steps. -/
namespace Go.Proofs.YtnjcenbmdcogpaaGreatDoor.Rd
open Go Go.RowKit Num Texts Packet
open Sp (St St0 getG rget_any sts sts_snoc own_form8 infoSt cells8_new)
open Msg (own_base own_apart own_blk_type)

theorem own_only'' {R base e n size : Nat} {w w' : World} {v : Value} {xs : List Value} {cs : Array Value} {T : TypeId} (h : w.ownsRow base e size v n xs) (hO : Only R w w') (hT : w.heap[R]? = some (.cells cs T (0, 0))) (hne : T ≠ e) : w'.ownsRow base e size v n xs :=
  own_apart h (row := some R) (.inr (fun hv => by
    obtain ⟨_, _, ho⟩ := own_blk_type h hv hT
    injection ho with _ h2 _
    exact hne h2)) hO.grown

set_option maxRecDepth 20000 in
set_option maxHeartbeats 4000000 in
theorem psunpack_any (s : ByteArray) (hs : s.size ≤ 1099511627776) (W : World) :
    Calls Tryz.prog 23 #[.string s] W fun e w' => (∃ v, e = .returned (.tuple #[v, .int .i64 ((unpackS s).2.1 : Int), .int .i64 (unpackS s).2.2]) ∧ w'.ownsRow W.heap.size 26 8 v (unpackS s).1.length (sts (unpackS s).1)) ∧ Below W.heap.size W w' := by
  obtain ⟨i1, hi1, hy0, hy1, hy2⟩ := info_parts infoSt
  have HI := Lib.hid (And.intro hi1 (And.intro hy0 (And.intro hy1 hy2)))
  have HT := Lib.hid (fun (R : Nat) (V : World) (h : PLies V R s ⟨s, 0⟩) => plist_any R s s 1024 (by decide) hs V h)
  have hsz := R2.list_size ⟨s, 0⟩ 1024
  have hu : unpackS s = if ((R2.mk s 0).list 1024).2.end' ≠ 0 then ([], 0, ((R2.mk s 0).list 1024).2.end') else eachS 0 ((R2.mk s 0).list 1024).1 := rfl
  generalize unpackS s = U at *
  generalize (R2.mk s 0).list 1024 = x at *
  obtain ⟨ss, r⟩ := x
  dsimp only at hu HT hsz
  have HU := Lib.hid hu
  have HSz := Lib.hid hsz
  clear hu hsz hi1 hy0 hy1 hy2
  obtain ⟨w1, hw1⟩ : ∃ X, X = W.alloc (.cells #[.string s, .int .i64 0, .int .i64 0] 87) := ⟨_, rfl⟩
  have hR : PLies w1 W.heap.size s ⟨s, 0⟩ := ⟨0, Nat.zero_le _, by show s = s.extract 0 s.size; rw [ByteArray.extract_zero_size], by rw [hw1]; exact heap_alloc_new W _⟩
  have HB := Lib.hid (show Below W.heap.size W w1 by rw [hw1]; exact (Below.refl _ _).alloc (Nat.le_refl _) _)
  go_enter Tryz.func23, Tryz.ntmps23
  go_upto_region 2 with fail
  rw [← hw1]
  clear hw1
  obtain ⟨R, hRe⟩ : ∃ R, R = W.heap.size := ⟨_, rfl⟩
  rw [← hRe] at hR ⊢
  have HRe := Lib.hid hRe
  clear hRe
  go_wp2_with fail
  refine (HT.out _ _ hR).mono ?_
  rintro _ w2 ⟨⟨v, rfl, hv⟩, hR2, hO⟩
  obtain ⟨A, c, rfl⟩ := own_form hv
  have HB2 := Lib.hid (Only.below HB.out hO (by rw [HRe.out]; exact Nat.le_refl _) HB.out.size)
  have HV := Lib.hid (own_rds hv)
  have HE := Lib.hid (fun V (h : PLies V R s r) => pend_any R s r hs V h)
  have HR2 := Lib.hid hR2
  obtain ⟨e, hee⟩ : ∃ e, e = r.end' := ⟨_, rfl⟩
  rw [← hee] at HE
  have HEe : Hid (r.end' = e) := Lib.hid hee.symm
  have hvT := fun V (hO : Only R w2 V) => own_only'' hv hO (Classical.choose_spec hR2).2.2 (by decide)
  have HVT := Lib.hid hvT
  clear hee hvT hv hR hR2 hO HB HT
  go_wp2_with fail
  refine (HE.out _ HR2.out).mono ?_
  rintro _ w3 ⟨rfl, hR3, hO3⟩
  have HR3 := Lib.hid hR3
  have HV3 := Lib.hid (own_rds (HVT.out _ hO3))
  have HB3 := Lib.hid (Only.below HB2.out hO3 (by rw [HRe.out]; exact Nat.le_refl _) HB2.out.size)
  clear hR3 hO3 HVT HV HB2 HR2
  by_cases he : e = 0
  · subst he
    have HX : Hid (U = eachS 0 ss) := Lib.hid (by rw [HU.out, HEe.out, if_neg (by simp)])
    clear HU HEe HE HR3
    obtain ⟨n, hne⟩ : ∃ n, n = ss.length := ⟨_, rfl⟩
    rw [← hne] at HV3 ⊢
    have HNe := Lib.hid hne
    have hn : n ≤ 1000000 := by have := HSz.out.1; omega
    have hni : (n : Int) ≤ 1000000 := by omega
    clear hne
    go_wp2_with fail
    go_loopw [7, 8] (fun l i wr => ∃ (k : Nat) (xs : List St), i = .int .i64 (k : Int) ∧ k ≤ n ∧ xs.length = k ∧ Hid (eachS 0 ss = glueS xs (eachS k (ss.drop k))) ∧ wr.ownsRow w3.heap.size 26 8 l k (sts xs) ∧ Below w3.heap.size w3 wr) (fun _ i _ => n - (intOf i).toNat)
    case atStart => exact ⟨0, [], rfl, Nat.zero_le _, rfl, Lib.hid (glueS_nil 0 ss).symm, World.ownsRow_nil _ _ _ _, Below.refl _ _⟩
    case round =>
      obtain ⟨k, xs, rfl, hk, hpk, hG, hT, hB⟩ := hrel
      obtain ⟨Al, cl, rfl⟩ := own_form8 hT
      have HPK := Lib.hid hpk
      have HT := Lib.hid hT
      have HB := Lib.hid hB
      clear hT hB hpk
      by_cases hlt : k < n
      · obtain ⟨b, off, hA, hbl, hc⟩ := HV3.out.2 (by omega)
        subst hA
        have hck := (HB.out.cell (p := ⟨b, off + k, none⟩) hbl).trans (hc k hlt)
        have hkl : k < ss.length := by have := HNe.out; omega
        have hdrop : ss.drop k = ss.getD k .empty :: ss.drop (k + 1) := by
          rw [List.drop_eq_getElem_cons hkl, List.getD_eq_getElem?_getD, List.getElem?_eq_getElem hkl]; rfl
        have hok := fun q h => glueS_ok xs k (ss.getD k .empty) (ss.drop (k + 1)) q h
        have hbd := fun q e he h => glueS_bad xs k (ss.getD k .empty) (ss.drop (k + 1)) q e he h
        rw [← hdrop] at hok hbd
        have hget := rget_any (ss.getD k .empty) (by
          rw [List.getD_eq_getElem?_getD, List.getElem?_eq_getElem hkl]
          have := HSz.out.2 _ (List.getElem_mem hkl)
          show ss[k].size ≤ _
          omega)
        generalize ss.getD k .empty = s0 at hck hok hbd hget
        generalize getG s0 = y at hok hbd hget
        obtain ⟨q, e⟩ := y
        dsimp only at hget
        unfold St.cells at hget
        have HOk := Lib.hid hok
        have HBd := Lib.hid hbd
        have HGet := Lib.hid hget
        have hi0 : (0 : Int) ≤ (k : Int) := by omega
        have hi2 : (k : Int) < (n : Int) := by omega
        have hi3 : (k : Int) ≤ 1000000 := by omega
        clear hok hbd hget hdrop hc
        go_wp2_with fail
        refine (HGet.out _).mono ?_
        rintro _ w4 ⟨rfl, b4⟩
        have HT4 := Lib.hid (own_below HT.out b4)
        have HB4 := Lib.hid (HB.out.trans (b4.mono HB.out.size))
        clear b4 hck HT HB HGet
        by_cases he : e = 0
        · subst he
          go_upto_region 10 with fail
          obtain ⟨W5, hW5⟩ : ∃ X, X = w4.alloc (.cells #[.int .i64 q.k, .int .i64 q.sd, .int .i64 q.n, .int .i64 q.c, .int .i64 q.f, .int .u64 q.s, .int .u64 q.t, .string q.d] 26) := ⟨_, rfl⟩
          rw [← hW5]
          have hb5 : Below w4.heap.size w4 W5 := by rw [hW5]; exact (Below.refl _ _).alloc (Nat.le_refl _) _
          have hQ := heap_alloc_new w4 (.cells #[.int .i64 q.k, .int .i64 q.sd, .int .i64 q.n, .int .i64 q.c, .int .i64 q.f, .int .u64 q.s, .int .u64 q.t, .string q.d] 26)
          rw [← hW5] at hQ
          have HT3 := Lib.hid (own_below HT4.out hb5)
          have HBa := Lib.hid (HB4.out.trans (hb5.mono HB4.out.size))
          obtain ⟨Q, hQe⟩ : ∃ Q, Q = w4.heap.size := ⟨_, rfl⟩
          rw [← hQe] at hQ ⊢
          obtain ⟨x0, x1, x2, x3, x4, x5, x6, x7⟩ : _ ∧ _ ∧ _ ∧ _ ∧ _ ∧ _ ∧ _ ∧ _ := ⟨cell_of_row W5 _ 0 _ _ (0, 0) hQ, cell_of_row W5 _ 1 _ _ (0, 0) hQ, cell_of_row W5 _ 2 _ _ (0, 0) hQ, cell_of_row W5 _ 3 _ _ (0, 0) hQ, cell_of_row W5 _ 4 _ _ (0, 0) hQ, cell_of_row W5 _ 5 _ _ (0, 0) hQ, cell_of_row W5 _ 6 _ _ (0, 0) hQ, cell_of_row W5 _ 7 _ _ (0, 0) hQ⟩
          clear hW5 hb5 hQ hQe HT4 HB4
          have hrow3 := HT3.out
          have hz3 : w3.heap.size ≤ W5.heap.size := HBa.out.size
          have hkn : k ≤ 1000000 := by omega
          go_wp2_with (at_builtin; refine wpList_append_own_at _ rfl _ _ 28 rfl w3.heap.size 26 i1 _ 8 72 Tryz.underlying28 HI.out.1 HI.out.2.1 HI.out.2.2.1 HI.out.2.2.2 rfl (by decide) _ _ _ rfl (hrow3.alloc _) ⟨W5.heap.size, 0, none⟩ 1 1 (St.cells q).toList rfl rfl (cells8_new W5 q _) (Sp.cells8_all _) (by unfold maxLen; omega) (by omega) (by simp; omega) ?_; intro v6 w6 hown6 hg6 _ _)
          have hB6 := below_push HBa.out hz3 hrow3 hg6
          refine ⟨⟨k + 1, xs ++ [q], by go_num, by omega, by simp [HPK.out], Lib.hid (hG.out.trans (HOk.out q rfl)), by rw [sts_snoc]; exact hown6, hB6⟩, by simp [intOf]; omega⟩
        · have he2 : (e == 0) = false := by simpa using he
          have HX2 : Hid (U = ([], k + 1, e)) := Lib.hid (by rw [HX.out, hG.out]; exact HBd.out q e he rfl)
          clear HX HOk HBd hG hk HV3 HSz
          have hB9 : ∀ o, Below W.heap.size W (w4.alloc o) := fun o => (HB3.out.trans (HB4.out.mono HB3.out.size)).alloc (Nat.le_trans HB3.out.size HB4.out.size) o
          go_wp2
          refine bodyPost_ret (results_tmp3 rfl _ _ _) rfl ?_
          refine ⟨⟨.slice none 0 0, ?_, by rw [HX2.out]; exact World.ownsRow_nil _ _ _ _⟩, hB9 _⟩
          rw [HX2.out]; rfl
      · obtain rfl : k = n := by omega
        have HX2 : Hid (U = (xs, 0, 0)) := Lib.hid (by rw [HX.out, hG.out, List.drop_of_length_le (by have := HNe.out; omega)]; exact glueS_end xs k)
        clear HX hG
        go_wp2
        refine bodyPost_ret (results_tmp3 rfl _ _ _) rfl ?_
        refine ⟨⟨.slice Al k cl, ?_, by rw [HX2.out, HPK.out]; exact own_base HT.out HB3.out.size⟩, HB3.out.trans (HB.out.mono HB3.out.size)⟩
        rw [HX2.out]; rfl
  · have he2 : (e == 0) = false := by simpa using he
    have HX : Hid (U = ([], 0, e)) := Lib.hid (by rw [HU.out, HEe.out, if_pos he])
    clear HU HEe HV3 HSz
    go_wp2_with fail
    refine (HE.out _ HR3.out).mono ?_
    rintro _ w4 ⟨rfl, hR4, hO4⟩
    have HB4 := Lib.hid (Only.below HB3.out hO4 (by rw [HRe.out]; exact Nat.le_refl _) HB3.out.size)
    clear hR4 hO4
    go_wp2
    refine bodyPost_ret (results_tmp3 rfl _ _ _) rfl ?_
    exact ⟨⟨.slice none 0 0, by rw [HX.out]; rfl, by rw [HX.out]; exact World.ownsRow_nil _ _ _ _⟩, HB4.out⟩
end Go.Proofs.YtnjcenbmdcogpaaGreatDoor.Rd
