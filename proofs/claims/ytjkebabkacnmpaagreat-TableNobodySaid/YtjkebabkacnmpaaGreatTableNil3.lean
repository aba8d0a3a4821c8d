/- A table that is none: Do. -/
import Derived.Test.YtjkebabkacnmpaaGreatTableNil2
namespace Go.Proofs.YtjkebabkacnmpaaGreat.Mk
open Go Go.RowKit Go.MuLone

/-- an operation's value -/
def opV (kd who : Int) (k : K3) (sd ac ep nn : Int) : Value := .agg #[.int .i64 kd, .int .i64 who, .int .i64 k.c, .int .i64 k.f, .int .u64 k.s, .int .i64 sd, .int .i64 ac, .int .u64 ep, .int .u64 nn]
def retV (e : Int) : Value := .agg #[.int .i64 e, .int .u64 0, .int .u64 0, .int .u64 0]
set_option maxRecDepth 20000 in
theorem byClaim (p : Option Addr) (W : World) : Calls Tryz.prog 18 #[.pointer p, .int .i64 2] W fun e w' => e = .returned (.func (.func 31) #[.pointer p] #[]) ∧ w' = W := by
  go_enter Tryz.func18, Tryz.ntmps18
  go_wp2
  go_ret
  exact ⟨rfl, rfl⟩
set_option maxRecDepth 20000 in
theorem byRelease (p : Option Addr) (W : World) : Calls Tryz.prog 18 #[.pointer p, .int .i64 3] W fun e w' => e = .returned (.func (.func 32) #[.pointer p] #[]) ∧ w' = W := by
  go_enter Tryz.func18, Tryz.ntmps18
  go_wp2
  go_ret
  exact ⟨rfl, rfl⟩
set_option maxRecDepth 20000 in
theorem byComplete (p : Option Addr) (W : World) : Calls Tryz.prog 18 #[.pointer p, .int .i64 4] W fun e w' => e = .returned (.func (.func 33) #[.pointer p] #[]) ∧ w' = W := by
  go_enter Tryz.func18, Tryz.ntmps18
  go_wp2
  go_ret
  exact ⟨rfl, rfl⟩
set_option maxRecDepth 20000 in
set_option maxHeartbeats 2000000 in
theorem tdo_insert (who : Int) (k : K3) (sd ac ep nn : Int) (W : World) : Calls Tryz.prog 6 #[.pointer none, opV 1 who k sd ac ep nn] W fun e w' => e = .returned (retV 1) ∧ Below W.heap.size W w' := by
  unfold retV
  obtain ⟨kc, kf, ks⟩ := k
  unfold opV
  have hK := heap_two W (.cells #[.int .i64 1, .int .i64 who, .int .i64 kc, .int .i64 kf, .int .u64 ks, .int .i64 sd, .int .i64 ac, .int .u64 ep, .int .u64 nn] 26) (.cells #[.int .i64 0, .int .u64 0, .int .u64 0, .int .u64 0] 35)
  have b1 := below_two W (.cells #[.int .i64 1, .int .i64 who, .int .i64 kc, .int .i64 kf, .int .u64 ks, .int .i64 sd, .int .i64 ac, .int .u64 ep, .int .u64 nn] 26) (.cells #[.int .i64 0, .int .u64 0, .int .u64 0, .int .u64 0] 35)
  obtain ⟨W0, hW0⟩ : ∃ X, X = (W.alloc (.cells #[.int .i64 1, .int .i64 who, .int .i64 kc, .int .i64 kf, .int .u64 ks, .int .i64 sd, .int .i64 ac, .int .u64 ep, .int .u64 nn] 26)).alloc (.cells #[.int .i64 0, .int .u64 0, .int .u64 0, .int .u64 0] 35) := ⟨_, rfl⟩
  dsimp only
  rw [← hW0] at hK b1
  have hlt : W.heap.size + 1 < W0.heap.size := (Array.getElem?_eq_some_iff.1 hK.2).1
  have p2 := cell_of_row W0 W.heap.size 2 _ _ (0, 0) hK.1
  have p3 := cell_of_row W0 W.heap.size 3 _ _ (0, 0) hK.1
  have p4 := cell_of_row W0 W.heap.size 4 _ _ (0, 0) hK.1
  have HX := Lib.hid (And.intro hlt (And.intro b1 hK))
  clear hlt b1 hK
  go_enter Tryz.func6, Tryz.ntmps6
  go_upto_region 1 with fail
  rw [← hW0]
  clear hW0
  go_wp2_with fail
  refine (of_nil ⟨kc, kf, ks⟩ _).mono ?_
  rintro _ w2 ⟨rfl, b2⟩
  have hK2 := And.intro ((b2.block _ (by have := HX.out.1; omega)).trans HX.out.2.2.1) ((b2.block _ HX.out.1).trans HX.out.2.2.2)
  have hb2 : Below W.heap.size W w2 := HX.out.2.1.trans (b2.mono HX.out.2.1.size)
  have hlt2 : W.heap.size + 1 < w2.heap.size := (Array.getElem?_eq_some_iff.1 hK2.2).1
  have H2 := Lib.hid (And.intro hlt2 (And.intro hb2 hK2))
  have p0 := cell_of_row w2 W.heap.size 0 _ _ (0, 0) hK2.1
  have p1 := cell_of_row w2 W.heap.size 1 _ _ (0, 0) hK2.1
  have p2' := cell_of_row w2 W.heap.size 2 _ _ (0, 0) hK2.1
  have p3' := cell_of_row w2 W.heap.size 3 _ _ (0, 0) hK2.1
  have p4' := cell_of_row w2 W.heap.size 4 _ _ (0, 0) hK2.1
  clear b2 hK2 hb2 hlt2 HX p2 p3 p4
  go_wp2_with fail
  refine (ins_nil ⟨kc, kf, ks⟩ _).mono ?_
  rintro _ w3 ⟨rfl, b3⟩
  have hK3 := (b3.block _ H2.out.1).trans H2.out.2.2.2
  have hb3 : Below W.heap.size W w3 := H2.out.2.1.trans (b3.mono H2.out.2.1.size)
  have c0 := cell_of_row w3 (W.heap.size + 1) 0 _ _ (0, 0) hK3
  have c1 := cell_of_row w3 (W.heap.size + 1) 1 _ _ (0, 0) hK3
  have c2 := cell_of_row w3 (W.heap.size + 1) 2 _ _ (0, 0) hK3
  have c3 := cell_of_row w3 (W.heap.size + 1) 3 _ _ (0, 0) hK3
  have f3 : ∀ i, w3.frozen? ⟨W.heap.size + 1, i, none⟩ = false := fun i => by simp [World.frozen?, hK3]
  have hs := row_set4 (.int .i64 1) (.int .u64 0) (.int .u64 0) (.int .u64 0) rfl hK3
  have hb4 := hs.2.2 _ _ hb3 (by omega)
  have HS := Lib.hid (And.intro hs hb4)
  clear hs hb4
  clear b3 hK3 hb3 H2
  go_wp2
  have HY := Lib.hid (And.intro HS.out.1.1 HS.out.2)
  generalize ((((w3.setCell ⟨W.heap.size + 1, 0, none⟩ (.int .i64 1)).setCell ⟨W.heap.size + 1, 1, none⟩ (.int .u64 0)).setCell ⟨W.heap.size + 1, 2, none⟩ (.int .u64 0)).setCell ⟨W.heap.size + 1, 3, none⟩ (.int .u64 0)) = V4 at HY ⊢
  have r0 := cell_of_row V4 (W.heap.size + 1) 0 _ _ (0, 0) HY.out.1
  have r1 := cell_of_row V4 (W.heap.size + 1) 1 _ _ (0, 0) HY.out.1
  have r2 := cell_of_row V4 (W.heap.size + 1) 2 _ _ (0, 0) HY.out.1
  have r3 := cell_of_row V4 (W.heap.size + 1) 3 _ _ (0, 0) HY.out.1
  simp [bodyPost, results, Tryz.results6, go_sem, r0, r1, r2, r3]
  exact HY.out.2
set_option maxRecDepth 20000 in
set_option maxHeartbeats 2000000 in
theorem tdo_expire (who : Int) (k : K3) (sd ac ep nn : Int) (W : World) : Calls Tryz.prog 6 #[.pointer none, opV 5 who k sd ac ep nn] W fun e w' => e = .returned (retV 1) ∧ Below W.heap.size W w' := by
  unfold retV
  obtain ⟨kc, kf, ks⟩ := k
  unfold opV
  have hK := heap_two W (.cells #[.int .i64 5, .int .i64 who, .int .i64 kc, .int .i64 kf, .int .u64 ks, .int .i64 sd, .int .i64 ac, .int .u64 ep, .int .u64 nn] 26) (.cells #[.int .i64 0, .int .u64 0, .int .u64 0, .int .u64 0] 35)
  have b1 := below_two W (.cells #[.int .i64 5, .int .i64 who, .int .i64 kc, .int .i64 kf, .int .u64 ks, .int .i64 sd, .int .i64 ac, .int .u64 ep, .int .u64 nn] 26) (.cells #[.int .i64 0, .int .u64 0, .int .u64 0, .int .u64 0] 35)
  obtain ⟨W0, hW0⟩ : ∃ X, X = (W.alloc (.cells #[.int .i64 5, .int .i64 who, .int .i64 kc, .int .i64 kf, .int .u64 ks, .int .i64 sd, .int .i64 ac, .int .u64 ep, .int .u64 nn] 26)).alloc (.cells #[.int .i64 0, .int .u64 0, .int .u64 0, .int .u64 0] 35) := ⟨_, rfl⟩
  dsimp only
  rw [← hW0] at hK b1
  have hlt : W.heap.size + 1 < W0.heap.size := (Array.getElem?_eq_some_iff.1 hK.2).1
  have p2 := cell_of_row W0 W.heap.size 2 _ _ (0, 0) hK.1
  have p3 := cell_of_row W0 W.heap.size 3 _ _ (0, 0) hK.1
  have p4 := cell_of_row W0 W.heap.size 4 _ _ (0, 0) hK.1
  have HX := Lib.hid (And.intro hlt (And.intro b1 hK))
  clear hlt b1 hK
  go_enter Tryz.func6, Tryz.ntmps6
  go_upto_region 1 with fail
  rw [← hW0]
  clear hW0
  go_wp2_with fail
  refine (of_nil ⟨kc, kf, ks⟩ _).mono ?_
  rintro _ w2 ⟨rfl, b2⟩
  have hK2 := And.intro ((b2.block _ (by have := HX.out.1; omega)).trans HX.out.2.2.1) ((b2.block _ HX.out.1).trans HX.out.2.2.2)
  have hb2 : Below W.heap.size W w2 := HX.out.2.1.trans (b2.mono HX.out.2.1.size)
  have hlt2 : W.heap.size + 1 < w2.heap.size := (Array.getElem?_eq_some_iff.1 hK2.2).1
  have H2 := Lib.hid (And.intro hlt2 (And.intro hb2 hK2))
  have p0 := cell_of_row w2 W.heap.size 0 _ _ (0, 0) hK2.1
  have p1 := cell_of_row w2 W.heap.size 1 _ _ (0, 0) hK2.1
  have p2' := cell_of_row w2 W.heap.size 2 _ _ (0, 0) hK2.1
  have p3' := cell_of_row w2 W.heap.size 3 _ _ (0, 0) hK2.1
  have p4' := cell_of_row w2 W.heap.size 4 _ _ (0, 0) hK2.1
  clear b2 hK2 hb2 hlt2 HX p2 p3 p4
  go_wp2_with fail
  refine (expire_nil ⟨kc, kf, ks⟩ _).mono ?_
  rintro _ w3 ⟨rfl, b3⟩
  have hK3 := (b3.block _ H2.out.1).trans H2.out.2.2.2
  have hb3 : Below W.heap.size W w3 := H2.out.2.1.trans (b3.mono H2.out.2.1.size)
  have c0 := cell_of_row w3 (W.heap.size + 1) 0 _ _ (0, 0) hK3
  have c1 := cell_of_row w3 (W.heap.size + 1) 1 _ _ (0, 0) hK3
  have c2 := cell_of_row w3 (W.heap.size + 1) 2 _ _ (0, 0) hK3
  have c3 := cell_of_row w3 (W.heap.size + 1) 3 _ _ (0, 0) hK3
  have f3 : ∀ i, w3.frozen? ⟨W.heap.size + 1, i, none⟩ = false := fun i => by simp [World.frozen?, hK3]
  have hs := row_set4 (.int .i64 1) (.int .u64 0) (.int .u64 0) (.int .u64 0) rfl hK3
  have hb4 := hs.2.2 _ _ hb3 (by omega)
  have HS := Lib.hid (And.intro hs hb4)
  clear hs hb4
  clear b3 hK3 hb3 H2
  go_wp2
  have HY := Lib.hid (And.intro HS.out.1.1 HS.out.2)
  generalize ((((w3.setCell ⟨W.heap.size + 1, 0, none⟩ (.int .i64 1)).setCell ⟨W.heap.size + 1, 1, none⟩ (.int .u64 0)).setCell ⟨W.heap.size + 1, 2, none⟩ (.int .u64 0)).setCell ⟨W.heap.size + 1, 3, none⟩ (.int .u64 0)) = V4 at HY ⊢
  have r0 := cell_of_row V4 (W.heap.size + 1) 0 _ _ (0, 0) HY.out.1
  have r1 := cell_of_row V4 (W.heap.size + 1) 1 _ _ (0, 0) HY.out.1
  have r2 := cell_of_row V4 (W.heap.size + 1) 2 _ _ (0, 0) HY.out.1
  have r3 := cell_of_row V4 (W.heap.size + 1) 3 _ _ (0, 0) HY.out.1
  simp [bodyPost, results, Tryz.results6, go_sem, r0, r1, r2, r3]
  exact HY.out.2
set_option maxRecDepth 20000 in
set_option maxHeartbeats 2000000 in
theorem tdo_other (kd who : Int) (k : K3) (sd ac ep nn : Int) (h1 : kd ≠ 1) (h2 : kd ≠ 2) (h3 : kd ≠ 3) (h4 : kd ≠ 4) (h5 : kd ≠ 5) (W : World) : Calls Tryz.prog 6 #[.pointer none, opV kd who k sd ac ep nn] W fun e w' => e = .returned (retV 1) ∧ Below W.heap.size W w' := by
  unfold retV
  obtain ⟨kc, kf, ks⟩ := k
  unfold opV
  have hK := heap_two W (.cells #[.int .i64 kd, .int .i64 who, .int .i64 kc, .int .i64 kf, .int .u64 ks, .int .i64 sd, .int .i64 ac, .int .u64 ep, .int .u64 nn] 26) (.cells #[.int .i64 0, .int .u64 0, .int .u64 0, .int .u64 0] 35)
  have b1 := below_two W (.cells #[.int .i64 kd, .int .i64 who, .int .i64 kc, .int .i64 kf, .int .u64 ks, .int .i64 sd, .int .i64 ac, .int .u64 ep, .int .u64 nn] 26) (.cells #[.int .i64 0, .int .u64 0, .int .u64 0, .int .u64 0] 35)
  obtain ⟨W0, hW0⟩ : ∃ X, X = (W.alloc (.cells #[.int .i64 kd, .int .i64 who, .int .i64 kc, .int .i64 kf, .int .u64 ks, .int .i64 sd, .int .i64 ac, .int .u64 ep, .int .u64 nn] 26)).alloc (.cells #[.int .i64 0, .int .u64 0, .int .u64 0, .int .u64 0] 35) := ⟨_, rfl⟩
  dsimp only
  rw [← hW0] at hK b1
  have hlt : W.heap.size + 1 < W0.heap.size := (Array.getElem?_eq_some_iff.1 hK.2).1
  have p2 := cell_of_row W0 W.heap.size 2 _ _ (0, 0) hK.1
  have p3 := cell_of_row W0 W.heap.size 3 _ _ (0, 0) hK.1
  have p4 := cell_of_row W0 W.heap.size 4 _ _ (0, 0) hK.1
  have HX := Lib.hid (And.intro hlt (And.intro b1 hK))
  clear hlt b1 hK
  go_enter Tryz.func6, Tryz.ntmps6
  go_upto_region 1 with fail
  rw [← hW0]
  clear hW0
  go_wp2_with fail
  refine (of_nil ⟨kc, kf, ks⟩ _).mono ?_
  rintro _ w2 ⟨rfl, b2⟩
  have hK2 := And.intro ((b2.block _ (by have := HX.out.1; omega)).trans HX.out.2.2.1) ((b2.block _ HX.out.1).trans HX.out.2.2.2)
  have hb2 : Below W.heap.size W w2 := HX.out.2.1.trans (b2.mono HX.out.2.1.size)
  have hlt2 : W.heap.size + 1 < w2.heap.size := (Array.getElem?_eq_some_iff.1 hK2.2).1
  have H2 := Lib.hid (And.intro hlt2 (And.intro hb2 hK2))
  have p0 := cell_of_row w2 W.heap.size 0 _ _ (0, 0) hK2.1
  have p1 := cell_of_row w2 W.heap.size 1 _ _ (0, 0) hK2.1
  have p2' := cell_of_row w2 W.heap.size 2 _ _ (0, 0) hK2.1
  have p3' := cell_of_row w2 W.heap.size 3 _ _ (0, 0) hK2.1
  have p4' := cell_of_row w2 W.heap.size 4 _ _ (0, 0) hK2.1
  clear b2 hK2 hb2 hlt2 HX p2 p3 p4
  have c0 := cell_of_row w2 (W.heap.size + 1) 0 _ _ (0, 0) H2.out.2.2.2
  have c1 := cell_of_row w2 (W.heap.size + 1) 1 _ _ (0, 0) H2.out.2.2.2
  have c2 := cell_of_row w2 (W.heap.size + 1) 2 _ _ (0, 0) H2.out.2.2.2
  have c3 := cell_of_row w2 (W.heap.size + 1) 3 _ _ (0, 0) H2.out.2.2.2
  have f3 : ∀ i, w2.frozen? ⟨W.heap.size + 1, i, none⟩ = false := fun i => by simp [World.frozen?, H2.out.2.2.2]
  have hs := row_set4 (.int .i64 1) (.int .u64 0) (.int .u64 0) (.int .u64 0) rfl H2.out.2.2.2
  have hb4 := hs.2.2 _ _ H2.out.2.1 (by omega)
  have HS := Lib.hid (And.intro hs hb4)
  clear hs hb4
  clear H2
  go_wp2
  have HY := Lib.hid (And.intro HS.out.1.1 HS.out.2)
  generalize ((((w2.setCell ⟨W.heap.size + 1, 0, none⟩ (.int .i64 1)).setCell ⟨W.heap.size + 1, 1, none⟩ (.int .u64 0)).setCell ⟨W.heap.size + 1, 2, none⟩ (.int .u64 0)).setCell ⟨W.heap.size + 1, 3, none⟩ (.int .u64 0)) = V4 at HY ⊢
  have r0 := cell_of_row V4 (W.heap.size + 1) 0 _ _ (0, 0) HY.out.1
  have r1 := cell_of_row V4 (W.heap.size + 1) 1 _ _ (0, 0) HY.out.1
  have r2 := cell_of_row V4 (W.heap.size + 1) 2 _ _ (0, 0) HY.out.1
  have r3 := cell_of_row V4 (W.heap.size + 1) 3 _ _ (0, 0) HY.out.1
  simp [bodyPost, results, Tryz.results6, go_sem, r0, r1, r2, r3]
  exact HY.out.2
set_option maxRecDepth 20000 in
set_option maxHeartbeats 2000000 in
theorem tdo_claim (who : Int) (k : K3) (sd ac ep nn : Int) (W : World) : Calls Tryz.prog 6 #[.pointer none, opV 2 who k sd ac ep nn] W fun e w' => e = .returned (retV 1) ∧ Below W.heap.size W w' := by
  unfold retV
  obtain ⟨kc, kf, ks⟩ := k
  unfold opV
  have hK := heap_two W (.cells #[.int .i64 2, .int .i64 who, .int .i64 kc, .int .i64 kf, .int .u64 ks, .int .i64 sd, .int .i64 ac, .int .u64 ep, .int .u64 nn] 26) (.cells #[.int .i64 0, .int .u64 0, .int .u64 0, .int .u64 0] 35)
  have b1 := below_two W (.cells #[.int .i64 2, .int .i64 who, .int .i64 kc, .int .i64 kf, .int .u64 ks, .int .i64 sd, .int .i64 ac, .int .u64 ep, .int .u64 nn] 26) (.cells #[.int .i64 0, .int .u64 0, .int .u64 0, .int .u64 0] 35)
  obtain ⟨W0, hW0⟩ : ∃ X, X = (W.alloc (.cells #[.int .i64 2, .int .i64 who, .int .i64 kc, .int .i64 kf, .int .u64 ks, .int .i64 sd, .int .i64 ac, .int .u64 ep, .int .u64 nn] 26)).alloc (.cells #[.int .i64 0, .int .u64 0, .int .u64 0, .int .u64 0] 35) := ⟨_, rfl⟩
  dsimp only
  rw [← hW0] at hK b1
  have hlt : W.heap.size + 1 < W0.heap.size := (Array.getElem?_eq_some_iff.1 hK.2).1
  have p2 := cell_of_row W0 W.heap.size 2 _ _ (0, 0) hK.1
  have p3 := cell_of_row W0 W.heap.size 3 _ _ (0, 0) hK.1
  have p4 := cell_of_row W0 W.heap.size 4 _ _ (0, 0) hK.1
  have HX := Lib.hid (And.intro hlt (And.intro b1 hK))
  clear hlt b1 hK
  go_enter Tryz.func6, Tryz.ntmps6
  go_upto_region 1 with fail
  rw [← hW0]
  clear hW0
  go_wp2_with fail
  refine (of_nil ⟨kc, kf, ks⟩ _).mono ?_
  rintro _ w2 ⟨rfl, b2⟩
  have hK2 := And.intro ((b2.block _ (by have := HX.out.1; omega)).trans HX.out.2.2.1) ((b2.block _ HX.out.1).trans HX.out.2.2.2)
  have hb2 : Below W.heap.size W w2 := HX.out.2.1.trans (b2.mono HX.out.2.1.size)
  have hlt2 : W.heap.size + 1 < w2.heap.size := (Array.getElem?_eq_some_iff.1 hK2.2).1
  have H2 := Lib.hid (And.intro hlt2 (And.intro hb2 hK2))
  have p0 := cell_of_row w2 W.heap.size 0 _ _ (0, 0) hK2.1
  have p1 := cell_of_row w2 W.heap.size 1 _ _ (0, 0) hK2.1
  have p2' := cell_of_row w2 W.heap.size 2 _ _ (0, 0) hK2.1
  have p3' := cell_of_row w2 W.heap.size 3 _ _ (0, 0) hK2.1
  have p4' := cell_of_row w2 W.heap.size 4 _ _ (0, 0) hK2.1
  clear b2 hK2 hb2 hlt2 HX p2 p3 p4
  go_upto_region 11 with fail
  refine wp_region_held_drew (S := (fun V => V.heap[W.heap.size]? = some (.cells #[.int .i64 2, .int .i64 who, .int .i64 kc, .int .i64 kf, .int .u64 ks, .int .i64 sd, .int .i64 ac, .int .u64 ep, .int .u64 nn] 26 (0, 0)) ∧ ∃ e, V.heap[W.heap.size + 1]? = some (.cells #[.int .i64 e, .int .u64 0, .int .u64 0, .int .u64 0] 35 (0, 0)))) (by kernel_rfl) ⟨H2.out.2.2.1, 0, H2.out.2.2.2⟩ (fun hHeld => ?_)
  refine wpAnyH_take (i := 0) (oi := _) (v := ?_) rfl (by kernel_rfl) (by kernel_rfl) (by kernel_rfl) (fun _ _ _ h => h) (Or.inl ⟨by rfl, ?_⟩) (by assumption) ?_
  rotate_left
  · (intro W hSw; (try dsimp only at hSw); go_simp; try with_reducible rfl)
  try simp only [Act.put, List.getElem_toArray, List.getElem_cons_zero, List.setIfInBounds_toArray, List.set_cons_zero, List.set_cons_succ]
  refine wpAnyH_take (i := 1) (oi := _) (v := ?_) rfl (by kernel_rfl) (by kernel_rfl) (by kernel_rfl) (fun _ _ _ h => h) (Or.inl ⟨by rfl, ?_⟩) (by assumption) ?_
  rotate_left
  · (intro W hSw; (try dsimp only at hSw); go_simp; try with_reducible rfl)
  try simp only [Act.put, List.getElem_toArray, List.getElem_cons_succ, List.getElem_cons_zero, List.setIfInBounds_toArray, List.set_cons_zero, List.set_cons_succ]
  refine wpAnyH_take (i := 2) (oi := _) (v := ?_) rfl (by kernel_rfl) (by kernel_rfl) (by kernel_rfl) (fun _ _ _ h => h) (Or.inl ⟨by rfl, ?_⟩) (by assumption) ?_
  rotate_left
  · (intro V hSw; have q0 := cell_of_row V W.heap.size 0 _ _ (0, 0) hSw.1; have q1 := cell_of_row V W.heap.size 1 _ _ (0, 0) hSw.1; have q2 := cell_of_row V W.heap.size 2 _ _ (0, 0) hSw.1; have q3 := cell_of_row V W.heap.size 3 _ _ (0, 0) hSw.1; have q4 := cell_of_row V W.heap.size 4 _ _ (0, 0) hSw.1; clear hSw; go_simp; try with_reducible rfl)
  try simp only [Act.put, List.getElem_toArray, List.getElem_cons_succ, List.getElem_cons_zero, List.setIfInBounds_toArray, List.set_cons_zero, List.set_cons_succ]
  refine wpAnyH_take (i := 4) (oi := _) (v := ?_) rfl (by kernel_rfl) (by kernel_rfl) (by kernel_rfl) (fun _ _ _ h => h) (Or.inl ⟨by rfl, ?_⟩) (by assumption) ?_
  rotate_left
  · (intro W hSw; (try dsimp only at hSw); go_simp; try with_reducible rfl)
  try simp only [Act.put, List.getElem_toArray, List.getElem_cons_succ, List.getElem_cons_zero, List.setIfInBounds_toArray, List.set_cons_zero, List.set_cons_succ]
  refine wpAnyH_take (i := 5) (oi := _) (v := ?_) rfl (by kernel_rfl) (by kernel_rfl) (by kernel_rfl) (fun _ _ _ h => h) (Or.inl ⟨by rfl, ?_⟩) (by assumption) ?_
  rotate_left
  · (intro V hSw; have q0 := cell_of_row V W.heap.size 0 _ _ (0, 0) hSw.1; have q1 := cell_of_row V W.heap.size 1 _ _ (0, 0) hSw.1; have q2 := cell_of_row V W.heap.size 2 _ _ (0, 0) hSw.1; have q3 := cell_of_row V W.heap.size 3 _ _ (0, 0) hSw.1; have q4 := cell_of_row V W.heap.size 4 _ _ (0, 0) hSw.1; clear hSw; go_simp; try with_reducible rfl)
  try simp only [Act.put, List.getElem_toArray, List.getElem_cons_succ, List.getElem_cons_zero, List.setIfInBounds_toArray, List.set_cons_zero, List.set_cons_succ]
  refine wpAnyH_take (i := 6) (oi := _) (v := ?_) rfl (by kernel_rfl) (by kernel_rfl) (by kernel_rfl) (fun _ _ _ h => h) (Or.inl ⟨by rfl, ?_⟩) (by assumption) ?_
  rotate_left
  · (intro W hSw; (try dsimp only at hSw); go_simp; try with_reducible rfl)
  try simp only [Act.put, List.getElem_toArray, List.getElem_cons_succ, List.getElem_cons_zero, List.setIfInBounds_toArray, List.set_cons_zero, List.set_cons_succ]
  refine wpAnyH_take (i := 7) (oi := _) (v := ?_) rfl (by kernel_rfl) (by kernel_rfl) (by kernel_rfl) (fun _ _ _ h => h) (Or.inl ⟨by rfl, ?_⟩) (by assumption) ?_
  rotate_left
  · (intro V hSw; have q0 := cell_of_row V W.heap.size 0 _ _ (0, 0) hSw.1; have q1 := cell_of_row V W.heap.size 1 _ _ (0, 0) hSw.1; have q2 := cell_of_row V W.heap.size 2 _ _ (0, 0) hSw.1; have q3 := cell_of_row V W.heap.size 3 _ _ (0, 0) hSw.1; have q4 := cell_of_row V W.heap.size 4 _ _ (0, 0) hSw.1; clear hSw; go_simp; try with_reducible rfl)
  try simp only [Act.put, List.getElem_toArray, List.getElem_cons_succ, List.getElem_cons_zero, List.setIfInBounds_toArray, List.set_cons_zero, List.set_cons_succ]
  refine wpAnyH_ready (rs := [3]) (by kernel_rfl) (by simp) ?_
  refine AllReadyH.cons rfl (fun K hK => ?_) AllReadyH.nil
  simp only [List.getElem_toArray, List.getElem_cons_succ, List.getElem_cons_zero]
  rw [if_pos (by rfl)]
  go_simp
  refine (byClaim none _).mono ?_
  rintro _ w3 ⟨rfl, rfl⟩
  go_wp2_with fail
  refine hK.out _ _ hHeld (fun hHeld => ?_)
  clear hK K
  try simp only [Act.put, List.getElem_toArray, List.getElem_cons_succ, List.getElem_cons_zero, List.setIfInBounds_toArray, List.set_cons_zero, List.set_cons_succ]
  refine wpAnyH_ready (rs := [8]) (by kernel_rfl) (by simp) ?_
  refine AllReadyH.cons rfl (fun K hK => ?_) AllReadyH.nil
  simp only [List.getElem_toArray, List.getElem_cons_succ, List.getElem_cons_zero]
  rw [if_pos (by rfl)]
  go_simp
  refine (claim_nil ⟨kc, kf, ks⟩ who _).mono ?_
  rintro _ w4 ⟨rfl, b4⟩
  go_wp2_with fail
  refine hK.out _ _ ⟨(b4.block _ (by have := H2.out.1; show _ < w2.heap.size; omega)).trans hHeld.1, hHeld.2.imp fun _ h => (b4.block _ H2.out.1).trans h⟩ (fun hHeld => ?_)
  clear hK K
  try simp only [Act.put, List.getElem_toArray, List.getElem_cons_succ, List.getElem_cons_zero, List.setIfInBounds_toArray, List.set_cons_zero, List.set_cons_succ]
  refine wpAnyH_take (i := 9) (oi := _) (v := ?_) rfl (by kernel_rfl) (by kernel_rfl) (by kernel_rfl) (fun _ _ _ h => h) (Or.inl ⟨by rfl, ?_⟩) (by assumption) ?_
  rotate_left
  · (intro W hSw; (try dsimp only at hSw); go_simp; try with_reducible rfl)
  try simp only [Act.put, List.getElem_toArray, List.getElem_cons_succ, List.getElem_cons_zero, List.setIfInBounds_toArray, List.set_cons_zero, List.set_cons_succ]
  obtain ⟨e0, hE⟩ := hHeld.2
  have c0 := cell_of_row w4 (W.heap.size + 1) 0 _ _ (0, 0) hE
  have c1 := cell_of_row w4 (W.heap.size + 1) 1 _ _ (0, 0) hE
  have c2 := cell_of_row w4 (W.heap.size + 1) 2 _ _ (0, 0) hE
  have c3 := cell_of_row w4 (W.heap.size + 1) 3 _ _ (0, 0) hE
  have f3 : ∀ i, w4.frozen? ⟨W.heap.size + 1, i, none⟩ = false := fun i => by simp [World.frozen?, hE]
  have hb4' : Below W.heap.size W w4 := H2.out.2.1.drew.trans (b4.mono H2.out.2.1.size)
  have hs := row_set4 (.int .i64 1) (.int .u64 0) (.int .u64 0) (.int .u64 0) rfl hE
  have hb4 := hs.2.2 _ _ hb4' (by omega)
  have HS := Lib.hid (And.intro hs hb4)
  clear hs hb4
  refine wpAnyH_ready (rs := [10]) (by kernel_rfl) (by simp) ?_
  refine AllReadyH.cons rfl (fun K hK => ?_) AllReadyH.nil
  simp only [List.getElem_toArray, List.getElem_cons_succ, List.getElem_cons_zero]
  rw [if_pos (by rfl)]
  go_simp
  refine hK.out _ _ ⟨(HS.out.1.2.1 _ (by omega)).trans hHeld.1, 1, HS.out.1.1⟩ (fun hHeld => ?_)
  clear hK K
  try simp only [Act.put, List.getElem_toArray, List.getElem_cons_succ, List.getElem_cons_zero, List.setIfInBounds_toArray, List.set_cons_zero, List.set_cons_succ]
  refine wpAnyH_done (by kernel_rfl) ?_ _
  have HY := Lib.hid (And.intro HS.out.1.1 HS.out.2)
  generalize ((((w4.setCell ⟨W.heap.size + 1, 0, none⟩ (.int .i64 1)).setCell ⟨W.heap.size + 1, 1, none⟩ (.int .u64 0)).setCell ⟨W.heap.size + 1, 2, none⟩ (.int .u64 0)).setCell ⟨W.heap.size + 1, 3, none⟩ (.int .u64 0)) = V4 at HY ⊢
  have r0 := cell_of_row V4 (W.heap.size + 1) 0 _ _ (0, 0) HY.out.1
  have r1 := cell_of_row V4 (W.heap.size + 1) 1 _ _ (0, 0) HY.out.1
  have r2 := cell_of_row V4 (W.heap.size + 1) 2 _ _ (0, 0) HY.out.1
  have r3 := cell_of_row V4 (W.heap.size + 1) 3 _ _ (0, 0) HY.out.1
  go_wp2
  simp [bodyPost, results, Tryz.results6, go_sem, r0, r1, r2, r3]
  exact HY.out.2
set_option maxRecDepth 20000 in
set_option maxHeartbeats 2000000 in
theorem tdo_release (who : Int) (k : K3) (sd ac ep nn : Int) (W : World) : Calls Tryz.prog 6 #[.pointer none, opV 3 who k sd ac ep nn] W fun e w' => e = .returned (retV 1) ∧ Below W.heap.size W w' := by
  unfold retV
  obtain ⟨kc, kf, ks⟩ := k
  unfold opV
  have hK := heap_two W (.cells #[.int .i64 3, .int .i64 who, .int .i64 kc, .int .i64 kf, .int .u64 ks, .int .i64 sd, .int .i64 ac, .int .u64 ep, .int .u64 nn] 26) (.cells #[.int .i64 0, .int .u64 0, .int .u64 0, .int .u64 0] 35)
  have b1 := below_two W (.cells #[.int .i64 3, .int .i64 who, .int .i64 kc, .int .i64 kf, .int .u64 ks, .int .i64 sd, .int .i64 ac, .int .u64 ep, .int .u64 nn] 26) (.cells #[.int .i64 0, .int .u64 0, .int .u64 0, .int .u64 0] 35)
  obtain ⟨W0, hW0⟩ : ∃ X, X = (W.alloc (.cells #[.int .i64 3, .int .i64 who, .int .i64 kc, .int .i64 kf, .int .u64 ks, .int .i64 sd, .int .i64 ac, .int .u64 ep, .int .u64 nn] 26)).alloc (.cells #[.int .i64 0, .int .u64 0, .int .u64 0, .int .u64 0] 35) := ⟨_, rfl⟩
  dsimp only
  rw [← hW0] at hK b1
  have hlt : W.heap.size + 1 < W0.heap.size := (Array.getElem?_eq_some_iff.1 hK.2).1
  have p2 := cell_of_row W0 W.heap.size 2 _ _ (0, 0) hK.1
  have p3 := cell_of_row W0 W.heap.size 3 _ _ (0, 0) hK.1
  have p4 := cell_of_row W0 W.heap.size 4 _ _ (0, 0) hK.1
  have HX := Lib.hid (And.intro hlt (And.intro b1 hK))
  clear hlt b1 hK
  go_enter Tryz.func6, Tryz.ntmps6
  go_upto_region 1 with fail
  rw [← hW0]
  clear hW0
  go_wp2_with fail
  refine (of_nil ⟨kc, kf, ks⟩ _).mono ?_
  rintro _ w2 ⟨rfl, b2⟩
  have hK2 := And.intro ((b2.block _ (by have := HX.out.1; omega)).trans HX.out.2.2.1) ((b2.block _ HX.out.1).trans HX.out.2.2.2)
  have hb2 : Below W.heap.size W w2 := HX.out.2.1.trans (b2.mono HX.out.2.1.size)
  have hlt2 : W.heap.size + 1 < w2.heap.size := (Array.getElem?_eq_some_iff.1 hK2.2).1
  have H2 := Lib.hid (And.intro hlt2 (And.intro hb2 hK2))
  have p0 := cell_of_row w2 W.heap.size 0 _ _ (0, 0) hK2.1
  have p1 := cell_of_row w2 W.heap.size 1 _ _ (0, 0) hK2.1
  have p2' := cell_of_row w2 W.heap.size 2 _ _ (0, 0) hK2.1
  have p3' := cell_of_row w2 W.heap.size 3 _ _ (0, 0) hK2.1
  have p4' := cell_of_row w2 W.heap.size 4 _ _ (0, 0) hK2.1
  clear b2 hK2 hb2 hlt2 HX p2 p3 p4
  go_upto_region 11 with fail
  refine wp_region_held_drew (S := (fun V => V.heap[W.heap.size]? = some (.cells #[.int .i64 3, .int .i64 who, .int .i64 kc, .int .i64 kf, .int .u64 ks, .int .i64 sd, .int .i64 ac, .int .u64 ep, .int .u64 nn] 26 (0, 0)) ∧ ∃ e, V.heap[W.heap.size + 1]? = some (.cells #[.int .i64 e, .int .u64 0, .int .u64 0, .int .u64 0] 35 (0, 0)))) (by kernel_rfl) ⟨H2.out.2.2.1, 0, H2.out.2.2.2⟩ (fun hHeld => ?_)
  refine wpAnyH_take (i := 0) (oi := _) (v := ?_) rfl (by kernel_rfl) (by kernel_rfl) (by kernel_rfl) (fun _ _ _ h => h) (Or.inl ⟨by rfl, ?_⟩) (by assumption) ?_
  rotate_left
  · (intro W hSw; (try dsimp only at hSw); go_simp; try with_reducible rfl)
  try simp only [Act.put, List.getElem_toArray, List.getElem_cons_zero, List.setIfInBounds_toArray, List.set_cons_zero, List.set_cons_succ]
  refine wpAnyH_take (i := 1) (oi := _) (v := ?_) rfl (by kernel_rfl) (by kernel_rfl) (by kernel_rfl) (fun _ _ _ h => h) (Or.inl ⟨by rfl, ?_⟩) (by assumption) ?_
  rotate_left
  · (intro W hSw; (try dsimp only at hSw); go_simp; try with_reducible rfl)
  try simp only [Act.put, List.getElem_toArray, List.getElem_cons_succ, List.getElem_cons_zero, List.setIfInBounds_toArray, List.set_cons_zero, List.set_cons_succ]
  refine wpAnyH_take (i := 2) (oi := _) (v := ?_) rfl (by kernel_rfl) (by kernel_rfl) (by kernel_rfl) (fun _ _ _ h => h) (Or.inl ⟨by rfl, ?_⟩) (by assumption) ?_
  rotate_left
  · (intro V hSw; have q0 := cell_of_row V W.heap.size 0 _ _ (0, 0) hSw.1; have q1 := cell_of_row V W.heap.size 1 _ _ (0, 0) hSw.1; have q2 := cell_of_row V W.heap.size 2 _ _ (0, 0) hSw.1; have q3 := cell_of_row V W.heap.size 3 _ _ (0, 0) hSw.1; have q4 := cell_of_row V W.heap.size 4 _ _ (0, 0) hSw.1; clear hSw; go_simp; try with_reducible rfl)
  try simp only [Act.put, List.getElem_toArray, List.getElem_cons_succ, List.getElem_cons_zero, List.setIfInBounds_toArray, List.set_cons_zero, List.set_cons_succ]
  refine wpAnyH_take (i := 4) (oi := _) (v := ?_) rfl (by kernel_rfl) (by kernel_rfl) (by kernel_rfl) (fun _ _ _ h => h) (Or.inl ⟨by rfl, ?_⟩) (by assumption) ?_
  rotate_left
  · (intro W hSw; (try dsimp only at hSw); go_simp; try with_reducible rfl)
  try simp only [Act.put, List.getElem_toArray, List.getElem_cons_succ, List.getElem_cons_zero, List.setIfInBounds_toArray, List.set_cons_zero, List.set_cons_succ]
  refine wpAnyH_take (i := 5) (oi := _) (v := ?_) rfl (by kernel_rfl) (by kernel_rfl) (by kernel_rfl) (fun _ _ _ h => h) (Or.inl ⟨by rfl, ?_⟩) (by assumption) ?_
  rotate_left
  · (intro V hSw; have q0 := cell_of_row V W.heap.size 0 _ _ (0, 0) hSw.1; have q1 := cell_of_row V W.heap.size 1 _ _ (0, 0) hSw.1; have q2 := cell_of_row V W.heap.size 2 _ _ (0, 0) hSw.1; have q3 := cell_of_row V W.heap.size 3 _ _ (0, 0) hSw.1; have q4 := cell_of_row V W.heap.size 4 _ _ (0, 0) hSw.1; clear hSw; go_simp; try with_reducible rfl)
  try simp only [Act.put, List.getElem_toArray, List.getElem_cons_succ, List.getElem_cons_zero, List.setIfInBounds_toArray, List.set_cons_zero, List.set_cons_succ]
  refine wpAnyH_take (i := 6) (oi := _) (v := ?_) rfl (by kernel_rfl) (by kernel_rfl) (by kernel_rfl) (fun _ _ _ h => h) (Or.inl ⟨by rfl, ?_⟩) (by assumption) ?_
  rotate_left
  · (intro W hSw; (try dsimp only at hSw); go_simp; try with_reducible rfl)
  try simp only [Act.put, List.getElem_toArray, List.getElem_cons_succ, List.getElem_cons_zero, List.setIfInBounds_toArray, List.set_cons_zero, List.set_cons_succ]
  refine wpAnyH_take (i := 7) (oi := _) (v := ?_) rfl (by kernel_rfl) (by kernel_rfl) (by kernel_rfl) (fun _ _ _ h => h) (Or.inl ⟨by rfl, ?_⟩) (by assumption) ?_
  rotate_left
  · (intro V hSw; have q0 := cell_of_row V W.heap.size 0 _ _ (0, 0) hSw.1; have q1 := cell_of_row V W.heap.size 1 _ _ (0, 0) hSw.1; have q2 := cell_of_row V W.heap.size 2 _ _ (0, 0) hSw.1; have q3 := cell_of_row V W.heap.size 3 _ _ (0, 0) hSw.1; have q4 := cell_of_row V W.heap.size 4 _ _ (0, 0) hSw.1; clear hSw; go_simp; try with_reducible rfl)
  try simp only [Act.put, List.getElem_toArray, List.getElem_cons_succ, List.getElem_cons_zero, List.setIfInBounds_toArray, List.set_cons_zero, List.set_cons_succ]
  refine wpAnyH_ready (rs := [3]) (by kernel_rfl) (by simp) ?_
  refine AllReadyH.cons rfl (fun K hK => ?_) AllReadyH.nil
  simp only [List.getElem_toArray, List.getElem_cons_succ, List.getElem_cons_zero]
  rw [if_pos (by rfl)]
  go_simp
  refine (byRelease none _).mono ?_
  rintro _ w3 ⟨rfl, rfl⟩
  go_wp2_with fail
  refine hK.out _ _ hHeld (fun hHeld => ?_)
  clear hK K
  try simp only [Act.put, List.getElem_toArray, List.getElem_cons_succ, List.getElem_cons_zero, List.setIfInBounds_toArray, List.set_cons_zero, List.set_cons_succ]
  refine wpAnyH_ready (rs := [8]) (by kernel_rfl) (by simp) ?_
  refine AllReadyH.cons rfl (fun K hK => ?_) AllReadyH.nil
  simp only [List.getElem_toArray, List.getElem_cons_succ, List.getElem_cons_zero]
  rw [if_pos (by rfl)]
  go_simp
  refine (release_nil ⟨kc, kf, ks⟩ who _).mono ?_
  rintro _ w4 ⟨rfl, b4⟩
  go_wp2_with fail
  refine hK.out _ _ ⟨(b4.block _ (by have := H2.out.1; show _ < w2.heap.size; omega)).trans hHeld.1, hHeld.2.imp fun _ h => (b4.block _ H2.out.1).trans h⟩ (fun hHeld => ?_)
  clear hK K
  try simp only [Act.put, List.getElem_toArray, List.getElem_cons_succ, List.getElem_cons_zero, List.setIfInBounds_toArray, List.set_cons_zero, List.set_cons_succ]
  refine wpAnyH_take (i := 9) (oi := _) (v := ?_) rfl (by kernel_rfl) (by kernel_rfl) (by kernel_rfl) (fun _ _ _ h => h) (Or.inl ⟨by rfl, ?_⟩) (by assumption) ?_
  rotate_left
  · (intro W hSw; (try dsimp only at hSw); go_simp; try with_reducible rfl)
  try simp only [Act.put, List.getElem_toArray, List.getElem_cons_succ, List.getElem_cons_zero, List.setIfInBounds_toArray, List.set_cons_zero, List.set_cons_succ]
  obtain ⟨e0, hE⟩ := hHeld.2
  have c0 := cell_of_row w4 (W.heap.size + 1) 0 _ _ (0, 0) hE
  have c1 := cell_of_row w4 (W.heap.size + 1) 1 _ _ (0, 0) hE
  have c2 := cell_of_row w4 (W.heap.size + 1) 2 _ _ (0, 0) hE
  have c3 := cell_of_row w4 (W.heap.size + 1) 3 _ _ (0, 0) hE
  have f3 : ∀ i, w4.frozen? ⟨W.heap.size + 1, i, none⟩ = false := fun i => by simp [World.frozen?, hE]
  have hb4' : Below W.heap.size W w4 := H2.out.2.1.drew.trans (b4.mono H2.out.2.1.size)
  have hs := row_set4 (.int .i64 1) (.int .u64 0) (.int .u64 0) (.int .u64 0) rfl hE
  have hb4 := hs.2.2 _ _ hb4' (by omega)
  have HS := Lib.hid (And.intro hs hb4)
  clear hs hb4
  refine wpAnyH_ready (rs := [10]) (by kernel_rfl) (by simp) ?_
  refine AllReadyH.cons rfl (fun K hK => ?_) AllReadyH.nil
  simp only [List.getElem_toArray, List.getElem_cons_succ, List.getElem_cons_zero]
  rw [if_pos (by rfl)]
  go_simp
  refine hK.out _ _ ⟨(HS.out.1.2.1 _ (by omega)).trans hHeld.1, 1, HS.out.1.1⟩ (fun hHeld => ?_)
  clear hK K
  try simp only [Act.put, List.getElem_toArray, List.getElem_cons_succ, List.getElem_cons_zero, List.setIfInBounds_toArray, List.set_cons_zero, List.set_cons_succ]
  refine wpAnyH_done (by kernel_rfl) ?_ _
  have HY := Lib.hid (And.intro HS.out.1.1 HS.out.2)
  generalize ((((w4.setCell ⟨W.heap.size + 1, 0, none⟩ (.int .i64 1)).setCell ⟨W.heap.size + 1, 1, none⟩ (.int .u64 0)).setCell ⟨W.heap.size + 1, 2, none⟩ (.int .u64 0)).setCell ⟨W.heap.size + 1, 3, none⟩ (.int .u64 0)) = V4 at HY ⊢
  have r0 := cell_of_row V4 (W.heap.size + 1) 0 _ _ (0, 0) HY.out.1
  have r1 := cell_of_row V4 (W.heap.size + 1) 1 _ _ (0, 0) HY.out.1
  have r2 := cell_of_row V4 (W.heap.size + 1) 2 _ _ (0, 0) HY.out.1
  have r3 := cell_of_row V4 (W.heap.size + 1) 3 _ _ (0, 0) HY.out.1
  go_wp2
  simp [bodyPost, results, Tryz.results6, go_sem, r0, r1, r2, r3]
  exact HY.out.2
set_option maxRecDepth 20000 in
set_option maxHeartbeats 2000000 in
theorem tdo_complete (who : Int) (k : K3) (sd ac ep nn : Int) (W : World) : Calls Tryz.prog 6 #[.pointer none, opV 4 who k sd ac ep nn] W fun e w' => e = .returned (retV 1) ∧ Below W.heap.size W w' := by
  unfold retV
  obtain ⟨kc, kf, ks⟩ := k
  unfold opV
  have hK := heap_two W (.cells #[.int .i64 4, .int .i64 who, .int .i64 kc, .int .i64 kf, .int .u64 ks, .int .i64 sd, .int .i64 ac, .int .u64 ep, .int .u64 nn] 26) (.cells #[.int .i64 0, .int .u64 0, .int .u64 0, .int .u64 0] 35)
  have b1 := below_two W (.cells #[.int .i64 4, .int .i64 who, .int .i64 kc, .int .i64 kf, .int .u64 ks, .int .i64 sd, .int .i64 ac, .int .u64 ep, .int .u64 nn] 26) (.cells #[.int .i64 0, .int .u64 0, .int .u64 0, .int .u64 0] 35)
  obtain ⟨W0, hW0⟩ : ∃ X, X = (W.alloc (.cells #[.int .i64 4, .int .i64 who, .int .i64 kc, .int .i64 kf, .int .u64 ks, .int .i64 sd, .int .i64 ac, .int .u64 ep, .int .u64 nn] 26)).alloc (.cells #[.int .i64 0, .int .u64 0, .int .u64 0, .int .u64 0] 35) := ⟨_, rfl⟩
  dsimp only
  rw [← hW0] at hK b1
  have hlt : W.heap.size + 1 < W0.heap.size := (Array.getElem?_eq_some_iff.1 hK.2).1
  have p2 := cell_of_row W0 W.heap.size 2 _ _ (0, 0) hK.1
  have p3 := cell_of_row W0 W.heap.size 3 _ _ (0, 0) hK.1
  have p4 := cell_of_row W0 W.heap.size 4 _ _ (0, 0) hK.1
  have HX := Lib.hid (And.intro hlt (And.intro b1 hK))
  clear hlt b1 hK
  go_enter Tryz.func6, Tryz.ntmps6
  go_upto_region 1 with fail
  rw [← hW0]
  clear hW0
  go_wp2_with fail
  refine (of_nil ⟨kc, kf, ks⟩ _).mono ?_
  rintro _ w2 ⟨rfl, b2⟩
  have hK2 := And.intro ((b2.block _ (by have := HX.out.1; omega)).trans HX.out.2.2.1) ((b2.block _ HX.out.1).trans HX.out.2.2.2)
  have hb2 : Below W.heap.size W w2 := HX.out.2.1.trans (b2.mono HX.out.2.1.size)
  have hlt2 : W.heap.size + 1 < w2.heap.size := (Array.getElem?_eq_some_iff.1 hK2.2).1
  have H2 := Lib.hid (And.intro hlt2 (And.intro hb2 hK2))
  have p0 := cell_of_row w2 W.heap.size 0 _ _ (0, 0) hK2.1
  have p1 := cell_of_row w2 W.heap.size 1 _ _ (0, 0) hK2.1
  have p2' := cell_of_row w2 W.heap.size 2 _ _ (0, 0) hK2.1
  have p3' := cell_of_row w2 W.heap.size 3 _ _ (0, 0) hK2.1
  have p4' := cell_of_row w2 W.heap.size 4 _ _ (0, 0) hK2.1
  clear b2 hK2 hb2 hlt2 HX p2 p3 p4
  go_upto_region 11 with fail
  refine wp_region_held_drew (S := (fun V => V.heap[W.heap.size]? = some (.cells #[.int .i64 4, .int .i64 who, .int .i64 kc, .int .i64 kf, .int .u64 ks, .int .i64 sd, .int .i64 ac, .int .u64 ep, .int .u64 nn] 26 (0, 0)) ∧ ∃ e, V.heap[W.heap.size + 1]? = some (.cells #[.int .i64 e, .int .u64 0, .int .u64 0, .int .u64 0] 35 (0, 0)))) (by kernel_rfl) ⟨H2.out.2.2.1, 0, H2.out.2.2.2⟩ (fun hHeld => ?_)
  refine wpAnyH_take (i := 0) (oi := _) (v := ?_) rfl (by kernel_rfl) (by kernel_rfl) (by kernel_rfl) (fun _ _ _ h => h) (Or.inl ⟨by rfl, ?_⟩) (by assumption) ?_
  rotate_left
  · (intro W hSw; (try dsimp only at hSw); go_simp; try with_reducible rfl)
  try simp only [Act.put, List.getElem_toArray, List.getElem_cons_zero, List.setIfInBounds_toArray, List.set_cons_zero, List.set_cons_succ]
  refine wpAnyH_take (i := 1) (oi := _) (v := ?_) rfl (by kernel_rfl) (by kernel_rfl) (by kernel_rfl) (fun _ _ _ h => h) (Or.inl ⟨by rfl, ?_⟩) (by assumption) ?_
  rotate_left
  · (intro W hSw; (try dsimp only at hSw); go_simp; try with_reducible rfl)
  try simp only [Act.put, List.getElem_toArray, List.getElem_cons_succ, List.getElem_cons_zero, List.setIfInBounds_toArray, List.set_cons_zero, List.set_cons_succ]
  refine wpAnyH_take (i := 2) (oi := _) (v := ?_) rfl (by kernel_rfl) (by kernel_rfl) (by kernel_rfl) (fun _ _ _ h => h) (Or.inl ⟨by rfl, ?_⟩) (by assumption) ?_
  rotate_left
  · (intro V hSw; have q0 := cell_of_row V W.heap.size 0 _ _ (0, 0) hSw.1; have q1 := cell_of_row V W.heap.size 1 _ _ (0, 0) hSw.1; have q2 := cell_of_row V W.heap.size 2 _ _ (0, 0) hSw.1; have q3 := cell_of_row V W.heap.size 3 _ _ (0, 0) hSw.1; have q4 := cell_of_row V W.heap.size 4 _ _ (0, 0) hSw.1; clear hSw; go_simp; try with_reducible rfl)
  try simp only [Act.put, List.getElem_toArray, List.getElem_cons_succ, List.getElem_cons_zero, List.setIfInBounds_toArray, List.set_cons_zero, List.set_cons_succ]
  refine wpAnyH_take (i := 4) (oi := _) (v := ?_) rfl (by kernel_rfl) (by kernel_rfl) (by kernel_rfl) (fun _ _ _ h => h) (Or.inl ⟨by rfl, ?_⟩) (by assumption) ?_
  rotate_left
  · (intro W hSw; (try dsimp only at hSw); go_simp; try with_reducible rfl)
  try simp only [Act.put, List.getElem_toArray, List.getElem_cons_succ, List.getElem_cons_zero, List.setIfInBounds_toArray, List.set_cons_zero, List.set_cons_succ]
  refine wpAnyH_take (i := 5) (oi := _) (v := ?_) rfl (by kernel_rfl) (by kernel_rfl) (by kernel_rfl) (fun _ _ _ h => h) (Or.inl ⟨by rfl, ?_⟩) (by assumption) ?_
  rotate_left
  · (intro V hSw; have q0 := cell_of_row V W.heap.size 0 _ _ (0, 0) hSw.1; have q1 := cell_of_row V W.heap.size 1 _ _ (0, 0) hSw.1; have q2 := cell_of_row V W.heap.size 2 _ _ (0, 0) hSw.1; have q3 := cell_of_row V W.heap.size 3 _ _ (0, 0) hSw.1; have q4 := cell_of_row V W.heap.size 4 _ _ (0, 0) hSw.1; clear hSw; go_simp; try with_reducible rfl)
  try simp only [Act.put, List.getElem_toArray, List.getElem_cons_succ, List.getElem_cons_zero, List.setIfInBounds_toArray, List.set_cons_zero, List.set_cons_succ]
  refine wpAnyH_take (i := 6) (oi := _) (v := ?_) rfl (by kernel_rfl) (by kernel_rfl) (by kernel_rfl) (fun _ _ _ h => h) (Or.inl ⟨by rfl, ?_⟩) (by assumption) ?_
  rotate_left
  · (intro W hSw; (try dsimp only at hSw); go_simp; try with_reducible rfl)
  try simp only [Act.put, List.getElem_toArray, List.getElem_cons_succ, List.getElem_cons_zero, List.setIfInBounds_toArray, List.set_cons_zero, List.set_cons_succ]
  refine wpAnyH_take (i := 7) (oi := _) (v := ?_) rfl (by kernel_rfl) (by kernel_rfl) (by kernel_rfl) (fun _ _ _ h => h) (Or.inl ⟨by rfl, ?_⟩) (by assumption) ?_
  rotate_left
  · (intro V hSw; have q0 := cell_of_row V W.heap.size 0 _ _ (0, 0) hSw.1; have q1 := cell_of_row V W.heap.size 1 _ _ (0, 0) hSw.1; have q2 := cell_of_row V W.heap.size 2 _ _ (0, 0) hSw.1; have q3 := cell_of_row V W.heap.size 3 _ _ (0, 0) hSw.1; have q4 := cell_of_row V W.heap.size 4 _ _ (0, 0) hSw.1; clear hSw; go_simp; try with_reducible rfl)
  try simp only [Act.put, List.getElem_toArray, List.getElem_cons_succ, List.getElem_cons_zero, List.setIfInBounds_toArray, List.set_cons_zero, List.set_cons_succ]
  refine wpAnyH_ready (rs := [3]) (by kernel_rfl) (by simp) ?_
  refine AllReadyH.cons rfl (fun K hK => ?_) AllReadyH.nil
  simp only [List.getElem_toArray, List.getElem_cons_succ, List.getElem_cons_zero]
  rw [if_pos (by rfl)]
  go_simp
  refine (byComplete none _).mono ?_
  rintro _ w3 ⟨rfl, rfl⟩
  go_wp2_with fail
  refine hK.out _ _ hHeld (fun hHeld => ?_)
  clear hK K
  try simp only [Act.put, List.getElem_toArray, List.getElem_cons_succ, List.getElem_cons_zero, List.setIfInBounds_toArray, List.set_cons_zero, List.set_cons_succ]
  refine wpAnyH_ready (rs := [8]) (by kernel_rfl) (by simp) ?_
  refine AllReadyH.cons rfl (fun K hK => ?_) AllReadyH.nil
  simp only [List.getElem_toArray, List.getElem_cons_succ, List.getElem_cons_zero]
  rw [if_pos (by rfl)]
  go_simp
  refine (complete_nil ⟨kc, kf, ks⟩ who _).mono ?_
  rintro _ w4 ⟨rfl, b4⟩
  go_wp2_with fail
  refine hK.out _ _ ⟨(b4.block _ (by have := H2.out.1; show _ < w2.heap.size; omega)).trans hHeld.1, hHeld.2.imp fun _ h => (b4.block _ H2.out.1).trans h⟩ (fun hHeld => ?_)
  clear hK K
  try simp only [Act.put, List.getElem_toArray, List.getElem_cons_succ, List.getElem_cons_zero, List.setIfInBounds_toArray, List.set_cons_zero, List.set_cons_succ]
  refine wpAnyH_take (i := 9) (oi := _) (v := ?_) rfl (by kernel_rfl) (by kernel_rfl) (by kernel_rfl) (fun _ _ _ h => h) (Or.inl ⟨by rfl, ?_⟩) (by assumption) ?_
  rotate_left
  · (intro W hSw; (try dsimp only at hSw); go_simp; try with_reducible rfl)
  try simp only [Act.put, List.getElem_toArray, List.getElem_cons_succ, List.getElem_cons_zero, List.setIfInBounds_toArray, List.set_cons_zero, List.set_cons_succ]
  obtain ⟨e0, hE⟩ := hHeld.2
  have c0 := cell_of_row w4 (W.heap.size + 1) 0 _ _ (0, 0) hE
  have c1 := cell_of_row w4 (W.heap.size + 1) 1 _ _ (0, 0) hE
  have c2 := cell_of_row w4 (W.heap.size + 1) 2 _ _ (0, 0) hE
  have c3 := cell_of_row w4 (W.heap.size + 1) 3 _ _ (0, 0) hE
  have f3 : ∀ i, w4.frozen? ⟨W.heap.size + 1, i, none⟩ = false := fun i => by simp [World.frozen?, hE]
  have hb4' : Below W.heap.size W w4 := H2.out.2.1.drew.trans (b4.mono H2.out.2.1.size)
  have hs := row_set4 (.int .i64 1) (.int .u64 0) (.int .u64 0) (.int .u64 0) rfl hE
  have hb4 := hs.2.2 _ _ hb4' (by omega)
  have HS := Lib.hid (And.intro hs hb4)
  clear hs hb4
  refine wpAnyH_ready (rs := [10]) (by kernel_rfl) (by simp) ?_
  refine AllReadyH.cons rfl (fun K hK => ?_) AllReadyH.nil
  simp only [List.getElem_toArray, List.getElem_cons_succ, List.getElem_cons_zero]
  rw [if_pos (by rfl)]
  go_simp
  refine hK.out _ _ ⟨(HS.out.1.2.1 _ (by omega)).trans hHeld.1, 1, HS.out.1.1⟩ (fun hHeld => ?_)
  clear hK K
  try simp only [Act.put, List.getElem_toArray, List.getElem_cons_succ, List.getElem_cons_zero, List.setIfInBounds_toArray, List.set_cons_zero, List.set_cons_succ]
  refine wpAnyH_done (by kernel_rfl) ?_ _
  have HY := Lib.hid (And.intro HS.out.1.1 HS.out.2)
  generalize ((((w4.setCell ⟨W.heap.size + 1, 0, none⟩ (.int .i64 1)).setCell ⟨W.heap.size + 1, 1, none⟩ (.int .u64 0)).setCell ⟨W.heap.size + 1, 2, none⟩ (.int .u64 0)).setCell ⟨W.heap.size + 1, 3, none⟩ (.int .u64 0)) = V4 at HY ⊢
  have r0 := cell_of_row V4 (W.heap.size + 1) 0 _ _ (0, 0) HY.out.1
  have r1 := cell_of_row V4 (W.heap.size + 1) 1 _ _ (0, 0) HY.out.1
  have r2 := cell_of_row V4 (W.heap.size + 1) 2 _ _ (0, 0) HY.out.1
  have r3 := cell_of_row V4 (W.heap.size + 1) 3 _ _ (0, 0) HY.out.1
  go_wp2
  simp [bodyPost, results, Tryz.results6, go_sem, r0, r1, r2, r3]
  exact HY.out.2
theorem tdo_nil (kd who : Int) (k : K3) (sd ac ep nn : Int) (W : World) : Calls Tryz.prog 6 #[.pointer none, opV kd who k sd ac ep nn] W fun e w' => e = .returned (retV 1) ∧ Below W.heap.size W w' := by
  by_cases h1 : kd = 1
  · subst h1; exact tdo_insert who k sd ac ep nn W
  by_cases h2 : kd = 2
  · subst h2; exact tdo_claim who k sd ac ep nn W
  by_cases h3 : kd = 3
  · subst h3; exact tdo_release who k sd ac ep nn W
  by_cases h4 : kd = 4
  · subst h4; exact tdo_complete who k sd ac ep nn W
  by_cases h5 : kd = 5
  · subst h5; exact tdo_expire who k sd ac ep nn W
  exact tdo_other kd who k sd ac ep nn h1 h2 h3 h4 h5 W
end Go.Proofs.YtjkebabkacnmpaaGreat.Mk
