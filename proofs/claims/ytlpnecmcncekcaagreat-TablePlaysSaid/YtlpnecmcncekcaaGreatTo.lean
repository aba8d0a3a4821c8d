import Derived.Test.YtlpnecmcncekcaaGreatTn
import Derived.Test.YtlpnecmcncekcaaGreatShardGet
/- A table whose 'of' is known: Do of an insert, a claim, a release; Get. -/
namespace Go.Proofs.YtlpnecmcncekcaaGreat.Mk
open Go Go.RowKit Go.MuLone

set_option maxRecDepth 20000 in
set_option maxHeartbeats 2000000 in
theorem xdo_ins {W : World} {T : Nat} (who : Int) (k : K3) (sd ac ep nn : Int) (S B : Nat) (room : Int) (l : List Ms) (clock : Nat)
    (hof : ∀ V, Below W.heap.size W V → Calls Tryz.prog 31 #[.pointer (some ⟨T, 0, none⟩), k.val] V fun e w' => e = .returned (.pointer (some ⟨S, 0, none⟩)) ∧ Below V.heap.size V w')
    (hs : ShIs W S B room l clock 0) :
    Calls Tryz.prog 11 #[.pointer (some ⟨T, 0, none⟩), opV 1 who k sd ac ep nn] W fun e w' => e = .returned (retV (insR room l k)) ∧ ShIs w' S B room (insL room l clock k).1 (insL room l clock k).2 0 ∧ Only2 S B W w' := by
  have HOf := Lib.hid hof
  have HIn := Lib.hid (fun V (hV : ShIs V S B room l clock 0) => sins_any S B room l clock k V hV)
  clear hof
  generalize insR room l k = r at HIn ⊢
  generalize insL room l clock k = L at HIn ⊢
  obtain ⟨kc, kf, ks⟩ := k
  unfold opV retV
  unfold K3.val at HOf HIn
  dsimp only at HOf HIn ⊢
  have hK := heap_two W (.cells #[.int .i64 1, .int .i64 who, .int .i64 kc, .int .i64 kf, .int .u64 ks, .int .i64 sd, .int .i64 ac, .int .u64 ep, .int .u64 nn] 43) (.cells #[.int .i64 0, .int .u64 0, .int .u64 0, .int .u64 0] 38)
  have b1 := below_two W (.cells #[.int .i64 1, .int .i64 who, .int .i64 kc, .int .i64 kf, .int .u64 ks, .int .i64 sd, .int .i64 ac, .int .u64 ep, .int .u64 nn] 43) (.cells #[.int .i64 0, .int .u64 0, .int .u64 0, .int .u64 0] 38)
  have hne := And.intro hs.ltS hs.ltB
  obtain ⟨W0, hW0⟩ : ∃ X, X = (W.alloc (.cells #[.int .i64 1, .int .i64 who, .int .i64 kc, .int .i64 kf, .int .u64 ks, .int .i64 sd, .int .i64 ac, .int .u64 ep, .int .u64 nn] 43)).alloc (.cells #[.int .i64 0, .int .u64 0, .int .u64 0, .int .u64 0] 38) := ⟨_, rfl⟩
  rw [← hW0] at hK b1
  have hlt : W.heap.size + 1 < W0.heap.size := (Array.getElem?_eq_some_iff.1 hK.2).1
  have p2 := cell_of_row W0 W.heap.size 2 _ _ (0, 0) hK.1
  have p3 := cell_of_row W0 W.heap.size 3 _ _ (0, 0) hK.1
  have p4 := cell_of_row W0 W.heap.size 4 _ _ (0, 0) hK.1
  have HX := Lib.hid (And.intro hlt (And.intro b1 (And.intro hK (hs.below b1))))
  have HNe := Lib.hid hne
  clear hlt b1 hK hs hne
  go_enter Tryz.func11, Tryz.ntmps11
  go_upto_region 1 with fail
  rw [← hW0]
  clear hW0
  go_wp2_with fail
  refine (HOf.out _ HX.out.2.1).mono ?_
  rintro _ w2 ⟨rfl, b2⟩
  have hK2 := And.intro ((b2.block _ (by have := HX.out.1; omega)).trans HX.out.2.2.1.1) ((b2.block _ HX.out.1).trans HX.out.2.2.1.2)
  have hb2 : Below W.heap.size W w2 := HX.out.2.1.trans (b2.mono HX.out.2.1.size)
  have hlt2 : W.heap.size + 1 < w2.heap.size := (Array.getElem?_eq_some_iff.1 hK2.2).1
  have hs2 := HX.out.2.2.2.below b2
  have H2 := Lib.hid (And.intro hlt2 (And.intro hb2 (And.intro hK2 hs2)))
  have r0 := cell_of_row w2 W.heap.size 0 _ _ (0, 0) hK2.1
  have r1 := cell_of_row w2 W.heap.size 1 _ _ (0, 0) hK2.1
  have r2 := cell_of_row w2 W.heap.size 2 _ _ (0, 0) hK2.1
  have r3 := cell_of_row w2 W.heap.size 3 _ _ (0, 0) hK2.1
  have r4 := cell_of_row w2 W.heap.size 4 _ _ (0, 0) hK2.1
  clear b2 hK2 hb2 hlt2 hs2 HX p2 p3 p4
  go_wp2_with fail
  refine (HIn.out _ H2.out.2.2.2).mono ?_
  rintro _ w3 ⟨rfl, h3, hO3⟩
  have hK3 := box_off H2.out.2.2.1.2 hO3 (by have := HNe.out; omega) (by have := HNe.out; omega)
  have hO : Only2 S B W w3 := (Only2.of_below H2.out.2.1).trans hO3
  have c0 := cell_of_row w3 (W.heap.size + 1) 0 _ _ (0, 0) hK3
  have c1 := cell_of_row w3 (W.heap.size + 1) 1 _ _ (0, 0) hK3
  have c2 := cell_of_row w3 (W.heap.size + 1) 2 _ _ (0, 0) hK3
  have c3 := cell_of_row w3 (W.heap.size + 1) 3 _ _ (0, 0) hK3
  have f3 : ∀ i, w3.frozen? ⟨W.heap.size + 1, i, none⟩ = false := fun i => by simp [World.frozen?, hK3]
  have hs := row_set4 (.int .i64 r) (.int .u64 0) (.int .u64 0) (.int .u64 0) rfl hK3
  have hO4 : Only2 S B W ((((w3.setCell ⟨W.heap.size + 1, 0, none⟩ (.int .i64 r)).setCell ⟨W.heap.size + 1, 1, none⟩ (.int .u64 0)).setCell ⟨W.heap.size + 1, 2, none⟩ (.int .u64 0)).setCell ⟨W.heap.size + 1, 3, none⟩ (.int .u64 0)) := (((hO.setNew (Nat.le_succ _) 0 _).setNew (Nat.le_succ _) 1 _).setNew (Nat.le_succ _) 2 _).setNew (Nat.le_succ _) 3 _
  have hs4 : ShIs ((((w3.setCell ⟨W.heap.size + 1, 0, none⟩ (.int .i64 r)).setCell ⟨W.heap.size + 1, 1, none⟩ (.int .u64 0)).setCell ⟨W.heap.size + 1, 2, none⟩ (.int .u64 0)).setCell ⟨W.heap.size + 1, 3, none⟩ (.int .u64 0)) S B room L.1 L.2 0 := ⟨(hs.2.1 S (by have := HNe.out; omega)).trans h3.box, (hs.2.1 B (by have := HNe.out; omega)).trans h3.map⟩
  have HY := Lib.hid (And.intro hs.1 (And.intro hs4 hO4))
  clear hs hO4 hs4 h3 hO3 hO hK3 H2 HIn HOf HNe
  go_wp2
  generalize ((((w3.setCell ⟨W.heap.size + 1, 0, none⟩ (.int .i64 r)).setCell ⟨W.heap.size + 1, 1, none⟩ (.int .u64 0)).setCell ⟨W.heap.size + 1, 2, none⟩ (.int .u64 0)).setCell ⟨W.heap.size + 1, 3, none⟩ (.int .u64 0)) = V4 at HY ⊢
  have u0 := cell_of_row V4 (W.heap.size + 1) 0 _ _ (0, 0) HY.out.1
  have u1 := cell_of_row V4 (W.heap.size + 1) 1 _ _ (0, 0) HY.out.1
  have u2 := cell_of_row V4 (W.heap.size + 1) 2 _ _ (0, 0) HY.out.1
  have u3 := cell_of_row V4 (W.heap.size + 1) 3 _ _ (0, 0) HY.out.1
  simp [bodyPost, results, Tryz.results11, go_sem, u0, u1, u2, u3]
  exact HY.out.2
set_option maxRecDepth 20000 in
set_option maxHeartbeats 2000000 in
theorem xdo_claim {W : World} {T : Nat} (who : Int) (k : K3) (sd ac ep nn : Int) (S B : Nat) (room : Int) (l : List Ms) (clock : Nat) (r : Int) (L : List Ms × Nat)
    (hof : ∀ V, Below W.heap.size W V → Calls Tryz.prog 31 #[.pointer (some ⟨T, 0, none⟩), k.val] V fun e w' => e = .returned (.pointer (some ⟨S, 0, none⟩)) ∧ Below V.heap.size V w')
    (hop : ∀ V, ShIs V S B room l clock 0 → Calls Tryz.prog 52 #[.pointer (some ⟨S, 0, none⟩), k.val, .int .i64 who] V fun e w' => e = .returned (.int .i64 r) ∧ ShIs w' S B room L.1 L.2 0 ∧ Only2 S B V w')
    (hs : ShIs W S B room l clock 0) :
    Calls Tryz.prog 11 #[.pointer (some ⟨T, 0, none⟩), opV 2 who k sd ac ep nn] W fun e w' => e = .returned (retV r) ∧ ShIs w' S B room L.1 L.2 0 ∧ Only2 S B W w' := by
  have HOf := Lib.hid hof
  have HOp := Lib.hid hop
  have HNe := Lib.hid (And.intro hs.ltS hs.ltB)
  clear hof hop
  unfold retV
  obtain ⟨kc, kf, ks⟩ := k
  unfold opV
  unfold K3.val at HOf HOp
  dsimp only at HOf HOp
  have hK := heap_two W (.cells #[.int .i64 2, .int .i64 who, .int .i64 kc, .int .i64 kf, .int .u64 ks, .int .i64 sd, .int .i64 ac, .int .u64 ep, .int .u64 nn] 43) (.cells #[.int .i64 0, .int .u64 0, .int .u64 0, .int .u64 0] 38)
  have b1 := below_two W (.cells #[.int .i64 2, .int .i64 who, .int .i64 kc, .int .i64 kf, .int .u64 ks, .int .i64 sd, .int .i64 ac, .int .u64 ep, .int .u64 nn] 43) (.cells #[.int .i64 0, .int .u64 0, .int .u64 0, .int .u64 0] 38)
  obtain ⟨W0, hW0⟩ : ∃ X, X = (W.alloc (.cells #[.int .i64 2, .int .i64 who, .int .i64 kc, .int .i64 kf, .int .u64 ks, .int .i64 sd, .int .i64 ac, .int .u64 ep, .int .u64 nn] 43)).alloc (.cells #[.int .i64 0, .int .u64 0, .int .u64 0, .int .u64 0] 38) := ⟨_, rfl⟩
  dsimp only
  rw [← hW0] at hK b1
  have hlt : W.heap.size + 1 < W0.heap.size := (Array.getElem?_eq_some_iff.1 hK.2).1
  have p2 := cell_of_row W0 W.heap.size 2 _ _ (0, 0) hK.1
  have p3 := cell_of_row W0 W.heap.size 3 _ _ (0, 0) hK.1
  have p4 := cell_of_row W0 W.heap.size 4 _ _ (0, 0) hK.1
  have HX := Lib.hid (And.intro hlt (And.intro b1 (And.intro hK (hs.below b1))))
  clear hlt b1 hK hs
  go_enter Tryz.func11, Tryz.ntmps11
  go_upto_region 1 with fail
  rw [← hW0]
  clear hW0
  go_wp2_with fail
  refine (HOf.out _ HX.out.2.1).mono ?_
  rintro _ w2 ⟨rfl, b2⟩
  have hK2 := And.intro ((b2.block _ (by have := HX.out.1; omega)).trans HX.out.2.2.1.1) ((b2.block _ HX.out.1).trans HX.out.2.2.1.2)
  have hb2 : Below W.heap.size W w2 := HX.out.2.1.trans (b2.mono HX.out.2.1.size)
  have hlt2 : W.heap.size + 1 < w2.heap.size := (Array.getElem?_eq_some_iff.1 hK2.2).1
  have hs2 := HX.out.2.2.2.below b2
  have H2 := Lib.hid (And.intro hlt2 (And.intro hb2 (And.intro hK2 hs2)))
  have p0 := cell_of_row w2 W.heap.size 0 _ _ (0, 0) hK2.1
  have p1 := cell_of_row w2 W.heap.size 1 _ _ (0, 0) hK2.1
  have p2' := cell_of_row w2 W.heap.size 2 _ _ (0, 0) hK2.1
  have p3' := cell_of_row w2 W.heap.size 3 _ _ (0, 0) hK2.1
  have p4' := cell_of_row w2 W.heap.size 4 _ _ (0, 0) hK2.1
  clear b2 hK2 hb2 hlt2 hs2 HX HOf p2 p3 p4
  go_upto_region 11 with fail
  refine wp_region_held_drew (S := (fun V => V.heap[W.heap.size]? = some (.cells #[.int .i64 2, .int .i64 who, .int .i64 kc, .int .i64 kf, .int .u64 ks, .int .i64 sd, .int .i64 ac, .int .u64 ep, .int .u64 nn] 43 (0, 0)) ∧ ∃ e, V.heap[W.heap.size + 1]? = some (.cells #[.int .i64 e, .int .u64 0, .int .u64 0, .int .u64 0] 38 (0, 0)))) (by kernel_rfl) ⟨H2.out.2.2.1.1, 0, H2.out.2.2.1.2⟩ (fun hHeld => ?_)
  refine wpAnyH_take (i := 0) (oi := _) (v := ?_) rfl (by kernel_rfl) (by kernel_rfl) (by kernel_rfl) (fun _ _ _ h => h) (Or.inl ⟨by rfl, ?_⟩) (by assumption) ?_
  rotate_left
  · (intro W hSw; (try dsimp only at hSw); go_simp; try with_reducible rfl)
  try simp only [Act.put, List.getElem_toArray, List.getElem_cons_zero, List.setIfInBounds_toArray, List.set_cons_zero, List.set_cons_succ]
  refine wpAnyH_take (i := 1) (oi := _) (v := ?_) rfl (by kernel_rfl) (by kernel_rfl) (by kernel_rfl) (fun _ _ _ h => h) (Or.inl ⟨by rfl, ?_⟩) (by assumption) ?_
  rotate_left
  · (intro W hSw; (try dsimp only at hSw); go_simp; try with_reducible rfl)
  try simp only [Act.put, List.getElem_toArray, List.getElem_cons_succ, List.getElem_cons_zero, List.setIfInBounds_toArray, List.set_cons_zero, List.set_cons_succ]
  refine wpAnyH_take (i := 2) (oi := _) (v := ?_) rfl (by kernel_rfl) (by kernel_rfl) (by kernel_rfl) (fun _ _ _ h => h) (Or.inl ⟨by rfl, ?_⟩) (by assumption) ?_
  rotate_left
  · (intro V hSw; have q0 := cell_of_row V W.heap.size 0 _ _ (0, 0) hSw.1; have q1 := cell_of_row V W.heap.size 1 _ _ (0, 0) hSw.1; have q2 := cell_of_row V W.heap.size 2 _ _ (0, 0) hSw.1; have q3 := cell_of_row V W.heap.size 3 _ _ (0, 0) hSw.1; have q4 := cell_of_row V W.heap.size 4 _ _ (0, 0) hSw.1; clear hSw; go_simp; try with_reducible rfl)
  try simp only [Act.put, List.getElem_toArray, List.getElem_cons_succ, List.getElem_cons_zero, List.setIfInBounds_toArray, List.set_cons_zero, List.set_cons_succ]
  refine wpAnyH_take (i := 4) (oi := _) (v := ?_) rfl (by kernel_rfl) (by kernel_rfl) (by kernel_rfl) (fun _ _ _ h => h) (Or.inl ⟨by rfl, ?_⟩) (by assumption) ?_
  rotate_left
  · (intro W hSw; (try dsimp only at hSw); go_simp; try with_reducible rfl)
  try simp only [Act.put, List.getElem_toArray, List.getElem_cons_succ, List.getElem_cons_zero, List.setIfInBounds_toArray, List.set_cons_zero, List.set_cons_succ]
  refine wpAnyH_take (i := 5) (oi := _) (v := ?_) rfl (by kernel_rfl) (by kernel_rfl) (by kernel_rfl) (fun _ _ _ h => h) (Or.inl ⟨by rfl, ?_⟩) (by assumption) ?_
  rotate_left
  · (intro V hSw; have q0 := cell_of_row V W.heap.size 0 _ _ (0, 0) hSw.1; have q1 := cell_of_row V W.heap.size 1 _ _ (0, 0) hSw.1; have q2 := cell_of_row V W.heap.size 2 _ _ (0, 0) hSw.1; have q3 := cell_of_row V W.heap.size 3 _ _ (0, 0) hSw.1; have q4 := cell_of_row V W.heap.size 4 _ _ (0, 0) hSw.1; clear hSw; go_simp; try with_reducible rfl)
  try simp only [Act.put, List.getElem_toArray, List.getElem_cons_succ, List.getElem_cons_zero, List.setIfInBounds_toArray, List.set_cons_zero, List.set_cons_succ]
  refine wpAnyH_take (i := 6) (oi := _) (v := ?_) rfl (by kernel_rfl) (by kernel_rfl) (by kernel_rfl) (fun _ _ _ h => h) (Or.inl ⟨by rfl, ?_⟩) (by assumption) ?_
  rotate_left
  · (intro W hSw; (try dsimp only at hSw); go_simp; try with_reducible rfl)
  try simp only [Act.put, List.getElem_toArray, List.getElem_cons_succ, List.getElem_cons_zero, List.setIfInBounds_toArray, List.set_cons_zero, List.set_cons_succ]
  refine wpAnyH_take (i := 7) (oi := _) (v := ?_) rfl (by kernel_rfl) (by kernel_rfl) (by kernel_rfl) (fun _ _ _ h => h) (Or.inl ⟨by rfl, ?_⟩) (by assumption) ?_
  rotate_left
  · (intro V hSw; have q0 := cell_of_row V W.heap.size 0 _ _ (0, 0) hSw.1; have q1 := cell_of_row V W.heap.size 1 _ _ (0, 0) hSw.1; have q2 := cell_of_row V W.heap.size 2 _ _ (0, 0) hSw.1; have q3 := cell_of_row V W.heap.size 3 _ _ (0, 0) hSw.1; have q4 := cell_of_row V W.heap.size 4 _ _ (0, 0) hSw.1; clear hSw; go_simp; try with_reducible rfl)
  try simp only [Act.put, List.getElem_toArray, List.getElem_cons_succ, List.getElem_cons_zero, List.setIfInBounds_toArray, List.set_cons_zero, List.set_cons_succ]
  refine wpAnyH_ready (rs := [3]) (by kernel_rfl) (by simp) ?_
  refine AllReadyH.cons rfl (fun K hK => ?_) AllReadyH.nil
  simp only [List.getElem_toArray, List.getElem_cons_succ, List.getElem_cons_zero]
  rw [if_pos (by rfl)]
  go_simp
  refine (byClaim (some ⟨S, 0, none⟩) _).mono ?_
  rintro _ w3 ⟨rfl, rfl⟩
  go_wp2_with fail
  refine hK.out _ _ hHeld (fun hHeld => ?_)
  clear hK K
  try simp only [Act.put, List.getElem_toArray, List.getElem_cons_succ, List.getElem_cons_zero, List.setIfInBounds_toArray, List.set_cons_zero, List.set_cons_succ]
  refine wpAnyH_ready (rs := [8]) (by kernel_rfl) (by simp) ?_
  refine AllReadyH.cons rfl (fun K hK => ?_) AllReadyH.nil
  simp only [List.getElem_toArray, List.getElem_cons_succ, List.getElem_cons_zero]
  rw [if_pos (by rfl)]
  go_simp
  refine (HOp.out w2.drew ⟨H2.out.2.2.2.box, H2.out.2.2.2.map⟩).mono ?_
  rintro _ w4 ⟨rfl, h4, hO4⟩
  go_wp2_with fail
  refine hK.out _ _ ⟨box_off hHeld.1 hO4 (by have := HNe.out; omega) (by have := HNe.out; omega), hHeld.2.imp fun _ h => box_off h hO4 (by have := HNe.out; omega) (by have := HNe.out; omega)⟩ (fun hHeld => ?_)
  clear hK K
  try simp only [Act.put, List.getElem_toArray, List.getElem_cons_succ, List.getElem_cons_zero, List.setIfInBounds_toArray, List.set_cons_zero, List.set_cons_succ]
  refine wpAnyH_take (i := 9) (oi := _) (v := ?_) rfl (by kernel_rfl) (by kernel_rfl) (by kernel_rfl) (fun _ _ _ h => h) (Or.inl ⟨by rfl, ?_⟩) (by assumption) ?_
  rotate_left
  · (intro W hSw; (try dsimp only at hSw); go_simp; try with_reducible rfl)
  try simp only [Act.put, List.getElem_toArray, List.getElem_cons_succ, List.getElem_cons_zero, List.setIfInBounds_toArray, List.set_cons_zero, List.set_cons_succ]
  obtain ⟨e0, hE⟩ := hHeld.2
  have c0 := cell_of_row w4 (W.heap.size + 1) 0 _ _ (0, 0) hE
  have c1 := cell_of_row w4 (W.heap.size + 1) 1 _ _ (0, 0) hE
  have c2 := cell_of_row w4 (W.heap.size + 1) 2 _ _ (0, 0) hE
  have c3 := cell_of_row w4 (W.heap.size + 1) 3 _ _ (0, 0) hE
  have f3 : ∀ i, w4.frozen? ⟨W.heap.size + 1, i, none⟩ = false := fun i => by simp [World.frozen?, hE]
  have hO : Only2 S B W w4 := ((Only2.of_below H2.out.2.1).drew).trans hO4
  have hs := row_set4 (.int .i64 r) (.int .u64 0) (.int .u64 0) (.int .u64 0) rfl hE
  have hO5 : Only2 S B W ((((w4.setCell ⟨W.heap.size + 1, 0, none⟩ (.int .i64 r)).setCell ⟨W.heap.size + 1, 1, none⟩ (.int .u64 0)).setCell ⟨W.heap.size + 1, 2, none⟩ (.int .u64 0)).setCell ⟨W.heap.size + 1, 3, none⟩ (.int .u64 0)) := (((hO.setNew (Nat.le_succ _) 0 _).setNew (Nat.le_succ _) 1 _).setNew (Nat.le_succ _) 2 _).setNew (Nat.le_succ _) 3 _
  have hs5 : ShIs ((((w4.setCell ⟨W.heap.size + 1, 0, none⟩ (.int .i64 r)).setCell ⟨W.heap.size + 1, 1, none⟩ (.int .u64 0)).setCell ⟨W.heap.size + 1, 2, none⟩ (.int .u64 0)).setCell ⟨W.heap.size + 1, 3, none⟩ (.int .u64 0)) S B room L.1 L.2 0 := ⟨(hs.2.1 S (by have := HNe.out; omega)).trans h4.box, (hs.2.1 B (by have := HNe.out; omega)).trans h4.map⟩
  have HS := Lib.hid (And.intro hs (And.intro hs5 hO5))
  clear hs hO5 hs5 hO h4 hO4
  refine wpAnyH_ready (rs := [10]) (by kernel_rfl) (by simp) ?_
  refine AllReadyH.cons rfl (fun K hK => ?_) AllReadyH.nil
  simp only [List.getElem_toArray, List.getElem_cons_succ, List.getElem_cons_zero]
  rw [if_pos (by rfl)]
  go_simp
  refine hK.out _ _ ⟨(HS.out.1.2.1 _ (by omega)).trans hHeld.1, r, HS.out.1.1⟩ (fun hHeld => ?_)
  clear hK K
  try simp only [Act.put, List.getElem_toArray, List.getElem_cons_succ, List.getElem_cons_zero, List.setIfInBounds_toArray, List.set_cons_zero, List.set_cons_succ]
  refine wpAnyH_done (by kernel_rfl) ?_ _
  have HY := Lib.hid (And.intro HS.out.1.1 HS.out.2)
  generalize ((((w4.setCell ⟨W.heap.size + 1, 0, none⟩ (.int .i64 r)).setCell ⟨W.heap.size + 1, 1, none⟩ (.int .u64 0)).setCell ⟨W.heap.size + 1, 2, none⟩ (.int .u64 0)).setCell ⟨W.heap.size + 1, 3, none⟩ (.int .u64 0)) = V4 at HY ⊢
  have r0 := cell_of_row V4 (W.heap.size + 1) 0 _ _ (0, 0) HY.out.1
  have r1 := cell_of_row V4 (W.heap.size + 1) 1 _ _ (0, 0) HY.out.1
  have r2 := cell_of_row V4 (W.heap.size + 1) 2 _ _ (0, 0) HY.out.1
  have r3 := cell_of_row V4 (W.heap.size + 1) 3 _ _ (0, 0) HY.out.1
  go_wp2
  simp [bodyPost, results, Tryz.results11, go_sem, r0, r1, r2, r3]
  exact HY.out.2
set_option maxRecDepth 20000 in
set_option maxHeartbeats 2000000 in
theorem xdo_release {W : World} {T : Nat} (who : Int) (k : K3) (sd ac ep nn : Int) (S B : Nat) (room : Int) (l : List Ms) (clock : Nat) (r : Int) (L : List Ms × Nat)
    (hof : ∀ V, Below W.heap.size W V → Calls Tryz.prog 31 #[.pointer (some ⟨T, 0, none⟩), k.val] V fun e w' => e = .returned (.pointer (some ⟨S, 0, none⟩)) ∧ Below V.heap.size V w')
    (hop : ∀ V, ShIs V S B room l clock 0 → Calls Tryz.prog 53 #[.pointer (some ⟨S, 0, none⟩), k.val, .int .i64 who] V fun e w' => e = .returned (.int .i64 r) ∧ ShIs w' S B room L.1 L.2 0 ∧ Only2 S B V w')
    (hs : ShIs W S B room l clock 0) :
    Calls Tryz.prog 11 #[.pointer (some ⟨T, 0, none⟩), opV 3 who k sd ac ep nn] W fun e w' => e = .returned (retV r) ∧ ShIs w' S B room L.1 L.2 0 ∧ Only2 S B W w' := by
  have HOf := Lib.hid hof
  have HOp := Lib.hid hop
  have HNe := Lib.hid (And.intro hs.ltS hs.ltB)
  clear hof hop
  unfold retV
  obtain ⟨kc, kf, ks⟩ := k
  unfold opV
  unfold K3.val at HOf HOp
  dsimp only at HOf HOp
  have hK := heap_two W (.cells #[.int .i64 3, .int .i64 who, .int .i64 kc, .int .i64 kf, .int .u64 ks, .int .i64 sd, .int .i64 ac, .int .u64 ep, .int .u64 nn] 43) (.cells #[.int .i64 0, .int .u64 0, .int .u64 0, .int .u64 0] 38)
  have b1 := below_two W (.cells #[.int .i64 3, .int .i64 who, .int .i64 kc, .int .i64 kf, .int .u64 ks, .int .i64 sd, .int .i64 ac, .int .u64 ep, .int .u64 nn] 43) (.cells #[.int .i64 0, .int .u64 0, .int .u64 0, .int .u64 0] 38)
  obtain ⟨W0, hW0⟩ : ∃ X, X = (W.alloc (.cells #[.int .i64 3, .int .i64 who, .int .i64 kc, .int .i64 kf, .int .u64 ks, .int .i64 sd, .int .i64 ac, .int .u64 ep, .int .u64 nn] 43)).alloc (.cells #[.int .i64 0, .int .u64 0, .int .u64 0, .int .u64 0] 38) := ⟨_, rfl⟩
  dsimp only
  rw [← hW0] at hK b1
  have hlt : W.heap.size + 1 < W0.heap.size := (Array.getElem?_eq_some_iff.1 hK.2).1
  have p2 := cell_of_row W0 W.heap.size 2 _ _ (0, 0) hK.1
  have p3 := cell_of_row W0 W.heap.size 3 _ _ (0, 0) hK.1
  have p4 := cell_of_row W0 W.heap.size 4 _ _ (0, 0) hK.1
  have HX := Lib.hid (And.intro hlt (And.intro b1 (And.intro hK (hs.below b1))))
  clear hlt b1 hK hs
  go_enter Tryz.func11, Tryz.ntmps11
  go_upto_region 1 with fail
  rw [← hW0]
  clear hW0
  go_wp2_with fail
  refine (HOf.out _ HX.out.2.1).mono ?_
  rintro _ w2 ⟨rfl, b2⟩
  have hK2 := And.intro ((b2.block _ (by have := HX.out.1; omega)).trans HX.out.2.2.1.1) ((b2.block _ HX.out.1).trans HX.out.2.2.1.2)
  have hb2 : Below W.heap.size W w2 := HX.out.2.1.trans (b2.mono HX.out.2.1.size)
  have hlt2 : W.heap.size + 1 < w2.heap.size := (Array.getElem?_eq_some_iff.1 hK2.2).1
  have hs2 := HX.out.2.2.2.below b2
  have H2 := Lib.hid (And.intro hlt2 (And.intro hb2 (And.intro hK2 hs2)))
  have p0 := cell_of_row w2 W.heap.size 0 _ _ (0, 0) hK2.1
  have p1 := cell_of_row w2 W.heap.size 1 _ _ (0, 0) hK2.1
  have p2' := cell_of_row w2 W.heap.size 2 _ _ (0, 0) hK2.1
  have p3' := cell_of_row w2 W.heap.size 3 _ _ (0, 0) hK2.1
  have p4' := cell_of_row w2 W.heap.size 4 _ _ (0, 0) hK2.1
  clear b2 hK2 hb2 hlt2 hs2 HX HOf p2 p3 p4
  go_upto_region 11 with fail
  refine wp_region_held_drew (S := (fun V => V.heap[W.heap.size]? = some (.cells #[.int .i64 3, .int .i64 who, .int .i64 kc, .int .i64 kf, .int .u64 ks, .int .i64 sd, .int .i64 ac, .int .u64 ep, .int .u64 nn] 43 (0, 0)) ∧ ∃ e, V.heap[W.heap.size + 1]? = some (.cells #[.int .i64 e, .int .u64 0, .int .u64 0, .int .u64 0] 38 (0, 0)))) (by kernel_rfl) ⟨H2.out.2.2.1.1, 0, H2.out.2.2.1.2⟩ (fun hHeld => ?_)
  refine wpAnyH_take (i := 0) (oi := _) (v := ?_) rfl (by kernel_rfl) (by kernel_rfl) (by kernel_rfl) (fun _ _ _ h => h) (Or.inl ⟨by rfl, ?_⟩) (by assumption) ?_
  rotate_left
  · (intro W hSw; (try dsimp only at hSw); go_simp; try with_reducible rfl)
  try simp only [Act.put, List.getElem_toArray, List.getElem_cons_zero, List.setIfInBounds_toArray, List.set_cons_zero, List.set_cons_succ]
  refine wpAnyH_take (i := 1) (oi := _) (v := ?_) rfl (by kernel_rfl) (by kernel_rfl) (by kernel_rfl) (fun _ _ _ h => h) (Or.inl ⟨by rfl, ?_⟩) (by assumption) ?_
  rotate_left
  · (intro W hSw; (try dsimp only at hSw); go_simp; try with_reducible rfl)
  try simp only [Act.put, List.getElem_toArray, List.getElem_cons_succ, List.getElem_cons_zero, List.setIfInBounds_toArray, List.set_cons_zero, List.set_cons_succ]
  refine wpAnyH_take (i := 2) (oi := _) (v := ?_) rfl (by kernel_rfl) (by kernel_rfl) (by kernel_rfl) (fun _ _ _ h => h) (Or.inl ⟨by rfl, ?_⟩) (by assumption) ?_
  rotate_left
  · (intro V hSw; have q0 := cell_of_row V W.heap.size 0 _ _ (0, 0) hSw.1; have q1 := cell_of_row V W.heap.size 1 _ _ (0, 0) hSw.1; have q2 := cell_of_row V W.heap.size 2 _ _ (0, 0) hSw.1; have q3 := cell_of_row V W.heap.size 3 _ _ (0, 0) hSw.1; have q4 := cell_of_row V W.heap.size 4 _ _ (0, 0) hSw.1; clear hSw; go_simp; try with_reducible rfl)
  try simp only [Act.put, List.getElem_toArray, List.getElem_cons_succ, List.getElem_cons_zero, List.setIfInBounds_toArray, List.set_cons_zero, List.set_cons_succ]
  refine wpAnyH_take (i := 4) (oi := _) (v := ?_) rfl (by kernel_rfl) (by kernel_rfl) (by kernel_rfl) (fun _ _ _ h => h) (Or.inl ⟨by rfl, ?_⟩) (by assumption) ?_
  rotate_left
  · (intro W hSw; (try dsimp only at hSw); go_simp; try with_reducible rfl)
  try simp only [Act.put, List.getElem_toArray, List.getElem_cons_succ, List.getElem_cons_zero, List.setIfInBounds_toArray, List.set_cons_zero, List.set_cons_succ]
  refine wpAnyH_take (i := 5) (oi := _) (v := ?_) rfl (by kernel_rfl) (by kernel_rfl) (by kernel_rfl) (fun _ _ _ h => h) (Or.inl ⟨by rfl, ?_⟩) (by assumption) ?_
  rotate_left
  · (intro V hSw; have q0 := cell_of_row V W.heap.size 0 _ _ (0, 0) hSw.1; have q1 := cell_of_row V W.heap.size 1 _ _ (0, 0) hSw.1; have q2 := cell_of_row V W.heap.size 2 _ _ (0, 0) hSw.1; have q3 := cell_of_row V W.heap.size 3 _ _ (0, 0) hSw.1; have q4 := cell_of_row V W.heap.size 4 _ _ (0, 0) hSw.1; clear hSw; go_simp; try with_reducible rfl)
  try simp only [Act.put, List.getElem_toArray, List.getElem_cons_succ, List.getElem_cons_zero, List.setIfInBounds_toArray, List.set_cons_zero, List.set_cons_succ]
  refine wpAnyH_take (i := 6) (oi := _) (v := ?_) rfl (by kernel_rfl) (by kernel_rfl) (by kernel_rfl) (fun _ _ _ h => h) (Or.inl ⟨by rfl, ?_⟩) (by assumption) ?_
  rotate_left
  · (intro W hSw; (try dsimp only at hSw); go_simp; try with_reducible rfl)
  try simp only [Act.put, List.getElem_toArray, List.getElem_cons_succ, List.getElem_cons_zero, List.setIfInBounds_toArray, List.set_cons_zero, List.set_cons_succ]
  refine wpAnyH_take (i := 7) (oi := _) (v := ?_) rfl (by kernel_rfl) (by kernel_rfl) (by kernel_rfl) (fun _ _ _ h => h) (Or.inl ⟨by rfl, ?_⟩) (by assumption) ?_
  rotate_left
  · (intro V hSw; have q0 := cell_of_row V W.heap.size 0 _ _ (0, 0) hSw.1; have q1 := cell_of_row V W.heap.size 1 _ _ (0, 0) hSw.1; have q2 := cell_of_row V W.heap.size 2 _ _ (0, 0) hSw.1; have q3 := cell_of_row V W.heap.size 3 _ _ (0, 0) hSw.1; have q4 := cell_of_row V W.heap.size 4 _ _ (0, 0) hSw.1; clear hSw; go_simp; try with_reducible rfl)
  try simp only [Act.put, List.getElem_toArray, List.getElem_cons_succ, List.getElem_cons_zero, List.setIfInBounds_toArray, List.set_cons_zero, List.set_cons_succ]
  refine wpAnyH_ready (rs := [3]) (by kernel_rfl) (by simp) ?_
  refine AllReadyH.cons rfl (fun K hK => ?_) AllReadyH.nil
  simp only [List.getElem_toArray, List.getElem_cons_succ, List.getElem_cons_zero]
  rw [if_pos (by rfl)]
  go_simp
  refine (byRelease (some ⟨S, 0, none⟩) _).mono ?_
  rintro _ w3 ⟨rfl, rfl⟩
  go_wp2_with fail
  refine hK.out _ _ hHeld (fun hHeld => ?_)
  clear hK K
  try simp only [Act.put, List.getElem_toArray, List.getElem_cons_succ, List.getElem_cons_zero, List.setIfInBounds_toArray, List.set_cons_zero, List.set_cons_succ]
  refine wpAnyH_ready (rs := [8]) (by kernel_rfl) (by simp) ?_
  refine AllReadyH.cons rfl (fun K hK => ?_) AllReadyH.nil
  simp only [List.getElem_toArray, List.getElem_cons_succ, List.getElem_cons_zero]
  rw [if_pos (by rfl)]
  go_simp
  refine (HOp.out w2.drew ⟨H2.out.2.2.2.box, H2.out.2.2.2.map⟩).mono ?_
  rintro _ w4 ⟨rfl, h4, hO4⟩
  go_wp2_with fail
  refine hK.out _ _ ⟨box_off hHeld.1 hO4 (by have := HNe.out; omega) (by have := HNe.out; omega), hHeld.2.imp fun _ h => box_off h hO4 (by have := HNe.out; omega) (by have := HNe.out; omega)⟩ (fun hHeld => ?_)
  clear hK K
  try simp only [Act.put, List.getElem_toArray, List.getElem_cons_succ, List.getElem_cons_zero, List.setIfInBounds_toArray, List.set_cons_zero, List.set_cons_succ]
  refine wpAnyH_take (i := 9) (oi := _) (v := ?_) rfl (by kernel_rfl) (by kernel_rfl) (by kernel_rfl) (fun _ _ _ h => h) (Or.inl ⟨by rfl, ?_⟩) (by assumption) ?_
  rotate_left
  · (intro W hSw; (try dsimp only at hSw); go_simp; try with_reducible rfl)
  try simp only [Act.put, List.getElem_toArray, List.getElem_cons_succ, List.getElem_cons_zero, List.setIfInBounds_toArray, List.set_cons_zero, List.set_cons_succ]
  obtain ⟨e0, hE⟩ := hHeld.2
  have c0 := cell_of_row w4 (W.heap.size + 1) 0 _ _ (0, 0) hE
  have c1 := cell_of_row w4 (W.heap.size + 1) 1 _ _ (0, 0) hE
  have c2 := cell_of_row w4 (W.heap.size + 1) 2 _ _ (0, 0) hE
  have c3 := cell_of_row w4 (W.heap.size + 1) 3 _ _ (0, 0) hE
  have f3 : ∀ i, w4.frozen? ⟨W.heap.size + 1, i, none⟩ = false := fun i => by simp [World.frozen?, hE]
  have hO : Only2 S B W w4 := ((Only2.of_below H2.out.2.1).drew).trans hO4
  have hs := row_set4 (.int .i64 r) (.int .u64 0) (.int .u64 0) (.int .u64 0) rfl hE
  have hO5 : Only2 S B W ((((w4.setCell ⟨W.heap.size + 1, 0, none⟩ (.int .i64 r)).setCell ⟨W.heap.size + 1, 1, none⟩ (.int .u64 0)).setCell ⟨W.heap.size + 1, 2, none⟩ (.int .u64 0)).setCell ⟨W.heap.size + 1, 3, none⟩ (.int .u64 0)) := (((hO.setNew (Nat.le_succ _) 0 _).setNew (Nat.le_succ _) 1 _).setNew (Nat.le_succ _) 2 _).setNew (Nat.le_succ _) 3 _
  have hs5 : ShIs ((((w4.setCell ⟨W.heap.size + 1, 0, none⟩ (.int .i64 r)).setCell ⟨W.heap.size + 1, 1, none⟩ (.int .u64 0)).setCell ⟨W.heap.size + 1, 2, none⟩ (.int .u64 0)).setCell ⟨W.heap.size + 1, 3, none⟩ (.int .u64 0)) S B room L.1 L.2 0 := ⟨(hs.2.1 S (by have := HNe.out; omega)).trans h4.box, (hs.2.1 B (by have := HNe.out; omega)).trans h4.map⟩
  have HS := Lib.hid (And.intro hs (And.intro hs5 hO5))
  clear hs hO5 hs5 hO h4 hO4
  refine wpAnyH_ready (rs := [10]) (by kernel_rfl) (by simp) ?_
  refine AllReadyH.cons rfl (fun K hK => ?_) AllReadyH.nil
  simp only [List.getElem_toArray, List.getElem_cons_succ, List.getElem_cons_zero]
  rw [if_pos (by rfl)]
  go_simp
  refine hK.out _ _ ⟨(HS.out.1.2.1 _ (by omega)).trans hHeld.1, r, HS.out.1.1⟩ (fun hHeld => ?_)
  clear hK K
  try simp only [Act.put, List.getElem_toArray, List.getElem_cons_succ, List.getElem_cons_zero, List.setIfInBounds_toArray, List.set_cons_zero, List.set_cons_succ]
  refine wpAnyH_done (by kernel_rfl) ?_ _
  have HY := Lib.hid (And.intro HS.out.1.1 HS.out.2)
  generalize ((((w4.setCell ⟨W.heap.size + 1, 0, none⟩ (.int .i64 r)).setCell ⟨W.heap.size + 1, 1, none⟩ (.int .u64 0)).setCell ⟨W.heap.size + 1, 2, none⟩ (.int .u64 0)).setCell ⟨W.heap.size + 1, 3, none⟩ (.int .u64 0)) = V4 at HY ⊢
  have r0 := cell_of_row V4 (W.heap.size + 1) 0 _ _ (0, 0) HY.out.1
  have r1 := cell_of_row V4 (W.heap.size + 1) 1 _ _ (0, 0) HY.out.1
  have r2 := cell_of_row V4 (W.heap.size + 1) 2 _ _ (0, 0) HY.out.1
  have r3 := cell_of_row V4 (W.heap.size + 1) 3 _ _ (0, 0) HY.out.1
  go_wp2
  simp [bodyPost, results, Tryz.results11, go_sem, r0, r1, r2, r3]
  exact HY.out.2
set_option maxRecDepth 20000 in
set_option maxHeartbeats 2000000 in
theorem xget {W : World} {T : Nat} (k : K3) (S B : Nat) (room : Int) (l : List Ms) (clock : Nat)
    (hof : ∀ V, Below W.heap.size W V → Calls Tryz.prog 31 #[.pointer (some ⟨T, 0, none⟩), k.val] V fun e w' => e = .returned (.pointer (some ⟨S, 0, none⟩)) ∧ Below V.heap.size V w')
    (hs : ShIs W S B room l clock 0) :
    Calls Tryz.prog 18 #[.pointer (some ⟨T, 0, none⟩), k.val] W fun e w' => e = .returned (.tuple #[.agg ((entM k l).getD en0).cells, .bool (entM k l).isSome]) ∧ Only2 S B W w' := by
  have HOf := Lib.hid hof
  have HGe := Lib.hid (fun V hV => sget_any S B room l clock k V hV)
  have HNe := Lib.hid (And.intro hs.ltS hs.ltB)
  clear hof
  generalize (entM k l).getD en0 = x at HGe ⊢
  generalize (entM k l).isSome = b at HGe ⊢
  obtain ⟨kc, kf, ks⟩ := k
  obtain ⟨⟨xc, xf, xs⟩, xt, xo⟩ := x
  unfold K3.val at HOf HGe ⊢
  unfold En.cells at HGe ⊢
  dsimp only at HOf HGe ⊢
  have hK := heap_two W (.cells #[.int .i64 kc, .int .i64 kf, .int .u64 ks] 41) (.cells #[.int .i64 0, .int .i64 0, .int .u64 0, .int .i64 0, .int .i64 0] 54)
  have b1 := below_two W (.cells #[.int .i64 kc, .int .i64 kf, .int .u64 ks] 41) (.cells #[.int .i64 0, .int .i64 0, .int .u64 0, .int .i64 0, .int .i64 0] 54)
  obtain ⟨W0, hW0⟩ : ∃ X, X = (W.alloc (.cells #[.int .i64 kc, .int .i64 kf, .int .u64 ks] 41)).alloc (.cells #[.int .i64 0, .int .i64 0, .int .u64 0, .int .i64 0, .int .i64 0] 54) := ⟨_, rfl⟩
  rw [← hW0] at hK b1
  have hlt : W.heap.size + 1 < W0.heap.size := (Array.getElem?_eq_some_iff.1 hK.2).1
  have HX := Lib.hid (And.intro hlt (And.intro b1 (hs.below b1)))
  clear hlt b1 hs
  go_enter Tryz.func18, Tryz.ntmps18
  go_upto_region 1 with fail
  rw [← hW0]
  clear hW0
  refine wp_region_held_drew (S := (fun V => V.heap[W.heap.size]? = some (.cells #[.int .i64 kc, .int .i64 kf, .int .u64 ks] 41 (0, 0)) ∧ ∃ e9 : En, V.heap[W.heap.size + 1]? = some (.cells #[.int .i64 e9.k.c, .int .i64 e9.k.f, .int .u64 e9.k.s, .int .i64 e9.st, .int .i64 e9.ow] 54 (0, 0)))) (by kernel_rfl) ⟨hK.1, en0, hK.2⟩ (fun hHeld => ?_)
  refine wpAnyH_take (i := 0) (oi := _) (v := ?_) rfl (by kernel_rfl) (by kernel_rfl) (by kernel_rfl) (fun _ _ _ h => h) (Or.inl ⟨by rfl, ?_⟩) (by assumption) ?_
  rotate_left
  · (intro W hSw; (try dsimp only at hSw); go_simp; try with_reducible rfl)
  try simp only [Act.put, List.getElem_toArray, List.getElem_cons_zero, List.setIfInBounds_toArray, List.set_cons_zero, List.set_cons_succ]
  refine wpAnyH_take (i := 1) (oi := _) (v := ?_) rfl (by kernel_rfl) (by kernel_rfl) (by kernel_rfl) (fun _ _ _ h => h) (Or.inl ⟨by rfl, ?_⟩) (by assumption) ?_
  rotate_left
  · (intro V hSw; have q0 := cell_of_row V W.heap.size 0 _ _ (0, 0) hSw.1; have q1 := cell_of_row V W.heap.size 1 _ _ (0, 0) hSw.1; have q2 := cell_of_row V W.heap.size 2 _ _ (0, 0) hSw.1; clear hSw; go_simp; try with_reducible rfl)
  try simp only [Act.put, List.getElem_toArray, List.getElem_cons_succ, List.getElem_cons_zero, List.setIfInBounds_toArray, List.set_cons_zero, List.set_cons_succ]
  refine wpAnyH_take (i := 3) (oi := _) (v := ?_) rfl (by kernel_rfl) (by kernel_rfl) (by kernel_rfl) (fun _ _ _ h => h) (Or.inl ⟨by rfl, ?_⟩) (by assumption) ?_
  rotate_left
  · (intro V hSw; have q0 := cell_of_row V W.heap.size 0 _ _ (0, 0) hSw.1; have q1 := cell_of_row V W.heap.size 1 _ _ (0, 0) hSw.1; have q2 := cell_of_row V W.heap.size 2 _ _ (0, 0) hSw.1; clear hSw; go_simp; try with_reducible rfl)
  try simp only [Act.put, List.getElem_toArray, List.getElem_cons_succ, List.getElem_cons_zero, List.setIfInBounds_toArray, List.set_cons_zero, List.set_cons_succ]
  refine wpAnyH_ready (rs := [2]) (by kernel_rfl) (by simp) ?_
  refine AllReadyH.cons rfl (fun K hK => ?_) AllReadyH.nil
  simp only [List.getElem_toArray, List.getElem_cons_succ, List.getElem_cons_zero]
  rw [if_pos (by rfl)]
  go_simp
  refine (HOf.out _ HX.out.2.1.drew).mono ?_
  rintro _ w2 ⟨rfl, b2⟩
  go_wp2_with fail
  refine hK.out _ _ ⟨(b2.block _ (by have := HX.out.1; show _ < W0.heap.size; omega)).trans hHeld.1, hHeld.2.imp fun _ h => (b2.block _ HX.out.1).trans h⟩ (fun hHeld => ?_)
  clear hK K
  try simp only [Act.put, List.getElem_toArray, List.getElem_cons_succ, List.getElem_cons_zero, List.setIfInBounds_toArray, List.set_cons_zero, List.set_cons_succ]
  refine wpAnyH_ready (rs := [4]) (by kernel_rfl) (by simp) ?_
  refine AllReadyH.cons rfl (fun K hK => ?_) AllReadyH.nil
  simp only [List.getElem_toArray, List.getElem_cons_succ, List.getElem_cons_zero]
  rw [if_pos (by rfl)]
  go_simp
  have hs2 : ShIs w2 S B room l clock 0 := ShIs.below (W := W0.drew) ⟨HX.out.2.2.box, HX.out.2.2.map⟩ b2
  refine (HGe.out _ hs2).mono ?_
  rintro _ w3 ⟨rfl, hO3⟩
  go_wp2_with fail
  refine hK.out _ _ ⟨box_off hHeld.1 hO3 (by have := HNe.out; omega) (by have := HNe.out; omega), hHeld.2.imp fun _ h => box_off h hO3 (by have := HNe.out; omega) (by have := HNe.out; omega)⟩ (fun hHeld => ?_)
  clear hK K
  try simp only [Act.put, List.getElem_toArray, List.getElem_cons_succ, List.getElem_cons_zero, List.setIfInBounds_toArray, List.set_cons_zero, List.set_cons_succ]
  refine wpAnyH_take (i := 5) (oi := _) (v := ?_) rfl (by kernel_rfl) (by kernel_rfl) (by kernel_rfl) (fun _ _ _ h => h) (Or.inl ⟨by rfl, ?_⟩) (by assumption) ?_
  rotate_left
  · (intro W hSw; (try dsimp only at hSw); go_simp; try with_reducible rfl)
  try simp only [Act.put, List.getElem_toArray, List.getElem_cons_succ, List.getElem_cons_zero, List.setIfInBounds_toArray, List.set_cons_zero, List.set_cons_succ]
  refine wpAnyH_take (i := 6) (oi := _) (v := ?_) rfl (by kernel_rfl) (by kernel_rfl) (by kernel_rfl) (fun _ _ _ h => h) (Or.inl ⟨by rfl, ?_⟩) (by assumption) ?_
  rotate_left
  · (intro W hSw; (try dsimp only at hSw); go_simp; try with_reducible rfl)
  try simp only [Act.put, List.getElem_toArray, List.getElem_cons_succ, List.getElem_cons_zero, List.setIfInBounds_toArray, List.set_cons_zero, List.set_cons_succ]
  obtain ⟨e9, hE⟩ := hHeld.2
  have f3 : ∀ i, w3.frozen? ⟨W.heap.size + 1, i, none⟩ = false := fun i => by simp [World.frozen?, hE]
  have c0 := cell_of_row w3 (W.heap.size + 1) 0 _ _ (0, 0) hE
  have c1 := cell_of_row w3 (W.heap.size + 1) 1 _ _ (0, 0) hE
  have c2 := cell_of_row w3 (W.heap.size + 1) 2 _ _ (0, 0) hE
  have c3 := cell_of_row w3 (W.heap.size + 1) 3 _ _ (0, 0) hE
  have c4 := cell_of_row w3 (W.heap.size + 1) 4 _ _ (0, 0) hE
  have hs := row_set5 (.int .i64 xc) (.int .i64 xf) (.int .u64 xs) (.int .i64 xt) (.int .i64 xo) rfl hE
  have hO : Only2 S B W w3 := (((Only2.of_below HX.out.2.1).drew).trans (Only2.of_below b2)).trans hO3
  have hO5 : Only2 S B W (((((w3.setCell ⟨W.heap.size + 1, 0, none⟩ (.int .i64 xc)).setCell ⟨W.heap.size + 1, 1, none⟩ (.int .i64 xf)).setCell ⟨W.heap.size + 1, 2, none⟩ (.int .u64 xs)).setCell ⟨W.heap.size + 1, 3, none⟩ (.int .i64 xt)).setCell ⟨W.heap.size + 1, 4, none⟩ (.int .i64 xo)) := ((((hO.setNew (Nat.le_succ _) 0 _).setNew (Nat.le_succ _) 1 _).setNew (Nat.le_succ _) 2 _).setNew (Nat.le_succ _) 3 _).setNew (Nat.le_succ _) 4 _
  have HS := Lib.hid (And.intro hs hO5)
  clear hs hO hO5 hO3
  refine wpAnyH_ready (rs := [7]) (by kernel_rfl) (by simp) ?_
  refine AllReadyH.cons rfl (fun K hK => ?_) AllReadyH.nil
  simp only [List.getElem_toArray, List.getElem_cons_succ, List.getElem_cons_zero]
  rw [if_pos (by rfl)]
  go_simp
  refine hK.out _ _ ⟨(HS.out.1.2.1 _ (by omega)).trans hHeld.1, ⟨⟨xc, xf, xs⟩, xt, xo⟩, HS.out.1.1⟩ (fun hHeld => ?_)
  clear hK K
  try simp only [Act.put, List.getElem_toArray, List.getElem_cons_succ, List.getElem_cons_zero, List.setIfInBounds_toArray, List.set_cons_zero, List.set_cons_succ]
  refine wpAnyH_take (i := 8) (oi := _) (v := ?_) rfl (by kernel_rfl) (by kernel_rfl) (by kernel_rfl) (fun _ _ _ h => h) (Or.inl ⟨by rfl, ?_⟩) (by assumption) ?_
  rotate_left
  · (intro W hSw; (try dsimp only at hSw); go_simp; try with_reducible rfl)
  try simp only [Act.put, List.getElem_toArray, List.getElem_cons_succ, List.getElem_cons_zero, List.setIfInBounds_toArray, List.set_cons_zero, List.set_cons_succ]
  refine wpAnyH_done (by kernel_rfl) ?_ _
  have HY := Lib.hid (And.intro HS.out.1.1 HS.out.2)
  generalize (((((w3.setCell ⟨W.heap.size + 1, 0, none⟩ (.int .i64 xc)).setCell ⟨W.heap.size + 1, 1, none⟩ (.int .i64 xf)).setCell ⟨W.heap.size + 1, 2, none⟩ (.int .u64 xs)).setCell ⟨W.heap.size + 1, 3, none⟩ (.int .i64 xt)).setCell ⟨W.heap.size + 1, 4, none⟩ (.int .i64 xo)) = V4 at HY ⊢
  have r0 := cell_of_row V4 (W.heap.size + 1) 0 _ _ (0, 0) HY.out.1
  have r1 := cell_of_row V4 (W.heap.size + 1) 1 _ _ (0, 0) HY.out.1
  have r2 := cell_of_row V4 (W.heap.size + 1) 2 _ _ (0, 0) HY.out.1
  have r3 := cell_of_row V4 (W.heap.size + 1) 3 _ _ (0, 0) HY.out.1
  have r4 := cell_of_row V4 (W.heap.size + 1) 4 _ _ (0, 0) HY.out.1
  go_wp2
  simp [bodyPost, results, Tryz.results18, go_sem, r0, r1, r2, r3, r4]
  exact HY.out.2
end Go.Proofs.YtlpnecmcncekcaaGreat.Mk
/- A table whose 'of' is known: Do of a complete, an expire, of a kind that isn't. -/
namespace Go.Proofs.YtlpnecmcncekcaaGreat.Mk
open Go Go.RowKit Go.MuLone

set_option maxRecDepth 20000 in
set_option maxHeartbeats 2000000 in
theorem xdo_complete {W : World} {T : Nat} (who : Int) (k : K3) (sd ac ep nn : Int) (S B : Nat) (room : Int) (l : List Ms) (clock : Nat) (r : Int) (L : List Ms × Nat)
    (hof : ∀ V, Below W.heap.size W V → Calls Tryz.prog 31 #[.pointer (some ⟨T, 0, none⟩), k.val] V fun e w' => e = .returned (.pointer (some ⟨S, 0, none⟩)) ∧ Below V.heap.size V w')
    (hop : ∀ V, ShIs V S B room l clock 0 → Calls Tryz.prog 54 #[.pointer (some ⟨S, 0, none⟩), k.val, .int .i64 who] V fun e w' => e = .returned (.int .i64 r) ∧ ShIs w' S B room L.1 L.2 0 ∧ Only2 S B V w')
    (hs : ShIs W S B room l clock 0) :
    Calls Tryz.prog 11 #[.pointer (some ⟨T, 0, none⟩), opV 4 who k sd ac ep nn] W fun e w' => e = .returned (retV r) ∧ ShIs w' S B room L.1 L.2 0 ∧ Only2 S B W w' := by
  have HOf := Lib.hid hof
  have HOp := Lib.hid hop
  have HNe := Lib.hid (And.intro hs.ltS hs.ltB)
  clear hof hop
  unfold retV
  obtain ⟨kc, kf, ks⟩ := k
  unfold opV
  unfold K3.val at HOf HOp
  dsimp only at HOf HOp
  have hK := heap_two W (.cells #[.int .i64 4, .int .i64 who, .int .i64 kc, .int .i64 kf, .int .u64 ks, .int .i64 sd, .int .i64 ac, .int .u64 ep, .int .u64 nn] 43) (.cells #[.int .i64 0, .int .u64 0, .int .u64 0, .int .u64 0] 38)
  have b1 := below_two W (.cells #[.int .i64 4, .int .i64 who, .int .i64 kc, .int .i64 kf, .int .u64 ks, .int .i64 sd, .int .i64 ac, .int .u64 ep, .int .u64 nn] 43) (.cells #[.int .i64 0, .int .u64 0, .int .u64 0, .int .u64 0] 38)
  obtain ⟨W0, hW0⟩ : ∃ X, X = (W.alloc (.cells #[.int .i64 4, .int .i64 who, .int .i64 kc, .int .i64 kf, .int .u64 ks, .int .i64 sd, .int .i64 ac, .int .u64 ep, .int .u64 nn] 43)).alloc (.cells #[.int .i64 0, .int .u64 0, .int .u64 0, .int .u64 0] 38) := ⟨_, rfl⟩
  dsimp only
  rw [← hW0] at hK b1
  have hlt : W.heap.size + 1 < W0.heap.size := (Array.getElem?_eq_some_iff.1 hK.2).1
  have p2 := cell_of_row W0 W.heap.size 2 _ _ (0, 0) hK.1
  have p3 := cell_of_row W0 W.heap.size 3 _ _ (0, 0) hK.1
  have p4 := cell_of_row W0 W.heap.size 4 _ _ (0, 0) hK.1
  have HX := Lib.hid (And.intro hlt (And.intro b1 (And.intro hK (hs.below b1))))
  clear hlt b1 hK hs
  go_enter Tryz.func11, Tryz.ntmps11
  go_upto_region 1 with fail
  rw [← hW0]
  clear hW0
  go_wp2_with fail
  refine (HOf.out _ HX.out.2.1).mono ?_
  rintro _ w2 ⟨rfl, b2⟩
  have hK2 := And.intro ((b2.block _ (by have := HX.out.1; omega)).trans HX.out.2.2.1.1) ((b2.block _ HX.out.1).trans HX.out.2.2.1.2)
  have hb2 : Below W.heap.size W w2 := HX.out.2.1.trans (b2.mono HX.out.2.1.size)
  have hlt2 : W.heap.size + 1 < w2.heap.size := (Array.getElem?_eq_some_iff.1 hK2.2).1
  have hs2 := HX.out.2.2.2.below b2
  have H2 := Lib.hid (And.intro hlt2 (And.intro hb2 (And.intro hK2 hs2)))
  have p0 := cell_of_row w2 W.heap.size 0 _ _ (0, 0) hK2.1
  have p1 := cell_of_row w2 W.heap.size 1 _ _ (0, 0) hK2.1
  have p2' := cell_of_row w2 W.heap.size 2 _ _ (0, 0) hK2.1
  have p3' := cell_of_row w2 W.heap.size 3 _ _ (0, 0) hK2.1
  have p4' := cell_of_row w2 W.heap.size 4 _ _ (0, 0) hK2.1
  clear b2 hK2 hb2 hlt2 hs2 HX HOf p2 p3 p4
  go_upto_region 11 with fail
  refine wp_region_held_drew (S := (fun V => V.heap[W.heap.size]? = some (.cells #[.int .i64 4, .int .i64 who, .int .i64 kc, .int .i64 kf, .int .u64 ks, .int .i64 sd, .int .i64 ac, .int .u64 ep, .int .u64 nn] 43 (0, 0)) ∧ ∃ e, V.heap[W.heap.size + 1]? = some (.cells #[.int .i64 e, .int .u64 0, .int .u64 0, .int .u64 0] 38 (0, 0)))) (by kernel_rfl) ⟨H2.out.2.2.1.1, 0, H2.out.2.2.1.2⟩ (fun hHeld => ?_)
  refine wpAnyH_take (i := 0) (oi := _) (v := ?_) rfl (by kernel_rfl) (by kernel_rfl) (by kernel_rfl) (fun _ _ _ h => h) (Or.inl ⟨by rfl, ?_⟩) (by assumption) ?_
  rotate_left
  · (intro W hSw; (try dsimp only at hSw); go_simp; try with_reducible rfl)
  try simp only [Act.put, List.getElem_toArray, List.getElem_cons_zero, List.setIfInBounds_toArray, List.set_cons_zero, List.set_cons_succ]
  refine wpAnyH_take (i := 1) (oi := _) (v := ?_) rfl (by kernel_rfl) (by kernel_rfl) (by kernel_rfl) (fun _ _ _ h => h) (Or.inl ⟨by rfl, ?_⟩) (by assumption) ?_
  rotate_left
  · (intro W hSw; (try dsimp only at hSw); go_simp; try with_reducible rfl)
  try simp only [Act.put, List.getElem_toArray, List.getElem_cons_succ, List.getElem_cons_zero, List.setIfInBounds_toArray, List.set_cons_zero, List.set_cons_succ]
  refine wpAnyH_take (i := 2) (oi := _) (v := ?_) rfl (by kernel_rfl) (by kernel_rfl) (by kernel_rfl) (fun _ _ _ h => h) (Or.inl ⟨by rfl, ?_⟩) (by assumption) ?_
  rotate_left
  · (intro V hSw; have q0 := cell_of_row V W.heap.size 0 _ _ (0, 0) hSw.1; have q1 := cell_of_row V W.heap.size 1 _ _ (0, 0) hSw.1; have q2 := cell_of_row V W.heap.size 2 _ _ (0, 0) hSw.1; have q3 := cell_of_row V W.heap.size 3 _ _ (0, 0) hSw.1; have q4 := cell_of_row V W.heap.size 4 _ _ (0, 0) hSw.1; clear hSw; go_simp; try with_reducible rfl)
  try simp only [Act.put, List.getElem_toArray, List.getElem_cons_succ, List.getElem_cons_zero, List.setIfInBounds_toArray, List.set_cons_zero, List.set_cons_succ]
  refine wpAnyH_take (i := 4) (oi := _) (v := ?_) rfl (by kernel_rfl) (by kernel_rfl) (by kernel_rfl) (fun _ _ _ h => h) (Or.inl ⟨by rfl, ?_⟩) (by assumption) ?_
  rotate_left
  · (intro W hSw; (try dsimp only at hSw); go_simp; try with_reducible rfl)
  try simp only [Act.put, List.getElem_toArray, List.getElem_cons_succ, List.getElem_cons_zero, List.setIfInBounds_toArray, List.set_cons_zero, List.set_cons_succ]
  refine wpAnyH_take (i := 5) (oi := _) (v := ?_) rfl (by kernel_rfl) (by kernel_rfl) (by kernel_rfl) (fun _ _ _ h => h) (Or.inl ⟨by rfl, ?_⟩) (by assumption) ?_
  rotate_left
  · (intro V hSw; have q0 := cell_of_row V W.heap.size 0 _ _ (0, 0) hSw.1; have q1 := cell_of_row V W.heap.size 1 _ _ (0, 0) hSw.1; have q2 := cell_of_row V W.heap.size 2 _ _ (0, 0) hSw.1; have q3 := cell_of_row V W.heap.size 3 _ _ (0, 0) hSw.1; have q4 := cell_of_row V W.heap.size 4 _ _ (0, 0) hSw.1; clear hSw; go_simp; try with_reducible rfl)
  try simp only [Act.put, List.getElem_toArray, List.getElem_cons_succ, List.getElem_cons_zero, List.setIfInBounds_toArray, List.set_cons_zero, List.set_cons_succ]
  refine wpAnyH_take (i := 6) (oi := _) (v := ?_) rfl (by kernel_rfl) (by kernel_rfl) (by kernel_rfl) (fun _ _ _ h => h) (Or.inl ⟨by rfl, ?_⟩) (by assumption) ?_
  rotate_left
  · (intro W hSw; (try dsimp only at hSw); go_simp; try with_reducible rfl)
  try simp only [Act.put, List.getElem_toArray, List.getElem_cons_succ, List.getElem_cons_zero, List.setIfInBounds_toArray, List.set_cons_zero, List.set_cons_succ]
  refine wpAnyH_take (i := 7) (oi := _) (v := ?_) rfl (by kernel_rfl) (by kernel_rfl) (by kernel_rfl) (fun _ _ _ h => h) (Or.inl ⟨by rfl, ?_⟩) (by assumption) ?_
  rotate_left
  · (intro V hSw; have q0 := cell_of_row V W.heap.size 0 _ _ (0, 0) hSw.1; have q1 := cell_of_row V W.heap.size 1 _ _ (0, 0) hSw.1; have q2 := cell_of_row V W.heap.size 2 _ _ (0, 0) hSw.1; have q3 := cell_of_row V W.heap.size 3 _ _ (0, 0) hSw.1; have q4 := cell_of_row V W.heap.size 4 _ _ (0, 0) hSw.1; clear hSw; go_simp; try with_reducible rfl)
  try simp only [Act.put, List.getElem_toArray, List.getElem_cons_succ, List.getElem_cons_zero, List.setIfInBounds_toArray, List.set_cons_zero, List.set_cons_succ]
  refine wpAnyH_ready (rs := [3]) (by kernel_rfl) (by simp) ?_
  refine AllReadyH.cons rfl (fun K hK => ?_) AllReadyH.nil
  simp only [List.getElem_toArray, List.getElem_cons_succ, List.getElem_cons_zero]
  rw [if_pos (by rfl)]
  go_simp
  refine (byComplete (some ⟨S, 0, none⟩) _).mono ?_
  rintro _ w3 ⟨rfl, rfl⟩
  go_wp2_with fail
  refine hK.out _ _ hHeld (fun hHeld => ?_)
  clear hK K
  try simp only [Act.put, List.getElem_toArray, List.getElem_cons_succ, List.getElem_cons_zero, List.setIfInBounds_toArray, List.set_cons_zero, List.set_cons_succ]
  refine wpAnyH_ready (rs := [8]) (by kernel_rfl) (by simp) ?_
  refine AllReadyH.cons rfl (fun K hK => ?_) AllReadyH.nil
  simp only [List.getElem_toArray, List.getElem_cons_succ, List.getElem_cons_zero]
  rw [if_pos (by rfl)]
  go_simp
  refine (HOp.out w2.drew ⟨H2.out.2.2.2.box, H2.out.2.2.2.map⟩).mono ?_
  rintro _ w4 ⟨rfl, h4, hO4⟩
  go_wp2_with fail
  refine hK.out _ _ ⟨box_off hHeld.1 hO4 (by have := HNe.out; omega) (by have := HNe.out; omega), hHeld.2.imp fun _ h => box_off h hO4 (by have := HNe.out; omega) (by have := HNe.out; omega)⟩ (fun hHeld => ?_)
  clear hK K
  try simp only [Act.put, List.getElem_toArray, List.getElem_cons_succ, List.getElem_cons_zero, List.setIfInBounds_toArray, List.set_cons_zero, List.set_cons_succ]
  refine wpAnyH_take (i := 9) (oi := _) (v := ?_) rfl (by kernel_rfl) (by kernel_rfl) (by kernel_rfl) (fun _ _ _ h => h) (Or.inl ⟨by rfl, ?_⟩) (by assumption) ?_
  rotate_left
  · (intro W hSw; (try dsimp only at hSw); go_simp; try with_reducible rfl)
  try simp only [Act.put, List.getElem_toArray, List.getElem_cons_succ, List.getElem_cons_zero, List.setIfInBounds_toArray, List.set_cons_zero, List.set_cons_succ]
  obtain ⟨e0, hE⟩ := hHeld.2
  have c0 := cell_of_row w4 (W.heap.size + 1) 0 _ _ (0, 0) hE
  have c1 := cell_of_row w4 (W.heap.size + 1) 1 _ _ (0, 0) hE
  have c2 := cell_of_row w4 (W.heap.size + 1) 2 _ _ (0, 0) hE
  have c3 := cell_of_row w4 (W.heap.size + 1) 3 _ _ (0, 0) hE
  have f3 : ∀ i, w4.frozen? ⟨W.heap.size + 1, i, none⟩ = false := fun i => by simp [World.frozen?, hE]
  have hO : Only2 S B W w4 := ((Only2.of_below H2.out.2.1).drew).trans hO4
  have hs := row_set4 (.int .i64 r) (.int .u64 0) (.int .u64 0) (.int .u64 0) rfl hE
  have hO5 : Only2 S B W ((((w4.setCell ⟨W.heap.size + 1, 0, none⟩ (.int .i64 r)).setCell ⟨W.heap.size + 1, 1, none⟩ (.int .u64 0)).setCell ⟨W.heap.size + 1, 2, none⟩ (.int .u64 0)).setCell ⟨W.heap.size + 1, 3, none⟩ (.int .u64 0)) := (((hO.setNew (Nat.le_succ _) 0 _).setNew (Nat.le_succ _) 1 _).setNew (Nat.le_succ _) 2 _).setNew (Nat.le_succ _) 3 _
  have hs5 : ShIs ((((w4.setCell ⟨W.heap.size + 1, 0, none⟩ (.int .i64 r)).setCell ⟨W.heap.size + 1, 1, none⟩ (.int .u64 0)).setCell ⟨W.heap.size + 1, 2, none⟩ (.int .u64 0)).setCell ⟨W.heap.size + 1, 3, none⟩ (.int .u64 0)) S B room L.1 L.2 0 := ⟨(hs.2.1 S (by have := HNe.out; omega)).trans h4.box, (hs.2.1 B (by have := HNe.out; omega)).trans h4.map⟩
  have HS := Lib.hid (And.intro hs (And.intro hs5 hO5))
  clear hs hO5 hs5 hO h4 hO4
  refine wpAnyH_ready (rs := [10]) (by kernel_rfl) (by simp) ?_
  refine AllReadyH.cons rfl (fun K hK => ?_) AllReadyH.nil
  simp only [List.getElem_toArray, List.getElem_cons_succ, List.getElem_cons_zero]
  rw [if_pos (by rfl)]
  go_simp
  refine hK.out _ _ ⟨(HS.out.1.2.1 _ (by omega)).trans hHeld.1, r, HS.out.1.1⟩ (fun hHeld => ?_)
  clear hK K
  try simp only [Act.put, List.getElem_toArray, List.getElem_cons_succ, List.getElem_cons_zero, List.setIfInBounds_toArray, List.set_cons_zero, List.set_cons_succ]
  refine wpAnyH_done (by kernel_rfl) ?_ _
  have HY := Lib.hid (And.intro HS.out.1.1 HS.out.2)
  generalize ((((w4.setCell ⟨W.heap.size + 1, 0, none⟩ (.int .i64 r)).setCell ⟨W.heap.size + 1, 1, none⟩ (.int .u64 0)).setCell ⟨W.heap.size + 1, 2, none⟩ (.int .u64 0)).setCell ⟨W.heap.size + 1, 3, none⟩ (.int .u64 0)) = V4 at HY ⊢
  have r0 := cell_of_row V4 (W.heap.size + 1) 0 _ _ (0, 0) HY.out.1
  have r1 := cell_of_row V4 (W.heap.size + 1) 1 _ _ (0, 0) HY.out.1
  have r2 := cell_of_row V4 (W.heap.size + 1) 2 _ _ (0, 0) HY.out.1
  have r3 := cell_of_row V4 (W.heap.size + 1) 3 _ _ (0, 0) HY.out.1
  go_wp2
  simp [bodyPost, results, Tryz.results11, go_sem, r0, r1, r2, r3]
  exact HY.out.2
set_option maxRecDepth 20000 in
set_option maxHeartbeats 2000000 in
theorem xdo_expire {W : World} {T : Nat} (who : Int) (k : K3) (sd ac ep nn : Int) (S B : Nat) (room : Int) (l : List Ms) (clock : Nat)
    (hof : ∀ V, Below W.heap.size W V → Calls Tryz.prog 31 #[.pointer (some ⟨T, 0, none⟩), k.val] V fun e w' => e = .returned (.pointer (some ⟨S, 0, none⟩)) ∧ Below V.heap.size V w')
    (hs : ShIs W S B room l clock 0) :
    Calls Tryz.prog 11 #[.pointer (some ⟨T, 0, none⟩), opV 5 who k sd ac ep nn] W fun e w' => e = .returned (retV (chgR 3 0 k l)) ∧ ShIs w' S B room (chgL 3 0 k l clock (delM k l, clock)).1 (chgL 3 0 k l clock (delM k l, clock)).2 0 ∧ Only2 S B W w' := by
  have HOf := Lib.hid hof
  have HIn := Lib.hid (fun V (hV : ShIs V S B room l clock 0) => expire_any S B room l clock k V hV)
  clear hof
  generalize chgR 3 0 k l = r at HIn ⊢
  generalize chgL 3 0 k l clock (delM k l, clock) = L at HIn ⊢
  obtain ⟨kc, kf, ks⟩ := k
  unfold opV retV
  unfold K3.val at HOf HIn
  dsimp only at HOf HIn ⊢
  have hK := heap_two W (.cells #[.int .i64 5, .int .i64 who, .int .i64 kc, .int .i64 kf, .int .u64 ks, .int .i64 sd, .int .i64 ac, .int .u64 ep, .int .u64 nn] 43) (.cells #[.int .i64 0, .int .u64 0, .int .u64 0, .int .u64 0] 38)
  have b1 := below_two W (.cells #[.int .i64 5, .int .i64 who, .int .i64 kc, .int .i64 kf, .int .u64 ks, .int .i64 sd, .int .i64 ac, .int .u64 ep, .int .u64 nn] 43) (.cells #[.int .i64 0, .int .u64 0, .int .u64 0, .int .u64 0] 38)
  have hne := And.intro hs.ltS hs.ltB
  obtain ⟨W0, hW0⟩ : ∃ X, X = (W.alloc (.cells #[.int .i64 5, .int .i64 who, .int .i64 kc, .int .i64 kf, .int .u64 ks, .int .i64 sd, .int .i64 ac, .int .u64 ep, .int .u64 nn] 43)).alloc (.cells #[.int .i64 0, .int .u64 0, .int .u64 0, .int .u64 0] 38) := ⟨_, rfl⟩
  rw [← hW0] at hK b1
  have hlt : W.heap.size + 1 < W0.heap.size := (Array.getElem?_eq_some_iff.1 hK.2).1
  have p2 := cell_of_row W0 W.heap.size 2 _ _ (0, 0) hK.1
  have p3 := cell_of_row W0 W.heap.size 3 _ _ (0, 0) hK.1
  have p4 := cell_of_row W0 W.heap.size 4 _ _ (0, 0) hK.1
  have HX := Lib.hid (And.intro hlt (And.intro b1 (And.intro hK (hs.below b1))))
  have HNe := Lib.hid hne
  clear hlt b1 hK hs hne
  go_enter Tryz.func11, Tryz.ntmps11
  go_upto_region 1 with fail
  rw [← hW0]
  clear hW0
  go_wp2_with fail
  refine (HOf.out _ HX.out.2.1).mono ?_
  rintro _ w2 ⟨rfl, b2⟩
  have hK2 := And.intro ((b2.block _ (by have := HX.out.1; omega)).trans HX.out.2.2.1.1) ((b2.block _ HX.out.1).trans HX.out.2.2.1.2)
  have hb2 : Below W.heap.size W w2 := HX.out.2.1.trans (b2.mono HX.out.2.1.size)
  have hlt2 : W.heap.size + 1 < w2.heap.size := (Array.getElem?_eq_some_iff.1 hK2.2).1
  have hs2 := HX.out.2.2.2.below b2
  have H2 := Lib.hid (And.intro hlt2 (And.intro hb2 (And.intro hK2 hs2)))
  have r0 := cell_of_row w2 W.heap.size 0 _ _ (0, 0) hK2.1
  have r1 := cell_of_row w2 W.heap.size 1 _ _ (0, 0) hK2.1
  have r2 := cell_of_row w2 W.heap.size 2 _ _ (0, 0) hK2.1
  have r3 := cell_of_row w2 W.heap.size 3 _ _ (0, 0) hK2.1
  have r4 := cell_of_row w2 W.heap.size 4 _ _ (0, 0) hK2.1
  clear b2 hK2 hb2 hlt2 hs2 HX p2 p3 p4
  go_wp2_with fail
  refine (HIn.out _ H2.out.2.2.2).mono ?_
  rintro _ w3 ⟨rfl, h3, hO3⟩
  have hK3 := box_off H2.out.2.2.1.2 hO3 (by have := HNe.out; omega) (by have := HNe.out; omega)
  have hO : Only2 S B W w3 := (Only2.of_below H2.out.2.1).trans hO3
  have c0 := cell_of_row w3 (W.heap.size + 1) 0 _ _ (0, 0) hK3
  have c1 := cell_of_row w3 (W.heap.size + 1) 1 _ _ (0, 0) hK3
  have c2 := cell_of_row w3 (W.heap.size + 1) 2 _ _ (0, 0) hK3
  have c3 := cell_of_row w3 (W.heap.size + 1) 3 _ _ (0, 0) hK3
  have f3 : ∀ i, w3.frozen? ⟨W.heap.size + 1, i, none⟩ = false := fun i => by simp [World.frozen?, hK3]
  have hs := row_set4 (.int .i64 r) (.int .u64 0) (.int .u64 0) (.int .u64 0) rfl hK3
  have hO4 : Only2 S B W ((((w3.setCell ⟨W.heap.size + 1, 0, none⟩ (.int .i64 r)).setCell ⟨W.heap.size + 1, 1, none⟩ (.int .u64 0)).setCell ⟨W.heap.size + 1, 2, none⟩ (.int .u64 0)).setCell ⟨W.heap.size + 1, 3, none⟩ (.int .u64 0)) := (((hO.setNew (Nat.le_succ _) 0 _).setNew (Nat.le_succ _) 1 _).setNew (Nat.le_succ _) 2 _).setNew (Nat.le_succ _) 3 _
  have hs4 : ShIs ((((w3.setCell ⟨W.heap.size + 1, 0, none⟩ (.int .i64 r)).setCell ⟨W.heap.size + 1, 1, none⟩ (.int .u64 0)).setCell ⟨W.heap.size + 1, 2, none⟩ (.int .u64 0)).setCell ⟨W.heap.size + 1, 3, none⟩ (.int .u64 0)) S B room L.1 L.2 0 := ⟨(hs.2.1 S (by have := HNe.out; omega)).trans h3.box, (hs.2.1 B (by have := HNe.out; omega)).trans h3.map⟩
  have HY := Lib.hid (And.intro hs.1 (And.intro hs4 hO4))
  clear hs hO4 hs4 h3 hO3 hO hK3 H2 HIn HOf HNe
  go_wp2
  generalize ((((w3.setCell ⟨W.heap.size + 1, 0, none⟩ (.int .i64 r)).setCell ⟨W.heap.size + 1, 1, none⟩ (.int .u64 0)).setCell ⟨W.heap.size + 1, 2, none⟩ (.int .u64 0)).setCell ⟨W.heap.size + 1, 3, none⟩ (.int .u64 0)) = V4 at HY ⊢
  have u0 := cell_of_row V4 (W.heap.size + 1) 0 _ _ (0, 0) HY.out.1
  have u1 := cell_of_row V4 (W.heap.size + 1) 1 _ _ (0, 0) HY.out.1
  have u2 := cell_of_row V4 (W.heap.size + 1) 2 _ _ (0, 0) HY.out.1
  have u3 := cell_of_row V4 (W.heap.size + 1) 3 _ _ (0, 0) HY.out.1
  simp [bodyPost, results, Tryz.results11, go_sem, u0, u1, u2, u3]
  exact HY.out.2
set_option maxRecDepth 20000 in
set_option maxHeartbeats 2000000 in
theorem xdo_other {W : World} {T : Nat} (kd who : Int) (k : K3) (sd ac ep nn : Int) (h1 : kd ≠ 1) (h2 : kd ≠ 2) (h3 : kd ≠ 3) (h4 : kd ≠ 4) (h5 : kd ≠ 5) (S : Nat)
    (hof : ∀ V, Below W.heap.size W V → Calls Tryz.prog 31 #[.pointer (some ⟨T, 0, none⟩), k.val] V fun e w' => e = .returned (.pointer (some ⟨S, 0, none⟩)) ∧ Below V.heap.size V w') :
    Calls Tryz.prog 11 #[.pointer (some ⟨T, 0, none⟩), opV kd who k sd ac ep nn] W fun e w' => e = .returned (retV 1) ∧ Below W.heap.size W w' := by
  have HOf := Lib.hid hof
  clear hof
  unfold retV
  obtain ⟨kc, kf, ks⟩ := k
  unfold opV
  unfold K3.val at HOf
  dsimp only at HOf
  have hK := heap_two W (.cells #[.int .i64 kd, .int .i64 who, .int .i64 kc, .int .i64 kf, .int .u64 ks, .int .i64 sd, .int .i64 ac, .int .u64 ep, .int .u64 nn] 43) (.cells #[.int .i64 0, .int .u64 0, .int .u64 0, .int .u64 0] 38)
  have b1 := below_two W (.cells #[.int .i64 kd, .int .i64 who, .int .i64 kc, .int .i64 kf, .int .u64 ks, .int .i64 sd, .int .i64 ac, .int .u64 ep, .int .u64 nn] 43) (.cells #[.int .i64 0, .int .u64 0, .int .u64 0, .int .u64 0] 38)
  obtain ⟨W0, hW0⟩ : ∃ X, X = (W.alloc (.cells #[.int .i64 kd, .int .i64 who, .int .i64 kc, .int .i64 kf, .int .u64 ks, .int .i64 sd, .int .i64 ac, .int .u64 ep, .int .u64 nn] 43)).alloc (.cells #[.int .i64 0, .int .u64 0, .int .u64 0, .int .u64 0] 38) := ⟨_, rfl⟩
  dsimp only
  rw [← hW0] at hK b1
  have hlt : W.heap.size + 1 < W0.heap.size := (Array.getElem?_eq_some_iff.1 hK.2).1
  have p2 := cell_of_row W0 W.heap.size 2 _ _ (0, 0) hK.1
  have p3 := cell_of_row W0 W.heap.size 3 _ _ (0, 0) hK.1
  have p4 := cell_of_row W0 W.heap.size 4 _ _ (0, 0) hK.1
  have HX := Lib.hid (And.intro hlt (And.intro b1 hK))
  clear hlt b1 hK
  go_enter Tryz.func11, Tryz.ntmps11
  go_upto_region 1 with fail
  rw [← hW0]
  clear hW0
  go_wp2_with fail
  refine (HOf.out _ HX.out.2.1).mono ?_
  rintro _ w2 ⟨rfl, b2⟩
  have hK2 := And.intro ((b2.block _ (by have := HX.out.1; omega)).trans HX.out.2.2.1) ((b2.block _ HX.out.1).trans HX.out.2.2.2)
  have hb2 : Below W.heap.size W w2 := HX.out.2.1.trans (b2.mono HX.out.2.1.size)
  have hlt2 : W.heap.size + 1 < w2.heap.size := (Array.getElem?_eq_some_iff.1 hK2.2).1
  have H2 := Lib.hid (And.intro hlt2 (And.intro hb2 hK2))
  have p0 := cell_of_row w2 W.heap.size 0 _ _ (0, 0) hK2.1
  have p1 := cell_of_row w2 W.heap.size 1 _ _ (0, 0) hK2.1
  have p2' := cell_of_row w2 W.heap.size 2 _ _ (0, 0) hK2.1
  have p3' := cell_of_row w2 W.heap.size 3 _ _ (0, 0) hK2.1
  have p4' := cell_of_row w2 W.heap.size 4 _ _ (0, 0) hK2.1
  clear b2 hK2 hb2 hlt2 HX p2 p3 p4
  have c0 := cell_of_row w2 (W.heap.size + 1) 0 _ _ (0, 0) H2.out.2.2.2
  have c1 := cell_of_row w2 (W.heap.size + 1) 1 _ _ (0, 0) H2.out.2.2.2
  have c2 := cell_of_row w2 (W.heap.size + 1) 2 _ _ (0, 0) H2.out.2.2.2
  have c3 := cell_of_row w2 (W.heap.size + 1) 3 _ _ (0, 0) H2.out.2.2.2
  have f3 : ∀ i, w2.frozen? ⟨W.heap.size + 1, i, none⟩ = false := fun i => by simp [World.frozen?, H2.out.2.2.2]
  have hs := row_set4 (.int .i64 1) (.int .u64 0) (.int .u64 0) (.int .u64 0) rfl H2.out.2.2.2
  have hb4 := hs.2.2 _ _ H2.out.2.1 (by omega)
  have HS := Lib.hid (And.intro hs hb4)
  clear hs hb4
  clear H2
  go_wp2
  have HY := Lib.hid (And.intro HS.out.1.1 HS.out.2)
  generalize ((((w2.setCell ⟨W.heap.size + 1, 0, none⟩ (.int .i64 1)).setCell ⟨W.heap.size + 1, 1, none⟩ (.int .u64 0)).setCell ⟨W.heap.size + 1, 2, none⟩ (.int .u64 0)).setCell ⟨W.heap.size + 1, 3, none⟩ (.int .u64 0)) = V4 at HY ⊢
  have r0 := cell_of_row V4 (W.heap.size + 1) 0 _ _ (0, 0) HY.out.1
  have r1 := cell_of_row V4 (W.heap.size + 1) 1 _ _ (0, 0) HY.out.1
  have r2 := cell_of_row V4 (W.heap.size + 1) 2 _ _ (0, 0) HY.out.1
  have r3 := cell_of_row V4 (W.heap.size + 1) 3 _ _ (0, 0) HY.out.1
  simp [bodyPost, results, Tryz.results11, go_sem, r0, r1, r2, r3]
  exact HY.out.2
end Go.Proofs.YtlpnecmcncekcaaGreat.Mk
