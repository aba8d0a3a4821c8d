/- A table of two shards: Do of an insert. -/
import Derived.Test.YtlpnecmcncekcaaGreatTableNew
namespace Go.Proofs.YtlpnecmcncekcaaGreat.Mk
open Go Go.RowKit Go.MuLone

/-- a table of two shards -/
structure TJ (W : World) (T g cap S0 S1 : Nat) : Prop where
  tab : W.heap[T]? = some (.cells #[.slice (some ⟨g, 0, none⟩) 2 cap] TTb (0, 0))
  c0 : W.cell? ⟨g, 0, none⟩ = some (.pointer (some ⟨S0, 0, none⟩))
  c1 : W.cell? ⟨g, 1, none⟩ = some (.pointer (some ⟨S1, 0, none⟩))
theorem TJ.ltT {W : World} {T g cap S0 S1 : Nat} (h : TJ W T g cap S0 S1) : T < W.heap.size := (Array.getElem?_eq_some_iff.1 h.tab).1
theorem TJ.ltg {W : World} {T g cap S0 S1 : Nat} (h : TJ W T g cap S0 S1) : g < W.heap.size := by
  rcases Nat.lt_or_ge g W.heap.size with h1 | h1
  · exact h1
  · have := h.c0; simp [World.cell?, Array.getElem?_eq_none h1] at this
theorem TJ.keep {W V : World} {T g cap S0 S1 : Nat} (h : TJ W T g cap S0 S1) (h1 : V.heap[T]? = W.heap[T]?) (h2 : V.heap[g]? = W.heap[g]?) : TJ V T g cap S0 S1 :=
  ⟨h1.trans h.tab, (World.cell?_of_block (a := ⟨g, 0, none⟩) h2).trans h.c0, (World.cell?_of_block (a := ⟨g, 1, none⟩) h2).trans h.c1⟩
theorem TJ.below {W V : World} {T g cap S0 S1 : Nat} (h : TJ W T g cap S0 S1) (hb : Below W.heap.size W V) : TJ V T g cap S0 S1 := h.keep (hb.block _ h.ltT) (hb.block _ h.ltg)
theorem TJ.only {W V : World} {T g cap S0 S1 S B : Nat} (h : TJ W T g cap S0 S1) (hO : Only2 S B W V) (h1 : T ≠ S) (h2 : T ≠ B) (h3 : g ≠ S) (h4 : g ≠ B) : TJ V T g cap S0 S1 := h.keep (hO.block _ h.ltT h1 h2) (hO.block _ h.ltg h3 h4)
set_option maxRecDepth 20000 in
theorem shards_two {W : World} {T g cap S0 S1 : Nat} (h : TJ W T g cap S0 S1) : Calls Tryz.prog 37 #[.pointer (some ⟨T, 0, none⟩)] W fun e w' => e = .returned (.int .i64 2) ∧ w' = W := by
  have t := cell_of_row W T 0 _ _ (0, 0) h.tab
  clear h
  go_enter Tryz.func37, Tryz.ntmps37
  go_wp2
  go_ret
  exact ⟨rfl, rfl⟩
set_option maxRecDepth 20000 in
theorem at_0 {W : World} {T g cap S0 S1 : Nat} (h : TJ W T g cap S0 S1) : Calls Tryz.prog 29 #[.pointer (some ⟨T, 0, none⟩), .int .i64 0] W fun e w' => e = .returned (.pointer (some ⟨S0, 0, none⟩)) ∧ w' = W := by
  have t := cell_of_row W T 0 _ _ (0, 0) h.tab
  have t0 := h.c0
  have t1 := h.c1
  have H := Lib.hid h
  clear h
  go_enter Tryz.func29, Tryz.ntmps29
  go_wp2_with fail
  refine (shards_two H.out).mono ?_
  rintro _ w' ⟨rfl, rfl⟩
  go_wp2
  go_ret
  exact ⟨rfl, rfl⟩
set_option maxRecDepth 20000 in
theorem at_1 {W : World} {T g cap S0 S1 : Nat} (h : TJ W T g cap S0 S1) : Calls Tryz.prog 29 #[.pointer (some ⟨T, 0, none⟩), .int .i64 1] W fun e w' => e = .returned (.pointer (some ⟨S1, 0, none⟩)) ∧ w' = W := by
  have t := cell_of_row W T 0 _ _ (0, 0) h.tab
  have t0 := h.c0
  have t1 := h.c1
  have H := Lib.hid h
  clear h
  go_enter Tryz.func29, Tryz.ntmps29
  go_wp2_with fail
  refine (shards_two H.out).mono ?_
  rintro _ w' ⟨rfl, rfl⟩
  go_wp2
  go_ret
  exact ⟨rfl, rfl⟩
set_option maxRecDepth 20000 in
theorem of_two {W : World} {T g cap S0 S1 : Nat} (h : TJ W T g cap S0 S1) (k : K3) (h0 : 0 ≤ k.s) (h1 : k.s < 18446744073709551616) (S : Nat)
    (hat : ∀ V, TJ V T g cap S0 S1 → Calls Tryz.prog 29 #[.pointer (some ⟨T, 0, none⟩), .int .i64 (Fnv.keyH k.c k.f k.s % 2)] V fun e w' => e = .returned (.pointer (some ⟨S, 0, none⟩)) ∧ w' = V) :
    Calls Tryz.prog 31 #[.pointer (some ⟨T, 0, none⟩), k.val] W fun e w' => e = .returned (.pointer (some ⟨S, 0, none⟩)) ∧ Below W.heap.size W w' := by
  obtain ⟨kc, kf, ks⟩ := k
  have HSh := Lib.hid (fun V => Fnv.shard_any kc kf ks 2 h0 h1 (by decide) (by decide) V)
  have HAt := Lib.hid hat
  clear h0 h1 hat
  unfold K3.val
  dsimp only at HAt ⊢
  generalize Fnv.keyH kc kf ks % 2 = j at HSh HAt
  have hK := heap_alloc_new W (.cells #[.int .i64 kc, .int .i64 kf, .int .u64 ks] 41)
  have b1 := (Below.refl W.heap.size W).alloc (Nat.le_refl _) (.cells #[.int .i64 kc, .int .i64 kf, .int .u64 ks] 41)
  have h2 := h.below b1
  obtain ⟨W0, hW0⟩ : ∃ X, X = W.alloc (.cells #[.int .i64 kc, .int .i64 kf, .int .u64 ks] 41) := ⟨_, rfl⟩
  rw [← hW0] at hK b1 h2
  have hlt : W.heap.size < W0.heap.size := (Array.getElem?_eq_some_iff.1 hK).1
  have HX := Lib.hid (And.intro hlt (And.intro b1 (And.intro hK h2)))
  clear hlt b1 hK h2 h
  go_enter Tryz.func31, Tryz.ntmps31
  go_upto_region 1 with fail
  rw [← hW0]
  clear hW0
  refine wp_region_held_drew (S := (fun V => V.heap[W.heap.size]? = some (.cells #[.int .i64 kc, .int .i64 kf, .int .u64 ks] 41 (0, 0)) ∧ TJ V T g cap S0 S1)) (by kernel_rfl) ⟨HX.out.2.2.1, HX.out.2.2.2.tab, HX.out.2.2.2.c0, HX.out.2.2.2.c1⟩ (fun hHeld => ?_)
  refine wpAnyH_take (i := 0) (oi := _) (v := ?_) rfl (by kernel_rfl) (by kernel_rfl) (by kernel_rfl) (fun _ _ _ h => h) (Or.inl ⟨by rfl, ?_⟩) (by assumption) ?_
  rotate_left
  · (intro W hSw; (try dsimp only at hSw); go_simp; try with_reducible rfl)
  try simp only [Act.put, List.getElem_toArray, List.getElem_cons_zero, List.setIfInBounds_toArray, List.set_cons_zero, List.set_cons_succ]
  refine wpAnyH_take (i := 1) (oi := _) (v := ?_) rfl (by kernel_rfl) (by kernel_rfl) (by kernel_rfl) (fun _ _ _ h => h) (Or.inl ⟨by rfl, ?_⟩) (by assumption) ?_
  rotate_left
  · (intro V hSw; have q0 := cell_of_row V W.heap.size 0 _ _ (0, 0) hSw.1; have q1 := cell_of_row V W.heap.size 1 _ _ (0, 0) hSw.1; have q2 := cell_of_row V W.heap.size 2 _ _ (0, 0) hSw.1; clear hSw; go_simp; try with_reducible rfl)
  try simp only [Act.put, List.getElem_toArray, List.getElem_cons_succ, List.getElem_cons_zero, List.setIfInBounds_toArray, List.set_cons_zero, List.set_cons_succ]
  refine wpAnyH_take (i := 2) (oi := _) (v := ?_) rfl (by kernel_rfl) (by kernel_rfl) (by kernel_rfl) (fun _ _ _ h => h) (Or.inl ⟨by rfl, ?_⟩) (by assumption) ?_
  rotate_left
  · (intro W hSw; (try dsimp only at hSw); go_simp; try with_reducible rfl)
  try simp only [Act.put, List.getElem_toArray, List.getElem_cons_succ, List.getElem_cons_zero, List.setIfInBounds_toArray, List.set_cons_zero, List.set_cons_succ]
  refine wpAnyH_ready (rs := [3]) (by kernel_rfl) (by simp) ?_
  refine AllReadyH.cons rfl (fun K hK => ?_) AllReadyH.nil
  simp only [List.getElem_toArray, List.getElem_cons_succ, List.getElem_cons_zero]
  rw [if_pos (by rfl)]
  go_simp
  refine (shards_two hHeld.2).mono ?_
  rintro _ w1 ⟨rfl, rfl⟩
  go_wp2_with fail
  refine hK.out _ _ hHeld (fun hHeld => ?_)
  clear hK K
  try simp only [Act.put, List.getElem_toArray, List.getElem_cons_succ, List.getElem_cons_zero, List.setIfInBounds_toArray, List.set_cons_zero, List.set_cons_succ]
  refine wpAnyH_ready (rs := [4]) (by kernel_rfl) (by simp) ?_
  refine AllReadyH.cons rfl (fun K hK => ?_) AllReadyH.nil
  simp only [List.getElem_toArray, List.getElem_cons_succ, List.getElem_cons_zero]
  rw [if_pos (by rfl)]
  go_simp
  refine (HSh.out _).mono ?_
  rintro _ w2 ⟨rfl, b2⟩
  go_wp2_with fail
  refine hK.out _ _ ⟨(b2.block _ HX.out.1).trans hHeld.1, hHeld.2.below b2⟩ (fun hHeld => ?_)
  clear hK K
  try simp only [Act.put, List.getElem_toArray, List.getElem_cons_succ, List.getElem_cons_zero, List.setIfInBounds_toArray, List.set_cons_zero, List.set_cons_succ]
  refine wpAnyH_ready (rs := [5]) (by kernel_rfl) (by simp) ?_
  refine AllReadyH.cons rfl (fun K hK => ?_) AllReadyH.nil
  simp only [List.getElem_toArray, List.getElem_cons_succ, List.getElem_cons_zero]
  rw [if_pos (by rfl)]
  go_simp
  refine (HAt.out _ hHeld.2).mono ?_
  rintro _ w3 ⟨rfl, rfl⟩
  go_wp2_with fail
  refine hK.out _ _ hHeld (fun hHeld => ?_)
  clear hK K
  try simp only [Act.put, List.getElem_toArray, List.getElem_cons_succ, List.getElem_cons_zero, List.setIfInBounds_toArray, List.set_cons_zero, List.set_cons_succ]
  refine wpAnyH_take (i := 6) (oi := _) (v := ?_) rfl (by kernel_rfl) (by kernel_rfl) (by kernel_rfl) (fun _ _ _ h => h) (Or.inl ⟨by rfl, ?_⟩) (by assumption) ?_
  rotate_left
  · (intro W hSw; (try dsimp only at hSw); go_simp; try with_reducible rfl)
  try simp only [Act.put, List.getElem_toArray, List.getElem_cons_succ, List.getElem_cons_zero, List.setIfInBounds_toArray, List.set_cons_zero, List.set_cons_succ]
  refine wpAnyH_done (by kernel_rfl) ?_ _
  have hb := HX.out.2.1.drew.trans (b2.mono HX.out.2.1.size)
  clear b2 HX
  go_wp2
  go_ret
  exact ⟨rfl, hb⟩
set_option maxRecDepth 20000 in
set_option maxHeartbeats 2000000 in
theorem tdo_ins {W : World} {T g cap S0 S1 : Nat} (h : TJ W T g cap S0 S1) (who : Int) (k : K3) (sd ac ep nn : Int) (h0 : 0 ≤ k.s) (h1 : k.s < 18446744073709551616) (S B : Nat) (room : Int) (l : List Ms) (clock : Nat)
    (hat : ∀ V, TJ V T g cap S0 S1 → Calls Tryz.prog 29 #[.pointer (some ⟨T, 0, none⟩), .int .i64 (Fnv.keyH k.c k.f k.s % 2)] V fun e w' => e = .returned (.pointer (some ⟨S, 0, none⟩)) ∧ w' = V)
    (hs : ShIs W S B room l clock 0) :
    Calls Tryz.prog 11 #[.pointer (some ⟨T, 0, none⟩), opV 1 who k sd ac ep nn] W fun e w' => e = .returned (retV (insR room l k)) ∧ ShIs w' S B room (insL room l clock k).1 (insL room l clock k).2 0 ∧ Only2 S B W w' := by
  have HOf := Lib.hid (fun V (hV : TJ V T g cap S0 S1) => of_two hV k h0 h1 S hat)
  have HIn := Lib.hid (fun V (hV : ShIs V S B room l clock 0) => sins_any S B room l clock k V hV)
  clear h0 h1 hat
  generalize insR room l k = r at HIn ⊢
  generalize insL room l clock k = L at HIn ⊢
  obtain ⟨kc, kf, ks⟩ := k
  unfold opV retV
  unfold K3.val at HOf HIn
  dsimp only at HOf HIn ⊢
  have hK := heap_two W (.cells #[.int .i64 1, .int .i64 who, .int .i64 kc, .int .i64 kf, .int .u64 ks, .int .i64 sd, .int .i64 ac, .int .u64 ep, .int .u64 nn] 43) (.cells #[.int .i64 0, .int .u64 0, .int .u64 0, .int .u64 0] 38)
  have b1 := below_two W (.cells #[.int .i64 1, .int .i64 who, .int .i64 kc, .int .i64 kf, .int .u64 ks, .int .i64 sd, .int .i64 ac, .int .u64 ep, .int .u64 nn] 43) (.cells #[.int .i64 0, .int .u64 0, .int .u64 0, .int .u64 0] 38)
  have hne := And.intro hs.ltS hs.ltB
  obtain ⟨W0, hW0⟩ : ∃ X, X = (W.alloc (.cells #[.int .i64 1, .int .i64 who, .int .i64 kc, .int .i64 kf, .int .u64 ks, .int .i64 sd, .int .i64 ac, .int .u64 ep, .int .u64 nn] 43)).alloc (.cells #[.int .i64 0, .int .u64 0, .int .u64 0, .int .u64 0] 38) := ⟨_, rfl⟩
  rw [← hW0] at hK b1
  have hlt : W.heap.size + 1 < W0.heap.size := (Array.getElem?_eq_some_iff.1 hK.2).1
  have p2 := cell_of_row W0 W.heap.size 2 _ _ (0, 0) hK.1
  have p3 := cell_of_row W0 W.heap.size 3 _ _ (0, 0) hK.1
  have p4 := cell_of_row W0 W.heap.size 4 _ _ (0, 0) hK.1
  have HX := Lib.hid (And.intro hlt (And.intro b1 (And.intro hK (And.intro (h.below b1) (hs.below b1)))))
  have HNe := Lib.hid hne
  clear hlt b1 hK h hs hne
  go_enter Tryz.func11, Tryz.ntmps11
  go_upto_region 1 with fail
  rw [← hW0]
  clear hW0
  go_wp2_with fail
  refine (HOf.out _ HX.out.2.2.2.1).mono ?_
  rintro _ w2 ⟨rfl, b2⟩
  have hK2 := And.intro ((b2.block _ (by have := HX.out.1; omega)).trans HX.out.2.2.1.1) ((b2.block _ HX.out.1).trans HX.out.2.2.1.2)
  have hb2 : Below W.heap.size W w2 := HX.out.2.1.trans (b2.mono HX.out.2.1.size)
  have hlt2 : W.heap.size + 1 < w2.heap.size := (Array.getElem?_eq_some_iff.1 hK2.2).1
  have hs2 := HX.out.2.2.2.2.below b2
  have H2 := Lib.hid (And.intro hlt2 (And.intro hb2 (And.intro hK2 hs2)))
  have r0 := cell_of_row w2 W.heap.size 0 _ _ (0, 0) hK2.1
  have r1 := cell_of_row w2 W.heap.size 1 _ _ (0, 0) hK2.1
  have r2 := cell_of_row w2 W.heap.size 2 _ _ (0, 0) hK2.1
  have r3 := cell_of_row w2 W.heap.size 3 _ _ (0, 0) hK2.1
  have r4 := cell_of_row w2 W.heap.size 4 _ _ (0, 0) hK2.1
  clear b2 hK2 hb2 hlt2 hs2 HX p2 p3 p4
  go_wp2_with fail
  refine (HIn.out _ H2.out.2.2.2).mono ?_
  rintro _ w3 ⟨rfl, h3, hO3⟩
  have hK3 := box_off H2.out.2.2.1.2 hO3 (by have := HNe.out; omega) (by have := HNe.out; omega)
  have hO : Only2 S B W w3 := (Only2.of_below H2.out.2.1).trans hO3
  have c0 := cell_of_row w3 (W.heap.size + 1) 0 _ _ (0, 0) hK3
  have c1 := cell_of_row w3 (W.heap.size + 1) 1 _ _ (0, 0) hK3
  have c2 := cell_of_row w3 (W.heap.size + 1) 2 _ _ (0, 0) hK3
  have c3 := cell_of_row w3 (W.heap.size + 1) 3 _ _ (0, 0) hK3
  have f3 : ∀ i, w3.frozen? ⟨W.heap.size + 1, i, none⟩ = false := fun i => by simp [World.frozen?, hK3]
  have hs := row_set4 (.int .i64 r) (.int .u64 0) (.int .u64 0) (.int .u64 0) rfl hK3
  have hO4 : Only2 S B W ((((w3.setCell ⟨W.heap.size + 1, 0, none⟩ (.int .i64 r)).setCell ⟨W.heap.size + 1, 1, none⟩ (.int .u64 0)).setCell ⟨W.heap.size + 1, 2, none⟩ (.int .u64 0)).setCell ⟨W.heap.size + 1, 3, none⟩ (.int .u64 0)) := (((hO.setNew (Nat.le_succ _) 0 _).setNew (Nat.le_succ _) 1 _).setNew (Nat.le_succ _) 2 _).setNew (Nat.le_succ _) 3 _
  have hs4 : ShIs ((((w3.setCell ⟨W.heap.size + 1, 0, none⟩ (.int .i64 r)).setCell ⟨W.heap.size + 1, 1, none⟩ (.int .u64 0)).setCell ⟨W.heap.size + 1, 2, none⟩ (.int .u64 0)).setCell ⟨W.heap.size + 1, 3, none⟩ (.int .u64 0)) S B room L.1 L.2 0 := ⟨(hs.2.1 S (by have := HNe.out; omega)).trans h3.box, (hs.2.1 B (by have := HNe.out; omega)).trans h3.map⟩
  have HY := Lib.hid (And.intro hs.1 (And.intro hs4 hO4))
  clear hs hO4 hs4 h3 hO3 hO hK3 H2 HIn HOf HNe
  go_wp2
  generalize ((((w3.setCell ⟨W.heap.size + 1, 0, none⟩ (.int .i64 r)).setCell ⟨W.heap.size + 1, 1, none⟩ (.int .u64 0)).setCell ⟨W.heap.size + 1, 2, none⟩ (.int .u64 0)).setCell ⟨W.heap.size + 1, 3, none⟩ (.int .u64 0)) = V4 at HY ⊢
  have u0 := cell_of_row V4 (W.heap.size + 1) 0 _ _ (0, 0) HY.out.1
  have u1 := cell_of_row V4 (W.heap.size + 1) 1 _ _ (0, 0) HY.out.1
  have u2 := cell_of_row V4 (W.heap.size + 1) 2 _ _ (0, 0) HY.out.1
  have u3 := cell_of_row V4 (W.heap.size + 1) 3 _ _ (0, 0) HY.out.1
  simp [bodyPost, results, Tryz.results11, go_sem, u0, u1, u2, u3]
  exact HY.out.2
end Go.Proofs.YtlpnecmcncekcaaGreat.Mk
