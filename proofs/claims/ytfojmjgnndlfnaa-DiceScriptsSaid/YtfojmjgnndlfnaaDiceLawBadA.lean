/- 'DiceScripts': one that may not be, few steps. -/
import Derived.Test.YtfojmjgnndlfnaaDiceLaw2
namespace Go.Proofs.Ytfojmjgnndlfnaa.DiceW
open Go Go.RowKit Conf Dice
set_option linter.unusedVariables false

set_option maxRecDepth 20000 in
set_option maxHeartbeats 8000000 in
theorem law_badA (seed n : Int) (c : Cfg) (hc : c.n ≤ 20) (hn : n ≤ 200) (hcode : ¬ code c 11 0 = 0) (hwr : ∃ k, k < 11 ∧ wrong c 11 0 = word k) (W : World) :
    Calls Try.prog 3 #[.int .u64 seed, .agg c.cells, .int .i64 n] W fun e w' => e = .returned (.bool true) ∧ Below W.heap.size W w' := by
  obtain ⟨m, f1, f2, f3, f4, f5, f6, f7, f8, f9, f10, f11, bs, s', hCM⟩ := cm_any seed
  obtain ⟨la, s2, hSL⟩ := sl_any c hc n (Or.inl hn) s'
  have HW1 := Lib.hid (show ∀ (A : Option Addr) (V : World), Calls Try.prog 10 #[.agg (Cfg.cells ⟨A, m, m, f1, f2, f3, f4, f5, f6, f7, f8, f9, f10, f11⟩)] V fun e w' => e = .returned (.string ⟨#[]⟩) ∧ Below V.heap.size V w' from fun A V => by
    have hr := ref_wrong ⟨A, m, m, f1, f2, f3, f4, f5, f6, f7, f8, f9, f10, f11⟩ V
    rcases wrong_or ⟨A, m, m, f1, f2, f3, f4, f5, f6, f7, f8, f9, f10, f11⟩ with ⟨_, h2, _⟩ | ⟨h2, _⟩
    · rw [h2] at hr; exact hr
    · have := hCM.code A; omega)
  have hFew := Lib.hid (fun V => few_yes c hc V)
  have HSp := Lib.hid hSL.p
  have HSq := Lib.hid hSL.q
  have HGo := Lib.hid hSL.good
  have HLn := Lib.hid hSL.len
  have HCf := Lib.hid hCM.cfg
  have HRf := Lib.hid hCM.rcfg
  have HN := Lib.hid (And.intro hCM.n1 hCM.n4)
  obtain ⟨k, hk, hwk⟩ := hwr
  obtain ⟨z, hz⟩ : ∃ z, z = word k := ⟨_, rfl⟩
  have z1 : (z == (⟨#[]⟩ : ByteArray)) = false := by rw [hz]; exact (word_ne k hk).1
  have z2 : ¬ z.toList = [] := by rw [hz]; exact (word_ne k hk).2
  have z3 : z.toList.isEmpty = false := by simpa using z2
  have HWr : Hid (∀ V, Calls Try.prog 10 #[.agg c.cells] V fun e w' => e = .returned (.string z) ∧ Below V.heap.size V w') := Lib.hid (fun V => by rw [hz, ← hwk]; exact ref_wrong c V)
  have HSw := Lib.hid (fun (w : World) (g : Nat) (st : Int) (h : D TD w g st) => step_wrong c hc hcode h)
  have hla := hSL.wr hcode
  obtain rfl : la = [] := List.length_eq_zero_iff.1 hla
  clear hz hwk hk hcode hla
  clear hSL hCM hc
  have h4 : (W.alloc (.cells #[.slice c.A c.n c.cap, .int .i64 c.f1, .int .i64 c.f2, .int .i64 c.f3, .int .i64 c.f4, .int .i64 c.f5, .int .i64 c.f6, .int .i64 c.f7, .int .i64 c.f8, .int .i64 c.f9, .int .i64 c.f10, .int .u64 c.f11] TCf)).heap[W.heap.size]? = some (.cells #[.slice c.A c.n c.cap, .int .i64 c.f1, .int .i64 c.f2, .int .i64 c.f3, .int .i64 c.f4, .int .i64 c.f5, .int .i64 c.f6, .int .i64 c.f7, .int .i64 c.f8, .int .i64 c.f9, .int .i64 c.f10, .int .u64 c.f11] TCf (0, 0)) := heap_alloc_new W _
  obtain ⟨w0, hw0⟩ : ∃ X, X = (W.alloc (.cells #[.slice c.A c.n c.cap, .int .i64 c.f1, .int .i64 c.f2, .int .i64 c.f3, .int .i64 c.f4, .int .i64 c.f5, .int .i64 c.f6, .int .i64 c.f7, .int .i64 c.f8, .int .i64 c.f9, .int .i64 c.f10, .int .u64 c.f11] TCf)) := ⟨_, rfl⟩
  have hb0 : Below W.heap.size W w0 := by rw [hw0]; exact (Below.refl _ _).alloc (Nat.le_refl _) _
  rw [← hw0] at h4
  have HB := Lib.hid (And.intro hb0 h4)
  have q := fun i => cell_of_row w0 (W.heap.size) i _ _ (0, 0) h4; have q0 := q 0; have q1 := q 1; have q2 := q 2; have q3 := q 3; have q4 := q 4; have q5 := q 5; have q6 := q 6; have q7 := q 7; have q8 := q 8; have q9 := q 9; have q10 := q 10; have q11 := q 11; clear q
  clear h4 hb0
  unfold Cfg.cells at hFew HWr HSp HSq HW1 HSw ⊢
  go_enter Try.func3, Try.ntmps3
  go_upto_region 1 with fail
  rw [← hw0]
  clear hw0
  go_wp2_with fail
  refine (hFew.out _).mono ?_
  rintro _ w1 ⟨rfl, b1⟩
  have B1 := Lib.hid (And.intro (HB.out.1.trans (b1.mono HB.out.1.size)) ((b1.block _ (blk_lt HB.out.2)).trans HB.out.2))
  clear b1 q0 q1 q2 q3 q4 q5 q6 q7 q8 q9 q10 q11 HB hFew
  go_wp2_with fail
  refine (new_any seed _).mono ?_
  rintro _ w2 ⟨rfl, d2, b2, hs2⟩
  obtain ⟨ga, hga⟩ : ∃ g, g = w1.heap.size := ⟨_, rfl⟩
  obtain ⟨gb, hgb⟩ : ∃ g, g = w2.heap.size := ⟨_, rfl⟩
  obtain ⟨w3, hw3⟩ : ∃ X, X = w2.alloc (.cells #[.int .u64 seed] TR) := ⟨_, rfl⟩
  have HL3 : Hid (LW W w3 W.heap.size ga gb c seed seed) := Lib.hid (by
    have k1 := blk_lt B1.out.2
    have k2 := B1.out.1.size
    have z := b2.size
    rw [hw3, hga, hgb]
    refine ⟨blk_alloc ((b2.block _ k1).trans B1.out.2), blk_alloc d2, heap_alloc_new w2 _, (B1.out.1.trans (b2.mono k2)).alloc (by omega) _, by omega, by omega⟩)
  clear d2 b2 hs2 B1
  go_upto_region 4 with fail
  rw [← hw3, ← hga, ← hgb]
  clear hw3 hga hgb
  go_wp2_with fail
  refine (HCf.out _ _ HL3.out.d).mono ?_
  rintro _ w4 ⟨u, CA, rfl, hCA, hu, hbu, d4, o4, lu⟩
  have HL4 := Lib.hid (HL3.out.a d4 o4)
  obtain ⟨r, hr⟩ : ∃ r, r = w4.heap.size := ⟨_, rfl⟩
  obtain ⟨w5, hw5⟩ : ∃ X, X = w4.alloc (.cells #[.slice none 0 0, .int .i64 0, .int .i64 0, .int .i64 0, .int .i64 0, .int .i64 0, .int .i64 0, .int .i64 0, .int .i64 0, .int .i64 0, .int .i64 0, .int .u64 0] TCf) := ⟨_, rfl⟩
  have x5 : w5.heap[r]? = some (.cells #[.slice none 0 0, .int .i64 0, .int .i64 0, .int .i64 0, .int .i64 0, .int .i64 0, .int .i64 0, .int .i64 0, .int .i64 0, .int .i64 0, .int .i64 0, .int .u64 0] TCf (0, 0)) := by rw [hw5, hr]; exact heap_alloc_new w4 _
  have l5 : LW W w5 W.heap.size ga gb c s' seed := by rw [hw5]; exact HL4.out.below ((Below.refl _ _).alloc (Nat.le_refl _) _)
  have rl : r ≠ W.heap.size ∧ r ≠ ga ∧ r ≠ gb := by
    have h1 := blk_lt HL4.out.c4
    have h2 := blk_lt HL4.out.d
    have h3 := blk_lt HL4.out.q
    omega
  have rw0 : W.heap.size ≤ r := by rw [hr]; exact HL4.out.bel.size
  have sA : CA.size = 12 := by rw [hCA]; rfl
  have oA : CA.all (·.oneCell') = true := by rw [hCA]; simp [Value.oneCell']
  have hst := hstN w5 r TCf _ CA (by rw [sA]; rfl) oA x5
  have HF : Hid (LW W (w5.setRow r CA) W.heap.size ga gb c s' seed ∧ (w5.setRow r CA).heap[r]? = some (.cells #[.slice (some ⟨u, 0, none⟩) m m, .int .i64 f1, .int .i64 f2, .int .i64 f3, .int .i64 f4, .int .i64 f5, .int .i64 f6, .int .i64 f7, .int .i64 f8, .int .i64 f9, .int .i64 f10, .int .u64 f11] TCf (0, 0)) ∧ (u ≠ gb ∧ u < (w5.setRow r CA).heap.size) ∧ ∀ j, j < m → (w5.setRow r CA).cell? ⟨u, j, none⟩ = some (.bool (bs j))) := Lib.hid (by
    have hub : u ≠ gb := by have := blk_lt HL3.out.q; omega
    have hur : u < r := by rw [hr]; exact hu
    have k5 : ∀ k, k < r → (w5.setRow r CA).heap[k]? = w4.heap[k]? := fun k hk => (setRow_other w5 r k CA (by omega)).trans (by rw [hw5]; exact Below.heap_alloc _ _ _ (by omega))
    refine ⟨l5.set CA rl rw0, ?_, ⟨hub, ?_⟩, fun j hj => ?_⟩
    · rw [← hCA]; exact setRow_heap w5 r _ CA TCf (0, 0) x5
    · have h1 : r < w5.heap.size := blk_lt x5
      simp [World.setRow]; omega
    · exact (World.cell?_of_block (a := ⟨u, j, none⟩) (k5 u hur)).trans (hbu j hj))
  obtain ⟨w6, hw6⟩ : ∃ X, X = w5.setRow r CA := ⟨_, rfl⟩
  rw [← hw6] at hst HF
  have HRr := Lib.hid hr
  clear x5 l5 rl rw0 oA hCA hu hbu d4 o4 lu HL4 HL3 hw6
  rw [hr] at hst
  rw [hw5] at hst
  clear hr hw5
  go_upto_region 5 with fail
  rw [← HRr.out]
  clear hst sA
  refine wp_region_held_drew (S := fun V => V.heap[r]? = some (.cells #[.slice (some ⟨u, 0, none⟩) m m, .int .i64 f1, .int .i64 f2, .int .i64 f3, .int .i64 f4, .int .i64 f5, .int .i64 f6, .int .i64 f7, .int .i64 f8, .int .i64 f9, .int .i64 f10, .int .u64 f11] TCf (0, 0))) (by kernel_rfl) HF.out.2.1 (fun hHeld => ?_)
  have HG : Hid (LW W w6.drew W.heap.size ga gb c s' seed ∧ (u ≠ gb ∧ u < w6.drew.heap.size) ∧ ∀ j, j < m → w6.drew.cell? ⟨u, j, none⟩ = some (.bool (bs j))) := Lib.hid ⟨HF.out.1.below (Below.refl _ _).drew, HF.out.2.2.1, HF.out.2.2.2⟩
  obtain ⟨w7, hw7⟩ : ∃ X, X = w6.drew := ⟨_, rfl⟩
  rw [← hw7] at HG hHeld ⊢
  clear hw7 HF
  have rl : r ≠ gb := by
    intro h
    have h1 := HG.out.1.q
    rw [← h] at h1
    rw [h1] at hHeld
    injection hHeld with h2
    injection h2 with _ h3
    exact absurd h3 (by decide)
  refine wpAnyH_take (i := 0) (oi := _) (v := ?_) rfl (by kernel_rfl) (by kernel_rfl) (by kernel_rfl) (fun _ _ _ h => h) (Or.inl ⟨by rfl, ?_⟩) (by assumption) ?_
  rotate_left
  · (intro V hSw; have q := fun i => cell_of_row V (r) i _ _ (0, 0) hSw; have q0 := q 0; have q1 := q 1; have q2 := q 2; have q3 := q 3; have q4 := q 4; have q5 := q 5; have q6 := q 6; have q7 := q 7; have q8 := q 8; have q9 := q 9; have q10 := q 10; have q11 := q 11; clear q; clear hSw; go_simp; try with_reducible rfl)
  try simp only [Act.put, List.getElem_toArray, List.getElem_cons_zero, List.setIfInBounds_toArray, List.set_cons_zero, List.set_cons_succ]
  refine wpAnyH_take (i := 1) (oi := _) (v := ?_) rfl (by kernel_rfl) (by kernel_rfl) (by kernel_rfl) (fun _ _ _ h => h) (Or.inl ⟨by rfl, ?_⟩) (by assumption) ?_
  rotate_left
  · (intro W hSw; (try dsimp only at hSw); go_simp; try with_reducible rfl)
  try simp only [Act.put, List.getElem_toArray, List.getElem_cons_succ, List.getElem_cons_zero, List.setIfInBounds_toArray, List.set_cons_zero, List.set_cons_succ]
  refine wpAnyH_ready (rs := [2]) (by kernel_rfl) (by simp) ?_
  refine AllReadyH.cons rfl (fun K hK => ?_) AllReadyH.nil
  simp only [List.getElem_toArray, List.getElem_cons_succ, List.getElem_cons_zero]
  rw [if_pos (by rfl)]
  go_simp
  refine (HRf.out _ gb HG.out.1.q).mono ?_
  rintro _ w8 ⟨v, cap, rfl, hv, hbv, d8, o8, lv⟩
  have hh := (o8.block _ (blk_lt hHeld) rl).trans hHeld
  have HH := Lib.hid (And.intro (HG.out.1.b d8 o8) (And.intro (show ∀ j, j < m → w8.cell? ⟨u, j, none⟩ = some (.bool (bs j)) from fun j hj => (World.cell?_of_block (a := ⟨u, j, none⟩) (o8.block u HG.out.2.1.2 HG.out.2.1.1)).trans (HG.out.2.2 j hj)) hbv))
  clear hv hbv d8 o8 lv HG
  go_wp2_with fail
  refine hK.out _ _ hh (fun hHeld => ?_)
  clear hK K
  try simp only [Act.put, List.getElem_toArray, List.getElem_cons_succ, List.getElem_cons_zero, List.setIfInBounds_toArray, List.set_cons_zero, List.set_cons_succ]
  refine wpAnyH_ready (rs := [3]) (by kernel_rfl) (by simp) ?_
  refine AllReadyH.cons rfl (fun K hK => ?_) AllReadyH.nil
  simp only [List.getElem_toArray, List.getElem_cons_succ, List.getElem_cons_zero]
  rw [if_pos (by rfl)]
  go_simp
  refine (conf_alike2 u v m m cap f1 f2 f3 f4 f5 f6 f7 f8 f9 f10 f11 bs HN.out.2 w8 HH.out.2.1 HH.out.2.2).mono ?_
  rintro _ w9 ⟨rfl, b9⟩
  have hh2 := (b9.block _ (blk_lt hh)).trans hh
  have HI := Lib.hid (HH.out.1.below b9)
  clear b9 HH hh
  go_wp2_with fail
  refine hK.out _ _ hh2 (fun hHeld => ?_)
  clear hK K
  try simp only [Act.put, List.getElem_toArray, List.getElem_cons_succ, List.getElem_cons_zero, List.setIfInBounds_toArray, List.set_cons_zero, List.set_cons_succ]
  refine wpAnyH_take (i := 4) (oi := _) (v := ?_) rfl (by kernel_rfl) (by kernel_rfl) (by kernel_rfl) (fun _ _ _ h => h) (Or.inl ⟨by rfl, ?_⟩) (by assumption) ?_
  rotate_left
  · (intro W hSw; (try dsimp only at hSw); go_simp; try with_reducible rfl)
  try simp only [Act.put, List.getElem_toArray, List.getElem_cons_succ, List.getElem_cons_zero, List.setIfInBounds_toArray, List.set_cons_zero, List.set_cons_succ]
  refine wpAnyH_take (i := 5) (oi := _) (v := ?_) rfl (by kernel_rfl) (by kernel_rfl) (by kernel_rfl) (fun _ _ _ h => h) (Or.inl ⟨by rfl, ?_⟩) (by assumption) ?_
  rotate_left
  · (intro W hSw; (try dsimp only at hSw); go_simp; try with_reducible rfl)
  try simp only [Act.put, List.getElem_toArray, List.getElem_cons_succ, List.getElem_cons_zero, List.setIfInBounds_toArray, List.set_cons_zero, List.set_cons_succ]
  refine wpAnyH_take (i := 6) (oi := _) (v := ?_) rfl (by kernel_rfl) (by kernel_rfl) (by kernel_rfl) (fun _ _ _ h => h) (Or.inl ⟨by rfl, ?_⟩) (by assumption) ?_
  rotate_left
  · (intro V hSw; have q := fun i => cell_of_row V (r) i _ _ (0, 0) hSw; have q0 := q 0; have q1 := q 1; have q2 := q 2; have q3 := q 3; have q4 := q 4; have q5 := q 5; have q6 := q 6; have q7 := q 7; have q8 := q 8; have q9 := q 9; have q10 := q 10; have q11 := q 11; clear q; clear hSw; go_simp; try with_reducible rfl)
  try simp only [Act.put, List.getElem_toArray, List.getElem_cons_succ, List.getElem_cons_zero, List.setIfInBounds_toArray, List.set_cons_zero, List.set_cons_succ]
  refine wpAnyH_ready (rs := [7]) (by kernel_rfl) (by simp) ?_
  refine AllReadyH.cons rfl (fun K hK => ?_) AllReadyH.nil
  simp only [List.getElem_toArray, List.getElem_cons_succ, List.getElem_cons_zero]
  rw [if_pos (by rfl)]
  go_simp
  refine (HW1.out _ _).mono ?_
  rintro _ w10 ⟨rfl, b10⟩
  have hh3 := (b10.block _ (blk_lt hh2)).trans hh2
  have HJ := Lib.hid (HI.out.below b10)
  clear b10 HI hh2
  go_wp2_with fail
  refine hK.out _ _ hh3 (fun hHeld => ?_)
  clear hK K
  try simp only [Act.put, List.getElem_toArray, List.getElem_cons_succ, List.getElem_cons_zero, List.setIfInBounds_toArray, List.set_cons_zero, List.set_cons_succ]
  refine wpAnyH_take (i := 8) (oi := _) (v := ?_) rfl (by kernel_rfl) (by kernel_rfl) (by kernel_rfl) (fun _ _ _ h => h) (Or.inl ⟨by rfl, ?_⟩) (by assumption) ?_
  rotate_left
  · (intro W hSw; (try dsimp only at hSw); go_simp; try with_reducible rfl)
  try simp only [Act.put, List.getElem_toArray, List.getElem_cons_succ, List.getElem_cons_zero, List.setIfInBounds_toArray, List.set_cons_zero, List.set_cons_succ]
  refine wpAnyH_take (i := 9) (oi := _) (v := ?_) rfl (by kernel_rfl) (by kernel_rfl) (by kernel_rfl) (fun _ _ _ h => h) (Or.inl ⟨by rfl, ?_⟩) (by assumption) ?_
  rotate_left
  · (intro W hSw; (try dsimp only at hSw); go_simp; try with_reducible rfl)
  try simp only [Act.put, List.getElem_toArray, List.getElem_cons_succ, List.getElem_cons_zero, List.setIfInBounds_toArray, List.set_cons_zero, List.set_cons_succ]
  refine wpAnyH_done (by kernel_rfl) ?_ _
  clear hh3 rl HRr
  go_upto_region 7 with fail
  refine wp_region_held_drew (S := fun V => V.heap[W.heap.size]? = some (.cells #[.slice c.A c.n c.cap, .int .i64 c.f1, .int .i64 c.f2, .int .i64 c.f3, .int .i64 c.f4, .int .i64 c.f5, .int .i64 c.f6, .int .i64 c.f7, .int .i64 c.f8, .int .i64 c.f9, .int .i64 c.f10, .int .u64 c.f11] TCf (0, 0))) (by kernel_rfl) HJ.out.c4 (fun hHeld => ?_)
  have HK := Lib.hid (HJ.out.below (Below.refl _ _).drew)
  obtain ⟨w11, hw11⟩ : ∃ X, X = w10.drew := ⟨_, rfl⟩
  rw [← hw11] at HK hHeld ⊢
  clear hw11 HJ
  refine wpAnyH_take (i := 0) (oi := _) (v := ?_) rfl (by kernel_rfl) (by kernel_rfl) (by kernel_rfl) (fun _ _ _ h => h) (Or.inl ⟨by rfl, ?_⟩) (by assumption) ?_
  rotate_left
  · (intro W hSw; (try dsimp only at hSw); go_simp; try with_reducible rfl)
  try simp only [Act.put, List.getElem_toArray, List.getElem_cons_zero, List.setIfInBounds_toArray, List.set_cons_zero, List.set_cons_succ]
  refine wpAnyH_take (i := 1) (oi := _) (v := ?_) rfl (by kernel_rfl) (by kernel_rfl) (by kernel_rfl) (fun _ _ _ h => h) (Or.inl ⟨by rfl, ?_⟩) (by assumption) ?_
  rotate_left
  · (intro V hSw; have q := fun i => cell_of_row V (W.heap.size) i _ _ (0, 0) hSw; have q0 := q 0; have q1 := q 1; have q2 := q 2; have q3 := q 3; have q4 := q 4; have q5 := q 5; have q6 := q 6; have q7 := q 7; have q8 := q 8; have q9 := q 9; have q10 := q 10; have q11 := q 11; clear q; clear hSw; go_simp; try with_reducible rfl)
  try simp only [Act.put, List.getElem_toArray, List.getElem_cons_succ, List.getElem_cons_zero, List.setIfInBounds_toArray, List.set_cons_zero, List.set_cons_succ]
  refine wpAnyH_take (i := 2) (oi := _) (v := ?_) rfl (by kernel_rfl) (by kernel_rfl) (by kernel_rfl) (fun _ _ _ h => h) (Or.inl ⟨by rfl, ?_⟩) (by assumption) ?_
  rotate_left
  · (intro W hSw; (try dsimp only at hSw); go_simp; try with_reducible rfl)
  try simp only [Act.put, List.getElem_toArray, List.getElem_cons_succ, List.getElem_cons_zero, List.setIfInBounds_toArray, List.set_cons_zero, List.set_cons_succ]
  refine wpAnyH_take (i := 4) (oi := _) (v := ?_) rfl (by kernel_rfl) (by kernel_rfl) (by kernel_rfl) (fun _ _ _ h => h) (Or.inl ⟨by rfl, ?_⟩) (by assumption) ?_
  rotate_left
  · (intro W hSw; (try dsimp only at hSw); go_simp; try with_reducible rfl)
  try simp only [Act.put, List.getElem_toArray, List.getElem_cons_succ, List.getElem_cons_zero, List.setIfInBounds_toArray, List.set_cons_zero, List.set_cons_succ]
  refine wpAnyH_take (i := 5) (oi := _) (v := ?_) rfl (by kernel_rfl) (by kernel_rfl) (by kernel_rfl) (fun _ _ _ h => h) (Or.inl ⟨by rfl, ?_⟩) (by assumption) ?_
  rotate_left
  · (intro V hSw; have q := fun i => cell_of_row V (W.heap.size) i _ _ (0, 0) hSw; have q0 := q 0; have q1 := q 1; have q2 := q 2; have q3 := q 3; have q4 := q 4; have q5 := q 5; have q6 := q 6; have q7 := q 7; have q8 := q 8; have q9 := q 9; have q10 := q 10; have q11 := q 11; clear q; clear hSw; go_simp; try with_reducible rfl)
  try simp only [Act.put, List.getElem_toArray, List.getElem_cons_succ, List.getElem_cons_zero, List.setIfInBounds_toArray, List.set_cons_zero, List.set_cons_succ]
  refine wpAnyH_take (i := 6) (oi := _) (v := ?_) rfl (by kernel_rfl) (by kernel_rfl) (by kernel_rfl) (fun _ _ _ h => h) (Or.inl ⟨by rfl, ?_⟩) (by assumption) ?_
  rotate_left
  · (intro W hSw; (try dsimp only at hSw); go_simp; try with_reducible rfl)
  try simp only [Act.put, List.getElem_toArray, List.getElem_cons_succ, List.getElem_cons_zero, List.setIfInBounds_toArray, List.set_cons_zero, List.set_cons_succ]
  refine wpAnyH_ready (rs := [3]) (by kernel_rfl) (by simp) ?_
  refine AllReadyH.cons rfl (fun K hK => ?_) AllReadyH.nil
  simp only [List.getElem_toArray, List.getElem_cons_succ, List.getElem_cons_zero]
  rw [if_pos (by rfl)]
  go_simp
  refine (HSp.out _ ga HK.out.d).mono ?_
  rintro _ w12 ⟨⟨vp, rfl, rp⟩, d12, o12⟩
  have HM := Lib.hid (And.intro (HK.out.a d12 o12) (And.intro rp (And.intro (blk_lt HK.out.q) (show w11.heap.size ≤ w12.heap.size from o12.size))))
  have HGA := Lib.hid (blk_lt HK.out.d)
  clear d12 o12 rp
  go_wp2_with fail
  refine hK.out _ _ HM.out.1.c4 (fun hHeld => ?_)
  clear hK K
  try simp only [Act.put, List.getElem_toArray, List.getElem_cons_succ, List.getElem_cons_zero, List.setIfInBounds_toArray, List.set_cons_zero, List.set_cons_succ]
  refine wpAnyH_ready (rs := [7]) (by kernel_rfl) (by simp) ?_
  refine AllReadyH.cons rfl (fun K hK => ?_) AllReadyH.nil
  simp only [List.getElem_toArray, List.getElem_cons_succ, List.getElem_cons_zero]
  rw [if_pos (by rfl)]
  go_simp
  refine (HSq.out _ gb HM.out.1.q).mono ?_
  rintro _ w13 ⟨⟨vq, rfl, rq⟩, d13, o13⟩
  have HO := Lib.hid (And.intro (HM.out.1.b d13 o13) (And.intro (HM.out.2.1.on o13 HM.out.2.2.1) rq))
  have HGB := Lib.hid (show gb < w11.heap.size from blk_lt HK.out.q)
  clear d13 o13 HM rq HK
  go_wp2_with fail
  refine hK.out _ _ HO.out.1.c4 (fun hHeld => ?_)
  clear hK K
  try simp only [Act.put, List.getElem_toArray, List.getElem_cons_succ, List.getElem_cons_zero, List.setIfInBounds_toArray, List.set_cons_zero, List.set_cons_succ]
  refine wpAnyH_take (i := 8) (oi := _) (v := ?_) rfl (by kernel_rfl) (by kernel_rfl) (by kernel_rfl) (fun _ _ _ h => h) (Or.inl ⟨by rfl, ?_⟩) (by assumption) ?_
  rotate_left
  · (intro W hSw; (try dsimp only at hSw); go_simp; try with_reducible rfl)
  try simp only [Act.put, List.getElem_toArray, List.getElem_cons_succ, List.getElem_cons_zero, List.setIfInBounds_toArray, List.set_cons_zero, List.set_cons_succ]
  refine wpAnyH_take (i := 9) (oi := _) (v := ?_) rfl (by kernel_rfl) (by kernel_rfl) (by kernel_rfl) (fun _ _ _ h => h) (Or.inl ⟨by rfl, ?_⟩) (by assumption) ?_
  rotate_left
  · (intro W hSw; (try dsimp only at hSw); go_simp; try with_reducible rfl)
  try simp only [Act.put, List.getElem_toArray, List.getElem_cons_succ, List.getElem_cons_zero, List.setIfInBounds_toArray, List.set_cons_zero, List.set_cons_succ]
  refine wpAnyH_done (by kernel_rfl) ?_ _
  go_wp2_with fail
  refine (same_rl HO.out.2.1 HO.out.2.2 HLn.out).mono ?_
  rintro _ w14 ⟨rfl, b14⟩
  have HP := Lib.hid (And.intro (HO.out.1.below b14) (HO.out.2.1.below b14))
  clear b14 HO
  go_wp2_with fail
  refine (throw_on HP.out.1.d).mono ?_
  rintro _ w15 ⟨rfl, d15, o15⟩
  have HQ := Lib.hid (And.intro (HP.out.1.a d15 o15) (HP.out.2.on o15 HGA.out))
  clear d15 o15 HP
  go_wp2_with fail
  refine (rthrow_on HQ.out.1.q).mono ?_
  rintro _ w16 ⟨rfl, d16, o16⟩
  have HR := Lib.hid (And.intro (HQ.out.1.b d16 o16) (HQ.out.2.on o16 HGB.out))
  clear d16 o16 HQ
  go_upto_region 10 with fail
  obtain ⟨hLR, A, cp, rfl, hRl⟩ := HR.out
  have HLR := Lib.hid hLR
  clear hLR HR
  clear hRl
  go_wp2_with fail
  refine wp_loop_rounds 1 ?_
  rw [rounds_succ]
  go_upto_region 15 with fail
  obtain ⟨w7, hw7⟩ : ∃ X, X = w16 := ⟨_, rfl⟩
  rw [← hw7] at HLR ⊢
  have HL7 := HLR
  clear HLR hw7
  have p4 := HL7.out.c4
  have q := fun i => cell_of_row w7 (W.heap.size) i _ _ (0, 0) p4; have q0 := q 0; have q1 := q 1; have q2 := q 2; have q3 := q 3; have q4 := q 4; have q5 := q 5; have q6 := q 6; have q7 := q 7; have q8 := q 8; have q9 := q 9; have q10 := q 10; have q11 := q 11; clear q
  clear p4
  go_wp2_with fail
  refine (HWr.out _).mono ?_
  rintro _ w8 ⟨rfl, b8⟩
  have HL8 := Lib.hid (HL7.out.below b8)
  clear b8 q0 q1 q2 q3 q4 q5 q6 q7 q8 q9 q10 q11
  go_wp2_with fail
  refine (awake_any _).mono ?_
  rintro _ w9 ⟨rfl, b9⟩
  have HL9 := Lib.hid (HL8.out.below b9)
  clear b9 HL8
  have p4 := HL9.out.c4
  have q := fun i => cell_of_row w9 (W.heap.size) i _ _ (0, 0) p4; have q0 := q 0; have q1 := q 1; have q2 := q 2; have q3 := q 3; have q4 := q 4; have q5 := q 5; have q6 := q 6; have q7 := q 7; have q8 := q 8; have q9 := q 9; have q10 := q 10; have q11 := q 11; clear q
  clear p4
  go_wp2_with fail
  refine (HSw.out _ _ _ HL9.out.d).mono ?_
  rintro _ wa ⟨rfl, da, oa⟩
  have HLa := Lib.hid (HL9.out.a da oa)
  clear da oa HL9 q0 q1 q2 q3 q4 q5 q6 q7 q8 q9 q10 q11
  go_wp2_with fail
  refine (throw_on HLa.out.d).mono ?_
  rintro _ wb ⟨rfl, db, ob⟩
  have HLb := Lib.hid (HLa.out.a db ob)
  clear db ob HLa
  go_wp2_with fail
  refine (rthrow_on HLb.out.q).mono ?_
  rintro _ wc ⟨rfl, dc, oc⟩
  have HLc := Lib.hid (HLb.out.b dc oc)
  clear dc oc HLb
  go_wp2
  go_ret
  exact ⟨rfl, HLc.out.bel⟩
end Go.Proofs.Ytfojmjgnndlfnaa.DiceW
