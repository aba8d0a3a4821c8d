/- The page's shard: Insert. -/
import Derived.Test.YtmdjhcpafjgigaaPgShard3
import Derived.Deep.CutBlock
namespace Go.Proofs.Ytmdjhcpafjgigaa.Mk
open Go Go.RowKit Go.MuLone

def qiR (room : Int) (k : K3) (ls : List En) : Int := if (qE k ls).isSome then 7 else if room ≤ (ls.length : Int) then 6 else 0
def qiL (room : Int) (k : K3) (ls : List En) : List En := if qiR room k ls = 0 then qIns k ls else ls
set_option maxRecDepth 20000 in
set_option maxHeartbeats 4000000 in
theorem qins_any (Q : Nat) (room : Int) (v : Value) (ls : List En) (k : K3) (w : World) (h : QI w Q room v ls) (hn : ls.length ≤ 1000) :
    Calls Try.prog 20 #[.pointer (some ⟨Q, 0, none⟩), k.val] w fun e w' => e = .returned (.int .i64 (qiR room k ls)) ∧ ∃ v', QI w' Q room v' (qiL room k ls) ∧ Below Q w w' := by
  obtain ⟨i0, hi', hz0, hz1, hz2⟩ := info_partsE infoEn
  have HK := Lib.hid (KB.new w k)
  have HQ := Lib.hid (h.alloc (.cells #[.int .i64 k.c, .int .i64 k.f, .int .u64 k.s] 35))
  have HQ0 : Hid (Q < w.heap.size) := h.lt
  clear h
  obtain ⟨K0, hK0⟩ : ∃ K0 : K3, K0 = k := ⟨_, rfl⟩
  obtain ⟨kc, kf, ks⟩ := k
  unfold K3.val
  dsimp only at HK HQ ⊢
  have HF := Lib.hid (find_any Q room v ls ⟨kc, kf, ks⟩ _ HQ.out hn)
  unfold K3.val at HF
  dsimp only at HF
  rw [← hK0] at HK HF ⊢
  have HK0 := Lib.hid hK0
  clear hK0
  go_enter Try.func20, Try.ntmps20
  go_wp2_with fail
  generalize w.alloc (.cells #[.int .i64 kc, .int .i64 kf, .int .u64 ks] 35) = W1 at HK HQ HF ⊢
  refine HF.out.mono ?_
  rintro _ w1 ⟨rfl, hb⟩
  have HK1 := Lib.hid (HK.out.below hb)
  have HQ1 := Lib.hid (HQ.out.below hb)
  clear HK HQ HF hb
  have HB1 : Hid (Below Q w w1) := HK1.out.bel.mono (Nat.le_of_lt HQ0.out)
  obtain ⟨A, c, rfl⟩ := HQ1.out.form
  obtain ⟨n, hnd⟩ : ∃ n, n = ls.length := ⟨_, rfl⟩
  have HN : Hid (n = ls.length) := hnd
  rw [← hnd] at hn HQ1
  clear hnd
  rcases qf_cases K0 ls with ⟨hq, hall⟩ | ⟨i, hi, hq, hki, hbf⟩
  rotate_left
  · have HR : Hid (qiR room K0 ls = 7) := by show qiR _ _ _ = _; unfold qiR; rw [qE_some hi hki hbf]; rfl
    rw [hq]
    have hi0 : (0 : Int) ≤ (i : Int) := by omega
    clear hki hbf hi hq
    go_wp2
    go_ret
    exact ⟨by rw [HR.out]; first | rfl | trivial, _, by unfold qiL; rw [if_neg (by rw [HR.out]; decide)]; exact HQ1.out, HB1.out⟩
  rw [hq]
  have HR : Hid (qiR room K0 ls = if room ≤ (n : Int) then 6 else 0) := by show qiR _ _ _ = _; unfold qiR; rw [qE_none hall, HN.out]; rfl
  clear hall hq
  have q0 := HQ1.out.cell.1
  have q1 := HQ1.out.cell.2.1
  by_cases hroom : room ≤ (n : Int)
  · have HR2 : Hid (qiR room K0 ls = 6) := by have := HR.out; rwa [if_pos hroom] at this
    clear HR
    go_wp2
    go_quiet (fail)
    go_wp2
    go_ret
    exact ⟨by rw [HR2.out]; first | rfl | trivial, _, by unfold qiL; rw [if_neg (by rw [HR2.out]; decide)]; exact HQ1.out.drewN _, below_drewN HB1.out _⟩
  have HR2 : Hid (qiR room K0 ls = 0) := by have := HR.out; rwa [if_neg hroom] at this
  clear HR
  go_wp2
  go_quiet (fail)
  have hBD : Hid (Below w1.heap.size w1 (w1.drewN nq)) := below_drewN (Below.refl _ _) _
  generalize w1.drewN nq = w2 at hBD ⊢
  go_upto_block 0 with fail
  clear hroom q0 q1
  go_cut [5] from 20 to 40 (fun sv wx => ∃ j : Nat, sv = .int .i64 (j : Int) ∧ j ≤ n ∧ Hid (qAt K0 ls = j) ∧ Hid (Below w1.heap.size w1 wx))
  rotate_left
  · obtain ⟨j, rfl, hj, HJ, HBc⟩ := hcut
    have HQ3 := Lib.hid (HQ1.out.below HBc.out)
    have HK3 := Lib.hid (HK1.out.below HBc.out)
    have hj0 : (0 : Int) ≤ (j : Int) := by omega
    have hjn : (j : Int) ≤ (n : Int) := by omega
    go_wp2
    refine wp_region_last (fun W => W.cell? ⟨Q, 0, none⟩ = some (.slice A n c) ∧ W.cell? ⟨w.heap.size, 0, none⟩ = some (.int .i64 kc) ∧ W.cell? ⟨w.heap.size, 1, none⟩ = some (.int .i64 kf) ∧ W.cell? ⟨w.heap.size, 2, none⟩ = some (.int .u64 ks)) 22 (by kernel_rfl) ?_
    have HQ8 := Lib.hid HQ3.out.drew
    have HK8 : Hid (KB w wc.drew K0) := Lib.hid (HK3.out.drewN 1)
    have HB8 : Hid (Below Q w wc.drew) := Lib.hid (HB1.out.trans (HBc.out.drew.mono (Nat.le_of_lt HQ1.out.lt)))
    generalize wc.drew = w8 at HQ8 HK8 HB8 ⊢
    have HS : Hid (∀ V, Below w8.heap.size w8 V → V.cell? ⟨Q, 0, none⟩ = some (.slice A n c) ∧ V.cell? ⟨w.heap.size, 0, none⟩ = some (.int .i64 kc) ∧ V.cell? ⟨w.heap.size, 1, none⟩ = some (.int .i64 kf) ∧ V.cell? ⟨w.heap.size, 2, none⟩ = some (.int .u64 ks)) := fun V hb => by
      have hq := (HQ8.out.below hb).cell.1
      have hk := HK8.out.below hb
      have h0 := hk.c
      have h1 := hk.f
      have h2 := hk.s
      rw [HK0.out] at h0 h1 h2
      exact ⟨hq, h0, h1, h2⟩
    have HP := Lib.hid (HQ8.out.pts HN.out j hj)
    have hjc : j ≤ c := by have := HP.out.nc; omega
    have hjc2 : (j : Int) ≤ (c : Int) := by omega
    have hnc2 : n ≤ c := HP.out.nc
    have hHeld := HS.out w8 (Below.refl _ _)
    refine wpL_take (i := 0) (oi := _) (v := ?_) [21, 20] rfl (by kernel_rfl) (by kernel_rfl) (by kernel_rfl) (by kernel_rfl) (by kernel_rfl) (fun _ _ _ h => h) (Or.inl ⟨by rfl, ?_⟩) (by assumption) ?_
    rotate_left
    · (intro W hSw; (try dsimp only at hSw); go_simp; try with_reducible rfl)
    try simp only [Act.put, List.getElem_toArray, List.getElem_cons_zero, List.setIfInBounds_toArray, List.set_cons_zero, List.set_cons_succ]
    refine wpL_take (i := 2) (oi := _) (v := ?_) [19, 12, 8, 7, 5, 4, 3] rfl (by kernel_rfl) (by kernel_rfl) (by kernel_rfl) (by kernel_rfl) (by kernel_rfl) (fun _ _ _ h => h) (Or.inl ⟨by rfl, ?_⟩) (by assumption) ?_
    rotate_left
    · (intro W hSw; (try dsimp only at hSw); go_simp; try with_reducible rfl)
    try simp only [Act.put, List.getElem_toArray, List.getElem_cons_succ, List.getElem_cons_zero, List.setIfInBounds_toArray, List.set_cons_zero, List.set_cons_succ]
    refine wpL_take (i := 3) (oi := _) (v := ?_) [19, 12, 8, 7, 5, 4] rfl (by kernel_rfl) (by kernel_rfl) (by kernel_rfl) (by kernel_rfl) (by kernel_rfl) (fun _ _ _ h => h) (Or.inl ⟨by rfl, ?_⟩) (by assumption) ?_
    rotate_left
    · (intro W hSw; (try dsimp only at hSw); go_simp; try with_reducible rfl)
    try simp only [Act.put, List.getElem_toArray, List.getElem_cons_succ, List.getElem_cons_zero, List.setIfInBounds_toArray, List.set_cons_zero, List.set_cons_succ]
    refine wpL_take (i := 4) (oi := _) (v := ?_) [19, 12, 8, 7, 5] rfl (by kernel_rfl) (by kernel_rfl) (by kernel_rfl) (by kernel_rfl) (by kernel_rfl) (fun _ _ _ h => h) (Or.inl ⟨by rfl, ?_⟩) (by assumption) ?_
    rotate_left
    · (intro W hSw; (try dsimp only at hSw); go_simp; try with_reducible rfl)
    try simp only [Act.put, List.getElem_toArray, List.getElem_cons_succ, List.getElem_cons_zero, List.setIfInBounds_toArray, List.set_cons_zero, List.set_cons_succ]
    refine wpL_take (i := 5) (oi := _) (v := ?_) [19, 12, 8, 7] rfl (by kernel_rfl) (by kernel_rfl) (by kernel_rfl) (by kernel_rfl) (by kernel_rfl) (fun _ _ _ h => h) (Or.inl ⟨by rfl, ?_⟩) (by assumption) ?_
    rotate_left
    · (intro W hSw; (try dsimp only at hSw); go_simp; try with_reducible rfl)
    try simp only [Act.put, List.getElem_toArray, List.getElem_cons_succ, List.getElem_cons_zero, List.setIfInBounds_toArray, List.set_cons_zero, List.set_cons_succ]
    refine wpL_take (i := 6) (oi := _) (v := ?_) [19, 12, 8, 7] rfl (by kernel_rfl) (by kernel_rfl) (by kernel_rfl) (by kernel_rfl) (by kernel_rfl) (fun _ _ _ h => h) (Or.inl ⟨by rfl, ?_⟩) (by assumption) ?_
    rotate_left
    · (intro W hSw; (try dsimp only at hSw); go_simp; try with_reducible rfl)
    try simp only [Act.put, List.getElem_toArray, List.getElem_cons_succ, List.getElem_cons_zero, List.setIfInBounds_toArray, List.set_cons_zero, List.set_cons_succ]
    refine wpL_take (i := 7) (oi := _) (v := ?_) [19, 12, 8] rfl (by kernel_rfl) (by kernel_rfl) (by kernel_rfl) (by kernel_rfl) (by kernel_rfl) (fun _ _ _ h => h) (Or.inl ⟨by rfl, ?_⟩) (by assumption) ?_
    rotate_left
    · (intro W hSw; (try dsimp only at hSw); go_simp; try with_reducible rfl)
    try simp only [Act.put, List.getElem_toArray, List.getElem_cons_succ, List.getElem_cons_zero, List.setIfInBounds_toArray, List.set_cons_zero, List.set_cons_succ]
    refine wpL_take (i := 9) (oi := _) (v := ?_) [19, 12, 11, 10] rfl (by kernel_rfl) (by kernel_rfl) (by kernel_rfl) (by kernel_rfl) (by kernel_rfl) (fun _ _ _ h => h) (Or.inl ⟨by rfl, ?_⟩) (by assumption) ?_
    rotate_left
    · (intro W hSw; (try dsimp only at hSw); go_simp; try with_reducible rfl)
    try simp only [Act.put, List.getElem_toArray, List.getElem_cons_succ, List.getElem_cons_zero, List.setIfInBounds_toArray, List.set_cons_zero, List.set_cons_succ]
    refine wpL_take (i := 10) (oi := _) (v := ?_) [19, 12, 11] rfl (by kernel_rfl) (by kernel_rfl) (by kernel_rfl) (by kernel_rfl) (by kernel_rfl) (fun _ _ _ h => h) (Or.inl ⟨by rfl, ?_⟩) (by assumption) ?_
    rotate_left
    · (intro W hSw; (try dsimp only at hSw); go_simp; try with_reducible rfl)
    try simp only [Act.put, List.getElem_toArray, List.getElem_cons_succ, List.getElem_cons_zero, List.setIfInBounds_toArray, List.set_cons_zero, List.set_cons_succ]
    refine wpL_take (i := 13) (oi := _) (v := ?_) [19, 18, 16, 15, 14] rfl (by kernel_rfl) (by kernel_rfl) (by kernel_rfl) (by kernel_rfl) (by kernel_rfl) (fun _ _ _ h => h) (Or.inl ⟨by rfl, ?_⟩) (by assumption) ?_
    rotate_left
    · (intro W hSw; (try dsimp only at hSw); go_simp; try with_reducible rfl)
    try simp only [Act.put, List.getElem_toArray, List.getElem_cons_succ, List.getElem_cons_zero, List.setIfInBounds_toArray, List.set_cons_zero, List.set_cons_succ]
    refine wpL_take (i := 14) (oi := _) (v := ?_) [19, 18, 16, 15] rfl (by kernel_rfl) (by kernel_rfl) (by kernel_rfl) (by kernel_rfl) (by kernel_rfl) (fun _ _ _ h => h) (Or.inl ⟨by rfl, ?_⟩) (by assumption) ?_
    rotate_left
    · (intro W hSw; (try dsimp only at hSw); go_simp; try with_reducible rfl)
    try simp only [Act.put, List.getElem_toArray, List.getElem_cons_succ, List.getElem_cons_zero, List.setIfInBounds_toArray, List.set_cons_zero, List.set_cons_succ]
    refine wpL_take (i := 15) (oi := _) (v := ?_) [19, 18, 16] rfl (by kernel_rfl) (by kernel_rfl) (by kernel_rfl) (by kernel_rfl) (by kernel_rfl) (fun _ _ _ h => h) (Or.inl ⟨by rfl, ?_⟩) (by assumption) ?_
    rotate_left
    · (intro W hSw; (try dsimp only at hSw); go_simp; try with_reducible rfl)
    try simp only [Act.put, List.getElem_toArray, List.getElem_cons_succ, List.getElem_cons_zero, List.setIfInBounds_toArray, List.set_cons_zero, List.set_cons_succ]
    refine wpL_take (i := 16) (oi := _) (v := ?_) [19, 18] rfl (by kernel_rfl) (by kernel_rfl) (by kernel_rfl) (by kernel_rfl) (by kernel_rfl) (fun _ _ _ h => h) (Or.inl ⟨by rfl, ?_⟩) (by assumption) ?_
    rotate_left
    · (intro W hSw; (try dsimp only at hSw); go_simp; try with_reducible rfl)
    try simp only [Act.put, List.getElem_toArray, List.getElem_cons_succ, List.getElem_cons_zero, List.setIfInBounds_toArray, List.set_cons_zero, List.set_cons_succ]
    refine wpL_take (i := 17) (oi := _) (v := ?_) [19, 18] rfl (by kernel_rfl) (by kernel_rfl) (by kernel_rfl) (by kernel_rfl) (by kernel_rfl) (fun _ _ _ h => h) (Or.inl ⟨by rfl, ?_⟩) (by assumption) ?_
    rotate_left
    · (intro W hSw; (try dsimp only at hSw); go_simp; try with_reducible rfl)
    try simp only [Act.put, List.getElem_toArray, List.getElem_cons_succ, List.getElem_cons_zero, List.setIfInBounds_toArray, List.set_cons_zero, List.set_cons_succ]
    refine wpL_take (i := 18) (oi := _) (v := ?_) [19] rfl (by kernel_rfl) (by kernel_rfl) (by kernel_rfl) (by kernel_rfl) (by kernel_rfl) (fun _ _ _ h => h) (Or.inl ⟨by rfl, ?_⟩) (by assumption) ?_
    rotate_left
    · (intro W hSw; (try dsimp only at hSw); go_simp; try with_reducible rfl)
    try simp only [Act.put, List.getElem_toArray, List.getElem_cons_succ, List.getElem_cons_zero, List.setIfInBounds_toArray, List.set_cons_zero, List.set_cons_succ]
    generalize hA2 : (if c = j then A else Option.map (fun x => x.add (j * 5)) A) = A2 at HP ⊢
    clear hA2
    have HL1 : Hid ((ecs (ls.take j)).length = j * 5) := by show _ = _; rw [ecs_len, List.length_take, Nat.min_eq_left (by have := HN.out; omega)]
    have HL2 : Hid ((ecs (ls.drop j)).length = (n - j) * 5) := by show _ = _; rw [ecs_len, List.length_drop, ← HN.out]
    clear hHeld
    have HB0 : Hid (Below w8.heap.size w8 w8) := Below.refl _ _
    refine wpL_ready (rs := [1, 11]) (by kernel_rfl) (by simp) ?_
    refine AllL.cons rfl (fun K hK => ?_) (AllL.cons rfl (fun K hK => ?_) AllL.nil)
    · simp only [List.getElem_toArray, List.getElem_cons_succ, List.getElem_cons_zero]
      rw [if_pos (by rfl)]
      go_simp
      refine hK.out _ _ (Or.inr (HS.out _ (HB0.out.alloc HB0.out.size (.cells #[] TEn)))) ?_
      clear hK K
      try simp only [Act.put, List.getElem_toArray, List.getElem_cons_succ, List.getElem_cons_zero, List.setIfInBounds_toArray, List.set_cons_zero, List.set_cons_succ]
      obtain ⟨B3, hB3⟩ : ∃ b, b = w8.heap.size := ⟨_, rfl⟩
      obtain ⟨X1, hX1⟩ : ∃ V, V = w8.alloc (.cells #[] TEn) := ⟨_, rfl⟩
      have HB2 : Hid (Below w8.heap.size w8 X1) := by rw [hX1]; exact HB0.out.alloc HB0.out.size _
      have O4 : Hid (X1.ownsRow w8.heap.size TEn 5 (.slice (some ⟨B3, 0, none⟩) 0 0) 0 []) := by rw [hX1, hB3]; exact World.ownsRow_made w8 #[] 0 HB0.out.size (Nat.zero_le _) rfl
      rw [← hX1, ← hB3]
      clear hX1 hB3
      refine wpL_ready (rs := [8, 11]) (by kernel_rfl) (by simp) ?_
      refine AllL.cons rfl (fun K hK => ?_) (AllL.cons rfl (fun K hK => ?_) AllL.nil)
      · simp only [List.getElem_toArray, List.getElem_cons_succ, List.getElem_cons_zero]
        rw [if_pos (by rfl)]
        refine wp_append_any _ _ _ (by rfl) w8.heap.size TEn i0 en0.val 5 40 Try.underlying29 hi' hz0 hz1 hz2 rfl (by decide) _ _ _ (by rfl) O4.out A j c (ecs (ls.take j)) (by rfl) HL1.out (HP.out.below HB2.out).f1 HP.out.no1 (ecs_one _) (by unfold maxLen; omega) (by omega) HB2.out.size ?_
        intro v8 X5 hown hg
        have HB6 : Hid (Below w8.heap.size w8 X5) := HB2.out.grown hg HB2.out.size fun k hk => (O4.out.lt k hk).1
        have O7 := Lib.hid hown
        refine hK.out _ _ (Or.inr (HS.out _ HB6.out)) ?_
        clear hK K hown hg
        try simp only [Act.put, List.setIfInBounds_toArray, List.set_cons_zero, List.set_cons_succ]
        refine wpL_ready (rs := [11]) (by kernel_rfl) (by simp) ?_
        refine AllL.cons rfl (fun K hK => ?_) AllL.nil
        · simp only [List.getElem_toArray, List.getElem_cons_succ, List.getElem_cons_zero]
          rw [if_pos (by rfl)]
          go_simp
          refine hK.out _ _ (Or.inr (HS.out _ (HB6.out.alloc HB6.out.size (.cells #[.int .i64 kc, .int .i64 kf, .int .u64 ks, .int .i64 1, .int .i64 0] TEn)))) ?_
          clear hK K
          try simp only [Act.put, List.getElem_toArray, List.getElem_cons_succ, List.getElem_cons_zero, List.setIfInBounds_toArray, List.set_cons_zero, List.set_cons_succ]
          obtain ⟨B11, hB11⟩ : ∃ b, b = X5.heap.size := ⟨_, rfl⟩
          obtain ⟨X9, hX9⟩ : ∃ V, V = X5.alloc (.cells #[.int .i64 kc, .int .i64 kf, .int .u64 ks, .int .i64 1, .int .i64 0] TEn) := ⟨_, rfl⟩
          have HB10 : Hid (Below w8.heap.size w8 X9) := by rw [hX9]; exact HB6.out.alloc HB6.out.size _
          have NB12 : Hid (X9.heap[B11]? = some (.cells #[.int .i64 kc, .int .i64 kf, .int .u64 ks, .int .i64 1, .int .i64 0] TEn)) := by rw [hX9, hB11]; exact heap_alloc_new X5 _
          have O13 := Lib.hid (O7.out.alloc (.cells #[.int .i64 kc, .int .i64 kf, .int .u64 ks, .int .i64 1, .int .i64 0] TEn))
          rw [← hX9] at O13
          rw [← hX9, ← hB11]
          clear hX9 hB11
          refine wpL_ready (rs := [12]) (by kernel_rfl) (by simp) ?_
          refine AllL.cons rfl (fun K hK => ?_) AllL.nil
          · simp only [List.getElem_toArray, List.getElem_cons_succ, List.getElem_cons_zero]
            rw [if_pos (by rfl)]
            refine wp_append_any _ _ _ (by rfl) w8.heap.size TEn i0 en0.val 5 40 Try.underlying29 hi' hz0 hz1 hz2 rfl (by decide) _ _ _ (by rfl) O13.out (some ⟨B11, 0, none⟩) 1 1 (encE ⟨⟨kc, kf, ks⟩, 1, 0⟩) (by rfl) rfl (fun ad ha => by injection ha with ha; subst ha; exact World.news_of_block (cs := En.cells ⟨⟨kc, kf, ks⟩, 1, 0⟩) NB12.out) (fun h => by cases h) (encE_one _) (by unfold maxLen; omega) (by omega) HB10.out.size ?_
            intro v17 X14 hown hg
            have HB15 : Hid (Below w8.heap.size w8 X14) := HB10.out.grown hg HB10.out.size fun k hk => (O13.out.lt k hk).1
            have O16 := Lib.hid hown
            refine hK.out _ _ (Or.inr (HS.out _ HB15.out)) ?_
            clear hK K hown hg
            try simp only [Act.put, List.setIfInBounds_toArray, List.set_cons_zero, List.set_cons_succ]
            refine wpL_ready (rs := [19]) (by kernel_rfl) (by simp) ?_
            refine AllL.cons rfl (fun K hK => ?_) AllL.nil
            · simp only [List.getElem_toArray, List.getElem_cons_succ, List.getElem_cons_zero]
              rw [if_pos (by rfl)]
              refine wp_append_any _ _ _ (by rfl) w8.heap.size TEn i0 en0.val 5 40 Try.underlying29 hi' hz0 hz1 hz2 rfl (by decide) _ _ _ (by rfl) O16.out A2 (n - j) (c - j) (ecs (ls.drop j)) (by rfl) HL2.out (HP.out.below HB15.out).f2 HP.out.no2 (ecs_one _) (by unfold maxLen; omega) (by omega) HB15.out.size ?_
              intro v21 X18 hown hg
              have HB19 : Hid (Below w8.heap.size w8 X18) := HB15.out.grown hg HB15.out.size fun k hk => (O16.out.lt k hk).1
              have O20 := Lib.hid hown
              refine hK.out _ _ (Or.inr (HS.out _ HB19.out)) ?_
              clear hK K hown hg
              try simp only [Act.put, List.setIfInBounds_toArray, List.set_cons_zero, List.set_cons_succ]
              have hHeld := HS.out _ HB19.out
              refine wpL_take (i := 20) (oi := _) (v := ?_) [21] rfl (by kernel_rfl) (by kernel_rfl) (by kernel_rfl) (by kernel_rfl) (by kernel_rfl) (fun _ _ _ h => h) (Or.inl ⟨by rfl, ?_⟩) (by assumption) ?_
              rotate_left
              · (intro W hSw; (try dsimp only at hSw); go_simp; try with_reducible rfl)
              try simp only [Act.put, List.getElem_toArray, List.getElem_cons_succ, List.getElem_cons_zero, List.setIfInBounds_toArray, List.set_cons_zero, List.set_cons_succ]
              clear hHeld
              have hHeld := HS.out _ HB19.out
              refine wpL_take (i := 21) (oi := _) (v := ?_) [] rfl (by kernel_rfl) (by kernel_rfl) (by kernel_rfl) (by kernel_rfl) (by kernel_rfl) (fun _ _ _ h => h) (Or.inl ⟨by rfl, ?_⟩) (by assumption) ?_
              rotate_left
              · (intro W hSw; (try dsimp only at hSw); go_simp; try with_reducible rfl)
              try simp only [Act.put, List.getElem_toArray, List.getElem_cons_succ, List.getElem_cons_zero, List.setIfInBounds_toArray, List.set_cons_zero, List.set_cons_succ]
              clear hHeld
              refine wpL_ready (rs := [22]) (by kernel_rfl) (by simp) ?_
              refine AllL.cons rfl (fun K hK => ?_) AllL.nil
              · simp only [List.getElem_toArray, List.getElem_cons_succ, List.getElem_cons_zero]
                rw [if_pos (by rfl)]
                have q := (HQ8.out.below HB19.out).cell.1
                have qf := (HQ8.out.below HB19.out).cell.2.2
                obtain ⟨A9, n9, c9, hv9⟩ := own_form5 O20.out
                subst hv9
                go_simp
                refine hK.out _ _ (Or.inl rfl) ?_
                clear hK K q qf
                try simp only [Act.put, List.getElem_toArray, List.getElem_cons_succ, List.getElem_cons_zero, List.setIfInBounds_toArray, List.set_cons_zero, List.set_cons_succ]
                refine wpL_done (by kernel_rfl) ?_ _
                have hsw := (HQ8.out.below HB19.out).swap (ls' := qIns K0 ls) (by have ho := O20.out; unfold qIns; rw [HJ.out, ecs_append, show ecs (⟨K0, 1, 0⟩ :: ls.drop j) = encE ⟨K0, 1, 0⟩ ++ ecs (ls.drop j) from rfl, show (ls.take j ++ ⟨K0, 1, 0⟩ :: ls.drop j).length = 0 + j + 1 + (n - j) by rw [List.length_append, List.length_cons, List.length_take, List.length_drop, Nat.min_eq_left (by have := HN.out; omega)]; have := HN.out; omega, HK0.out]; simpa only [List.nil_append, List.append_assoc] using ho) (Nat.succ_le_of_lt HQ8.out.lt)
                have HSW := Lib.hid (And.intro hsw ((HB8.out.trans (HB19.out.mono (Nat.le_of_lt HQ8.out.lt))).setCell (p := ⟨Q, 0, none⟩) (Nat.le_refl _) (.slice A9 n9 c9)))
                clear hsw
                go_wp2
                go_ret
                exact ⟨by rw [HR2.out]; first | rfl | trivial, _, by unfold qiL; rw [if_pos HR2.out]; exact HSW.out.1, HSW.out.2⟩
      · simp only [List.getElem_toArray, List.getElem_cons_succ, List.getElem_cons_zero]
        rw [if_pos (by rfl)]
        go_simp
        refine hK.out _ _ (Or.inr (HS.out _ (HB2.out.alloc HB2.out.size (.cells #[.int .i64 kc, .int .i64 kf, .int .u64 ks, .int .i64 1, .int .i64 0] TEn)))) ?_
        clear hK K
        try simp only [Act.put, List.getElem_toArray, List.getElem_cons_succ, List.getElem_cons_zero, List.setIfInBounds_toArray, List.set_cons_zero, List.set_cons_succ]
        obtain ⟨B24, hB24⟩ : ∃ b, b = X1.heap.size := ⟨_, rfl⟩
        obtain ⟨X22, hX22⟩ : ∃ V, V = X1.alloc (.cells #[.int .i64 kc, .int .i64 kf, .int .u64 ks, .int .i64 1, .int .i64 0] TEn) := ⟨_, rfl⟩
        have HB23 : Hid (Below w8.heap.size w8 X22) := by rw [hX22]; exact HB2.out.alloc HB2.out.size _
        have NB25 : Hid (X22.heap[B24]? = some (.cells #[.int .i64 kc, .int .i64 kf, .int .u64 ks, .int .i64 1, .int .i64 0] TEn)) := by rw [hX22, hB24]; exact heap_alloc_new X1 _
        have O26 := Lib.hid (O4.out.alloc (.cells #[.int .i64 kc, .int .i64 kf, .int .u64 ks, .int .i64 1, .int .i64 0] TEn))
        rw [← hX22] at O26
        have HNE : Hid (B24 ≠ B3) := by have := (O4.out.lt B3 rfl).2; show _ ≠ _; omega
        rw [← hX22, ← hB24]
        clear hX22 hB24
        refine wpL_ready (rs := [8]) (by kernel_rfl) (by simp) ?_
        refine AllL.cons rfl (fun K hK => ?_) AllL.nil
        · simp only [List.getElem_toArray, List.getElem_cons_succ, List.getElem_cons_zero]
          rw [if_pos (by rfl)]
          refine wp_append_any _ _ _ (by rfl) w8.heap.size TEn i0 en0.val 5 40 Try.underlying29 hi' hz0 hz1 hz2 rfl (by decide) _ _ _ (by rfl) O26.out A j c (ecs (ls.take j)) (by rfl) HL1.out (HP.out.below HB23.out).f1 HP.out.no1 (ecs_one _) (by unfold maxLen; omega) (by omega) HB23.out.size ?_
          intro v30 X27 hown hg
          have HB28 : Hid (Below w8.heap.size w8 X27) := HB23.out.grown hg HB23.out.size fun k hk => (O26.out.lt k hk).1
          have O29 := Lib.hid hown
          have NB31 : Hid (X27.heap[B24]? = some (.cells #[.int .i64 kc, .int .i64 kf, .int .u64 ks, .int .i64 1, .int .i64 0] TEn)) := (hg.block B24 (Array.getElem?_eq_some_iff.1 NB25.out).1 (fun e => HNE.out (by injection e))).trans NB25.out
          refine hK.out _ _ (Or.inr (HS.out _ HB28.out)) ?_
          clear hK K hown hg
          try simp only [Act.put, List.setIfInBounds_toArray, List.set_cons_zero, List.set_cons_succ]
          refine wpL_ready (rs := [12]) (by kernel_rfl) (by simp) ?_
          refine AllL.cons rfl (fun K hK => ?_) AllL.nil
          · simp only [List.getElem_toArray, List.getElem_cons_succ, List.getElem_cons_zero]
            rw [if_pos (by rfl)]
            refine wp_append_any _ _ _ (by rfl) w8.heap.size TEn i0 en0.val 5 40 Try.underlying29 hi' hz0 hz1 hz2 rfl (by decide) _ _ _ (by rfl) O29.out (some ⟨B24, 0, none⟩) 1 1 (encE ⟨⟨kc, kf, ks⟩, 1, 0⟩) (by rfl) rfl (fun ad ha => by injection ha with ha; subst ha; exact World.news_of_block (cs := En.cells ⟨⟨kc, kf, ks⟩, 1, 0⟩) NB31.out) (fun h => by cases h) (encE_one _) (by unfold maxLen; omega) (by omega) HB28.out.size ?_
            intro v35 X32 hown hg
            have HB33 : Hid (Below w8.heap.size w8 X32) := HB28.out.grown hg HB28.out.size fun k hk => (O29.out.lt k hk).1
            have O34 := Lib.hid hown
            refine hK.out _ _ (Or.inr (HS.out _ HB33.out)) ?_
            clear hK K hown hg
            try simp only [Act.put, List.setIfInBounds_toArray, List.set_cons_zero, List.set_cons_succ]
            refine wpL_ready (rs := [19]) (by kernel_rfl) (by simp) ?_
            refine AllL.cons rfl (fun K hK => ?_) AllL.nil
            · simp only [List.getElem_toArray, List.getElem_cons_succ, List.getElem_cons_zero]
              rw [if_pos (by rfl)]
              refine wp_append_any _ _ _ (by rfl) w8.heap.size TEn i0 en0.val 5 40 Try.underlying29 hi' hz0 hz1 hz2 rfl (by decide) _ _ _ (by rfl) O34.out A2 (n - j) (c - j) (ecs (ls.drop j)) (by rfl) HL2.out (HP.out.below HB33.out).f2 HP.out.no2 (ecs_one _) (by unfold maxLen; omega) (by omega) HB33.out.size ?_
              intro v39 X36 hown hg
              have HB37 : Hid (Below w8.heap.size w8 X36) := HB33.out.grown hg HB33.out.size fun k hk => (O34.out.lt k hk).1
              have O38 := Lib.hid hown
              refine hK.out _ _ (Or.inr (HS.out _ HB37.out)) ?_
              clear hK K hown hg
              try simp only [Act.put, List.setIfInBounds_toArray, List.set_cons_zero, List.set_cons_succ]
              have hHeld := HS.out _ HB37.out
              refine wpL_take (i := 20) (oi := _) (v := ?_) [21] rfl (by kernel_rfl) (by kernel_rfl) (by kernel_rfl) (by kernel_rfl) (by kernel_rfl) (fun _ _ _ h => h) (Or.inl ⟨by rfl, ?_⟩) (by assumption) ?_
              rotate_left
              · (intro W hSw; (try dsimp only at hSw); go_simp; try with_reducible rfl)
              try simp only [Act.put, List.getElem_toArray, List.getElem_cons_succ, List.getElem_cons_zero, List.setIfInBounds_toArray, List.set_cons_zero, List.set_cons_succ]
              clear hHeld
              have hHeld := HS.out _ HB37.out
              refine wpL_take (i := 21) (oi := _) (v := ?_) [] rfl (by kernel_rfl) (by kernel_rfl) (by kernel_rfl) (by kernel_rfl) (by kernel_rfl) (fun _ _ _ h => h) (Or.inl ⟨by rfl, ?_⟩) (by assumption) ?_
              rotate_left
              · (intro W hSw; (try dsimp only at hSw); go_simp; try with_reducible rfl)
              try simp only [Act.put, List.getElem_toArray, List.getElem_cons_succ, List.getElem_cons_zero, List.setIfInBounds_toArray, List.set_cons_zero, List.set_cons_succ]
              clear hHeld
              refine wpL_ready (rs := [22]) (by kernel_rfl) (by simp) ?_
              refine AllL.cons rfl (fun K hK => ?_) AllL.nil
              · simp only [List.getElem_toArray, List.getElem_cons_succ, List.getElem_cons_zero]
                rw [if_pos (by rfl)]
                have q := (HQ8.out.below HB37.out).cell.1
                have qf := (HQ8.out.below HB37.out).cell.2.2
                obtain ⟨A9, n9, c9, hv9⟩ := own_form5 O38.out
                subst hv9
                go_simp
                refine hK.out _ _ (Or.inl rfl) ?_
                clear hK K q qf
                try simp only [Act.put, List.getElem_toArray, List.getElem_cons_succ, List.getElem_cons_zero, List.setIfInBounds_toArray, List.set_cons_zero, List.set_cons_succ]
                refine wpL_done (by kernel_rfl) ?_ _
                have hsw := (HQ8.out.below HB37.out).swap (ls' := qIns K0 ls) (by have ho := O38.out; unfold qIns; rw [HJ.out, ecs_append, show ecs (⟨K0, 1, 0⟩ :: ls.drop j) = encE ⟨K0, 1, 0⟩ ++ ecs (ls.drop j) from rfl, show (ls.take j ++ ⟨K0, 1, 0⟩ :: ls.drop j).length = 0 + j + 1 + (n - j) by rw [List.length_append, List.length_cons, List.length_take, List.length_drop, Nat.min_eq_left (by have := HN.out; omega)]; have := HN.out; omega, HK0.out]; simpa only [List.nil_append, List.append_assoc] using ho) (Nat.succ_le_of_lt HQ8.out.lt)
                have HSW := Lib.hid (And.intro hsw ((HB8.out.trans (HB37.out.mono (Nat.le_of_lt HQ8.out.lt))).setCell (p := ⟨Q, 0, none⟩) (Nat.le_refl _) (.slice A9 n9 c9)))
                clear hsw
                go_wp2
                go_ret
                exact ⟨by rw [HR2.out]; first | rfl | trivial, _, by unfold qiL; rw [if_pos HR2.out]; exact HSW.out.1, HSW.out.2⟩
    · simp only [List.getElem_toArray, List.getElem_cons_succ, List.getElem_cons_zero]
      rw [if_pos (by rfl)]
      go_simp
      refine hK.out _ _ (Or.inr (HS.out _ (HB0.out.alloc HB0.out.size (.cells #[.int .i64 kc, .int .i64 kf, .int .u64 ks, .int .i64 1, .int .i64 0] TEn)))) ?_
      clear hK K
      try simp only [Act.put, List.getElem_toArray, List.getElem_cons_succ, List.getElem_cons_zero, List.setIfInBounds_toArray, List.set_cons_zero, List.set_cons_succ]
      obtain ⟨B42, hB42⟩ : ∃ b, b = w8.heap.size := ⟨_, rfl⟩
      obtain ⟨X40, hX40⟩ : ∃ V, V = w8.alloc (.cells #[.int .i64 kc, .int .i64 kf, .int .u64 ks, .int .i64 1, .int .i64 0] TEn) := ⟨_, rfl⟩
      have HB41 : Hid (Below w8.heap.size w8 X40) := by rw [hX40]; exact HB0.out.alloc HB0.out.size _
      have NB43 : Hid (X40.heap[B42]? = some (.cells #[.int .i64 kc, .int .i64 kf, .int .u64 ks, .int .i64 1, .int .i64 0] TEn)) := by rw [hX40, hB42]; exact heap_alloc_new w8 _
      rw [← hX40, ← hB42]
      clear hX40 hB42
      refine wpL_ready (rs := [1]) (by kernel_rfl) (by simp) ?_
      refine AllL.cons rfl (fun K hK => ?_) AllL.nil
      · simp only [List.getElem_toArray, List.getElem_cons_succ, List.getElem_cons_zero]
        rw [if_pos (by rfl)]
        go_simp
        refine hK.out _ _ (Or.inr (HS.out _ (HB41.out.alloc HB41.out.size (.cells #[] TEn)))) ?_
        clear hK K
        try simp only [Act.put, List.getElem_toArray, List.getElem_cons_succ, List.getElem_cons_zero, List.setIfInBounds_toArray, List.set_cons_zero, List.set_cons_succ]
        obtain ⟨B46, hB46⟩ : ∃ b, b = X40.heap.size := ⟨_, rfl⟩
        obtain ⟨X44, hX44⟩ : ∃ V, V = X40.alloc (.cells #[] TEn) := ⟨_, rfl⟩
        have HB45 : Hid (Below w8.heap.size w8 X44) := by rw [hX44]; exact HB41.out.alloc HB41.out.size _
        have O47 : Hid (X44.ownsRow w8.heap.size TEn 5 (.slice (some ⟨B46, 0, none⟩) 0 0) 0 []) := by rw [hX44, hB46]; exact World.ownsRow_made X40 #[] 0 HB41.out.size (Nat.zero_le _) rfl
        have NB48 : Hid (X44.heap[B42]? = some (.cells #[.int .i64 kc, .int .i64 kf, .int .u64 ks, .int .i64 1, .int .i64 0] TEn)) := by rw [hX44]; exact (Below.heap_alloc _ _ _ (Array.getElem?_eq_some_iff.1 NB43.out).1).trans NB43.out
        have HNE : Hid (B42 ≠ B46) := by have := (Array.getElem?_eq_some_iff.1 NB43.out).1; show _ ≠ _; omega
        rw [← hX44, ← hB46]
        clear hX44 hB46
        refine wpL_ready (rs := [8]) (by kernel_rfl) (by simp) ?_
        refine AllL.cons rfl (fun K hK => ?_) AllL.nil
        · simp only [List.getElem_toArray, List.getElem_cons_succ, List.getElem_cons_zero]
          rw [if_pos (by rfl)]
          refine wp_append_any _ _ _ (by rfl) w8.heap.size TEn i0 en0.val 5 40 Try.underlying29 hi' hz0 hz1 hz2 rfl (by decide) _ _ _ (by rfl) O47.out A j c (ecs (ls.take j)) (by rfl) HL1.out (HP.out.below HB45.out).f1 HP.out.no1 (ecs_one _) (by unfold maxLen; omega) (by omega) HB45.out.size ?_
          intro v52 X49 hown hg
          have HB50 : Hid (Below w8.heap.size w8 X49) := HB45.out.grown hg HB45.out.size fun k hk => (O47.out.lt k hk).1
          have O51 := Lib.hid hown
          have NB53 : Hid (X49.heap[B42]? = some (.cells #[.int .i64 kc, .int .i64 kf, .int .u64 ks, .int .i64 1, .int .i64 0] TEn)) := (hg.block B42 (Array.getElem?_eq_some_iff.1 NB48.out).1 (fun e => HNE.out (by injection e))).trans NB48.out
          refine hK.out _ _ (Or.inr (HS.out _ HB50.out)) ?_
          clear hK K hown hg
          try simp only [Act.put, List.setIfInBounds_toArray, List.set_cons_zero, List.set_cons_succ]
          refine wpL_ready (rs := [12]) (by kernel_rfl) (by simp) ?_
          refine AllL.cons rfl (fun K hK => ?_) AllL.nil
          · simp only [List.getElem_toArray, List.getElem_cons_succ, List.getElem_cons_zero]
            rw [if_pos (by rfl)]
            refine wp_append_any _ _ _ (by rfl) w8.heap.size TEn i0 en0.val 5 40 Try.underlying29 hi' hz0 hz1 hz2 rfl (by decide) _ _ _ (by rfl) O51.out (some ⟨B42, 0, none⟩) 1 1 (encE ⟨⟨kc, kf, ks⟩, 1, 0⟩) (by rfl) rfl (fun ad ha => by injection ha with ha; subst ha; exact World.news_of_block (cs := En.cells ⟨⟨kc, kf, ks⟩, 1, 0⟩) NB53.out) (fun h => by cases h) (encE_one _) (by unfold maxLen; omega) (by omega) HB50.out.size ?_
            intro v57 X54 hown hg
            have HB55 : Hid (Below w8.heap.size w8 X54) := HB50.out.grown hg HB50.out.size fun k hk => (O51.out.lt k hk).1
            have O56 := Lib.hid hown
            refine hK.out _ _ (Or.inr (HS.out _ HB55.out)) ?_
            clear hK K hown hg
            try simp only [Act.put, List.setIfInBounds_toArray, List.set_cons_zero, List.set_cons_succ]
            refine wpL_ready (rs := [19]) (by kernel_rfl) (by simp) ?_
            refine AllL.cons rfl (fun K hK => ?_) AllL.nil
            · simp only [List.getElem_toArray, List.getElem_cons_succ, List.getElem_cons_zero]
              rw [if_pos (by rfl)]
              refine wp_append_any _ _ _ (by rfl) w8.heap.size TEn i0 en0.val 5 40 Try.underlying29 hi' hz0 hz1 hz2 rfl (by decide) _ _ _ (by rfl) O56.out A2 (n - j) (c - j) (ecs (ls.drop j)) (by rfl) HL2.out (HP.out.below HB55.out).f2 HP.out.no2 (ecs_one _) (by unfold maxLen; omega) (by omega) HB55.out.size ?_
              intro v61 X58 hown hg
              have HB59 : Hid (Below w8.heap.size w8 X58) := HB55.out.grown hg HB55.out.size fun k hk => (O56.out.lt k hk).1
              have O60 := Lib.hid hown
              refine hK.out _ _ (Or.inr (HS.out _ HB59.out)) ?_
              clear hK K hown hg
              try simp only [Act.put, List.setIfInBounds_toArray, List.set_cons_zero, List.set_cons_succ]
              have hHeld := HS.out _ HB59.out
              refine wpL_take (i := 20) (oi := _) (v := ?_) [21] rfl (by kernel_rfl) (by kernel_rfl) (by kernel_rfl) (by kernel_rfl) (by kernel_rfl) (fun _ _ _ h => h) (Or.inl ⟨by rfl, ?_⟩) (by assumption) ?_
              rotate_left
              · (intro W hSw; (try dsimp only at hSw); go_simp; try with_reducible rfl)
              try simp only [Act.put, List.getElem_toArray, List.getElem_cons_succ, List.getElem_cons_zero, List.setIfInBounds_toArray, List.set_cons_zero, List.set_cons_succ]
              clear hHeld
              have hHeld := HS.out _ HB59.out
              refine wpL_take (i := 21) (oi := _) (v := ?_) [] rfl (by kernel_rfl) (by kernel_rfl) (by kernel_rfl) (by kernel_rfl) (by kernel_rfl) (fun _ _ _ h => h) (Or.inl ⟨by rfl, ?_⟩) (by assumption) ?_
              rotate_left
              · (intro W hSw; (try dsimp only at hSw); go_simp; try with_reducible rfl)
              try simp only [Act.put, List.getElem_toArray, List.getElem_cons_succ, List.getElem_cons_zero, List.setIfInBounds_toArray, List.set_cons_zero, List.set_cons_succ]
              clear hHeld
              refine wpL_ready (rs := [22]) (by kernel_rfl) (by simp) ?_
              refine AllL.cons rfl (fun K hK => ?_) AllL.nil
              · simp only [List.getElem_toArray, List.getElem_cons_succ, List.getElem_cons_zero]
                rw [if_pos (by rfl)]
                have q := (HQ8.out.below HB59.out).cell.1
                have qf := (HQ8.out.below HB59.out).cell.2.2
                obtain ⟨A9, n9, c9, hv9⟩ := own_form5 O60.out
                subst hv9
                go_simp
                refine hK.out _ _ (Or.inl rfl) ?_
                clear hK K q qf
                try simp only [Act.put, List.getElem_toArray, List.getElem_cons_succ, List.getElem_cons_zero, List.setIfInBounds_toArray, List.set_cons_zero, List.set_cons_succ]
                refine wpL_done (by kernel_rfl) ?_ _
                have hsw := (HQ8.out.below HB59.out).swap (ls' := qIns K0 ls) (by have ho := O60.out; unfold qIns; rw [HJ.out, ecs_append, show ecs (⟨K0, 1, 0⟩ :: ls.drop j) = encE ⟨K0, 1, 0⟩ ++ ecs (ls.drop j) from rfl, show (ls.take j ++ ⟨K0, 1, 0⟩ :: ls.drop j).length = 0 + j + 1 + (n - j) by rw [List.length_append, List.length_cons, List.length_take, List.length_drop, Nat.min_eq_left (by have := HN.out; omega)]; have := HN.out; omega, HK0.out]; simpa only [List.nil_append, List.append_assoc] using ho) (Nat.succ_le_of_lt HQ8.out.lt)
                have HSW := Lib.hid (And.intro hsw ((HB8.out.trans (HB59.out.mono (Nat.le_of_lt HQ8.out.lt))).setCell (p := ⟨Q, 0, none⟩) (Nat.le_refl _) (.slice A9 n9 c9)))
                clear hsw
                go_wp2
                go_ret
                exact ⟨by rw [HR2.out]; first | rfl | trivial, _, by unfold qiL; rw [if_pos HR2.out]; exact HSW.out.1, HSW.out.2⟩
  go_wp2
  go_loopw [5] (fun jv wr => ∃ j : Nat, jv = .int .i64 (j : Int) ∧ j ≤ n ∧ Hid (∀ q, (h : q < j) → (h2 : q < ls.length) → ltK (ls[q]'h2).k K0 = true) ∧ Hid (Below w1.heap.size w1 wr)) (fun jv _ => n - (intOf jv).toNat)
  case atStart => exact ⟨0, rfl, Nat.zero_le _, fun q h => by omega, hBD⟩
  case round =>
    clear hBD
    obtain ⟨j, rfl, hj, HJ, HB2⟩ := hrel
    have HQ2 := Lib.hid (HQ1.out.below HB2.out)
    have HK2 := Lib.hid (HK1.out.below HB2.out)
    have hj0 : (0 : Int) ≤ (j : Int) := by omega
    by_cases hlt : j < n
    · have hj1 : (j : Int) < (n : Int) := by omega
      obtain ⟨g, c1, hv, _, _, he⟩ := HQ2.out.rowE.at j (by have := HN.out; omega)
      injection hv with hv hv1 hv2
      clear hv1
      subst hv hv2
      have HTL : Hid (ltK (ls[j]'(by have := HN.out; omega)).k K0 = true → ∀ q, (h : q < j + 1) → (h2 : q < ls.length) → ltK (ls[q]'h2).k K0 = true) := fun hh q hq h2 => by
        rcases Nat.lt_or_ge q j with h | h
        · exact HJ.out q h h2
        · obtain rfl : q = j := by omega
          exact hh
      have HTF : Hid (ltK (ls[j]'(by have := HN.out; omega)).k K0 = false → qAt K0 ls = j) := fun hh => tw_len _ _ _ (by have := HN.out; omega) (fun q hq => HJ.out q hq _) (fun _ => hh)
      generalize ls[j]'(by have := HN.out; omega) = m at he HTL HTF
      have hS : SI Q g c n w.heap.size (j * 5) K0 m wr := ⟨HQ2.out.cell.1, he.c, he.f, he.s, HK2.out.c, HK2.out.f, HK2.out.s⟩
      have HLE := Lib.hid (fun V => rless_any m.k K0 V)
      cases hl : ltK m.k K0 with
      | true =>
        rw [hl] at HLE
        have HT := Lib.hid (HTL.out hl)
        clear HTL HTF
        obtain ⟨⟨mc, mf, ms⟩, mst, mow⟩ := m
        unfold K3.val at HLE
        rw [HK0.out] at HLE hS
        dsimp only at HLE hS
        have hSd := hS.drew
        unfold SI at hSd hS
        dsimp only at hSd hS
        have hsc := fun W W' (h : SI Q g c n w.heap.size (j * 5) ⟨kc, kf, ks⟩ ⟨⟨mc, mf, ms⟩, mst, mow⟩ W) hb => SI.call (W' := W') h hb
        unfold SI at hsc
        dsimp only at hsc
        have HSC := Lib.hid hsc
        clear hsc he
        go_wp2
        go_region_held3 (fun W => W.cell? ⟨Q, 0, none⟩ = some (.slice (some ⟨g, 0, none⟩) n c) ∧ W.cell? ⟨g, j * 5, none⟩ = some (.int .i64 mc) ∧ W.cell? ⟨g, j * 5 + 1, none⟩ = some (.int .i64 mf) ∧ W.cell? ⟨g, j * 5 + 2, none⟩ = some (.int .u64 ms) ∧ W.cell? ⟨w.heap.size, 0, none⟩ = some (.int .i64 kc) ∧ W.cell? ⟨w.heap.size, 1, none⟩ = some (.int .i64 kf) ∧ W.cell? ⟨w.heap.size, 2, none⟩ = some (.int .u64 ks))
          (first | assumption | exact HSC.out _ _ (by assumption) hb3)
          (first | (go_at_call 34; ((with_reducible refine (HLE.out _).mono ?_); rintro e w3 ⟨rfl, hb3⟩)))
        have HB3 : Hid (Below w1.heap.size w1 w3) := HB2.out.drew.trans (hb3.mono HB2.out.size)
        clear hb3 hSd hS
        go_wp2
        go_roundw
        case rel => exact ⟨j + 1, by go_num, by omega, HT.out, HB3.out⟩
        case measure => simp [intOf]; omega
      | false =>
        rw [hl] at HLE
        have HT := Lib.hid (HTF.out hl)
        clear HTL HTF
        obtain ⟨⟨mc, mf, ms⟩, mst, mow⟩ := m
        unfold K3.val at HLE
        rw [HK0.out] at HLE hS
        dsimp only at HLE hS
        have hSd := hS.drew
        unfold SI at hSd hS
        dsimp only at hSd hS
        have hsc := fun W W' (h : SI Q g c n w.heap.size (j * 5) ⟨kc, kf, ks⟩ ⟨⟨mc, mf, ms⟩, mst, mow⟩ W) hb => SI.call (W' := W') h hb
        unfold SI at hsc
        dsimp only at hsc
        have HSC := Lib.hid hsc
        clear hsc he
        go_wp2
        go_region_held3 (fun W => W.cell? ⟨Q, 0, none⟩ = some (.slice (some ⟨g, 0, none⟩) n c) ∧ W.cell? ⟨g, j * 5, none⟩ = some (.int .i64 mc) ∧ W.cell? ⟨g, j * 5 + 1, none⟩ = some (.int .i64 mf) ∧ W.cell? ⟨g, j * 5 + 2, none⟩ = some (.int .u64 ms) ∧ W.cell? ⟨w.heap.size, 0, none⟩ = some (.int .i64 kc) ∧ W.cell? ⟨w.heap.size, 1, none⟩ = some (.int .i64 kf) ∧ W.cell? ⟨w.heap.size, 2, none⟩ = some (.int .u64 ks))
          (first | assumption | exact HSC.out _ _ (by assumption) hb3)
          (first | (go_at_call 34; ((with_reducible refine (HLE.out _).mono ?_); rintro e w3 ⟨rfl, hb3⟩)))
        have HB3 : Hid (Below w1.heap.size w1 w3) := HB2.out.drew.trans (hb3.mono HB2.out.size)
        clear hb3 hSd hS
        go_wp2
        go_meet
        exact ⟨j, rfl, hj, HT.out, HB3.out⟩
    · obtain rfl : j = n := by omega
      have HT : Hid (qAt K0 ls = j) := tw_len _ _ _ (by have := HN.out; omega) (fun q hq => HJ.out q hq _) (fun h => by have := HN.out; omega)
      have q0 := HQ2.out.cell.1
      have hdf : decide ((j : Int) < (j : Int)) = false := by simp
      go_wp2
      go_quiet (fail)
      go_wp2
      go_meet
      exact ⟨j, rfl, Nat.le_refl _, HT.out, below_drewN HB2.out _⟩
end Go.Proofs.Ytmdjhcpafjgigaa.Mk
