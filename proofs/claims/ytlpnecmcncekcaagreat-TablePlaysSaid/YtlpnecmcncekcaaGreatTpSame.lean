/- TablePlays: Snapshots out of range; Same. -/
import Derived.Test.YtlpnecmcncekcaaGreatTpAll
import Derived.Deep.RegionHeld3
namespace Go.Proofs.YtlpnecmcncekcaaGreat.Mk
open Go Go.RowKit Go.MuLone Conf
set_option linter.unusedVariables false

set_option maxRecDepth 20000 in
theorem tsnap_none (W : World) : Calls Tryz.prog 30 #[.pointer none] W fun e w' => e = .returned (.slice none 0 0) ∧ w' = W := by
  go_enter_defers Tryz.func30, Tryz.ntmps30
  go_wp2
  simp [bodyPostD, Leaves, results, Tryz.results30, go_sem]
section
variable {W V X : World} {y : Lay} {M : Maps} {T g cap lo : Nat} {q : Nat → Nat} {v : Nat → Value} {ls : Nat → List En}
set_option maxRecDepth 20000 in
theorem tat_out (h : WT V y M) (i : Int) (hi : i < 0 ∨ (y.n : Int) ≤ i) :
    Calls Tryz.prog 29 #[.pointer (some ⟨y.T, 0, none⟩), .int .i64 i] V fun e w' => e = .returned (.pointer none) ∧ w' = V := by
  have HS := Lib.hid (shards_n h.tn)
  clear h
  by_cases h0 : i < 0
  · have d1 : decide (i < 0) = true := decide_eq_true h0
    clear hi h0
    go_enter Tryz.func29, Tryz.ntmps29
    go_wp2
    go_ret
    exact ⟨rfl, rfl⟩
  · have d1 : decide (i < 0) = false := decide_eq_false h0
    have d2 : decide ((y.n : Int) ≤ i) = true := decide_eq_true (by omega)
    clear hi h0
    go_enter Tryz.func29, Tryz.ntmps29
    go_wp2_with fail
    refine HS.out.mono ?_
    rintro _ w' ⟨rfl, hw⟩
    obtain rfl := hw.symm
    go_wp2
    go_ret
    exact ⟨rfl, rfl⟩
set_option maxRecDepth 20000 in
theorem tsnap_out (h : WT V y M) (i : Int) (hi : i < 0 ∨ (y.n : Int) ≤ i) :
    Calls Tryz.prog 10 #[.pointer (some ⟨y.T, 0, none⟩), .int .i64 i] V fun e w' => e = .returned (.slice none 0 0) ∧ w' = V := by
  have HA := Lib.hid (tat_out h i hi)
  clear h hi
  go_enter Tryz.func10, Tryz.ntmps10
  go_wp2_with fail
  refine HA.out.mono ?_
  rintro _ w' ⟨rfl, hw⟩
  obtain rfl := hw.symm
  go_wp2_with fail
  refine (tsnap_none _).mono ?_
  rintro _ w' ⟨rfl, hw⟩
  obtain rfl := hw.symm
  go_wp2
  go_ret
  exact ⟨rfl, rfl⟩
theorem TPW.all2 (h : TPW W V y M T g cap lo q v ls) (hy : y.ok) :
    Calls Tryz.prog 15 #[.pointer (some ⟨y.T, 0, none⟩)] V fun e w' => ∃ v1 L, e = .returned v1 ∧ RowE V.heap.size w' v1 L ∧ L.Perm (allE M y.n) ∧ L.Pairwise (fun a b => ltE b a = false) ∧ TPW W w' y M T g cap lo q v ls := by
  refine (tall h.wt hy h.ok h.hiV).mono ?_
  rintro e w' ⟨v', L, rfl, h1, h2, h3, h4, h5⟩
  exact ⟨v', L, rfl, h1, h2, h3, h.rng hy h4 h5⟩
set_option maxRecDepth 20000 in
set_option maxHeartbeats 8000000 in
theorem tsame_any (h : TPW W V y M T g cap lo q v ls) (hy : y.ok) :
    Calls Tryz.prog 23 #[.pointer (some ⟨y.T, 0, none⟩), .pointer (some ⟨T, 0, none⟩)] V fun e w' => e = .returned (.bool true) ∧ TPW W w' y M T g cap lo q v ls := by
  have HH := Lib.hid h
  have HY := Lib.hid hy
  have hn8 := hy.n8
  have hn0 := hy.n0
  have tk : ∀ V', TPW W V' y M T g cap lo q v ls → V'.cell? ⟨T, 0, none⟩ = some (.slice (some ⟨g, 0, none⟩) y.n cap) := fun V' h' => cell_of_row V' T 0 _ _ (0, 0) h'.pt.tab
  have HTk := Lib.hid tk
  have t0 := tk _ h.drew
  have hnn : ((y.n : Int) != (y.n : Int)) = false := by simp
  have HSh := Lib.hid (shards_n h.drew.wt.tn)
  clear h hy tk
  go_enter Tryz.func23, Tryz.ntmps23
  go_upto_region 1 with fail
  go_region_held3 (fun W => W.cell? ⟨T, 0, none⟩ = some (.slice (some ⟨g, 0, none⟩) y.n cap)) (first | assumption | (rw [hw3]; assumption))
    (first | (go_at_call 37; ((with_reducible refine HSh.out.mono ?_); rintro e w3 ⟨rfl, hw3⟩)))
  have h1 := HH.out.drew
  skip
  have H1 := Lib.hid h1
  clear h1 hw3 t0 HSh HH
  go_wp2_with fail
  clear hnn
  go_loopw [5] (fun iv wr => ∃ i : Nat, iv = .int .i64 (i : Int) ∧ i ≤ y.n ∧ TPW W wr y M T g cap lo q v ls) (fun iv _ => y.n - (intOf iv).toNat)
  case atStart => exact ⟨0, rfl, Nat.zero_le _, H1.out⟩
  case round =>
    clear H1
    obtain ⟨i, rfl, hi, hP⟩ := hrel
    have HP := Lib.hid hP
    have t0 := HTk.out _ hP
    clear hP
    by_cases hlt : i < y.n
    · have hi0 : (0 : Int) ≤ (i : Int) := by omega
      have hi1 : (i : Int) < (y.n : Int) := by omega
      go_upto_region 6 with fail
      have hP := HP.out.drew
      obtain ⟨Ai, ci, u0, u1, u2, hr⟩ := PT.look hP.pt i hlt
      refine wp_region_held_drew (S := fun V => V.cell? ⟨T, 0, none⟩ = some (.slice (some ⟨g, 0, none⟩) y.n cap) ∧ V.cell? ⟨g, i, none⟩ = some (.pointer (some ⟨q i, 0, none⟩)) ∧ V.cell? ⟨q i, 0, none⟩ = some (.slice Ai (ls i).length ci)) (by kernel_rfl) ⟨u0, u1, u2⟩ (fun hHeld => ?_)
      clear u0 u1 u2 t0
      obtain ⟨w5, hw5⟩ : ∃ X, X = wr.drew := ⟨_, rfl⟩
      rw [← hw5] at hP hr hHeld ⊢
      have HSn := Lib.hid (tsnap hP.wt HY.out hP.ok i hlt)
      have H5 := Lib.hid (And.intro hP hr)
      obtain ⟨m, hm⟩ : ∃ m, m = (ls i).length := ⟨_, rfl⟩
      have HM := Lib.hid hm
      clear hw5 hP hr HP
      rw [← hm] at hHeld ⊢
      clear hm
      refine wpAnyH_take (i := 0) (oi := _) (v := ?_) rfl (by kernel_rfl) (by kernel_rfl) (by kernel_rfl) (fun _ _ _ h => h) (Or.inl ⟨by rfl, ?_⟩) (by assumption) ?_
      rotate_left
      · (intro V hSw; obtain ⟨u0, u1, u2⟩ := hSw; go_simp; try with_reducible rfl)
      try simp only [Act.put, List.getElem_toArray, List.getElem_cons_zero, List.setIfInBounds_toArray, List.set_cons_zero, List.set_cons_succ]
      refine wpAnyH_take (i := 1) (oi := _) (v := ?_) rfl (by kernel_rfl) (by kernel_rfl) (by kernel_rfl) (fun _ _ _ h => h) (Or.inl ⟨by rfl, ?_⟩) (by assumption) ?_
      rotate_left
      · (intro V hSw; obtain ⟨u0, u1, u2⟩ := hSw; go_simp; try with_reducible rfl)
      try simp only [Act.put, List.getElem_toArray, List.getElem_cons_succ, List.getElem_cons_zero, List.setIfInBounds_toArray, List.set_cons_zero, List.set_cons_succ]
      refine wpAnyH_take (i := 3) (oi := _) (v := ?_) rfl (by kernel_rfl) (by kernel_rfl) (by kernel_rfl) (fun _ _ _ h => h) (Or.inl ⟨by rfl, ?_⟩) (by assumption) ?_
      rotate_left
      · (intro V hSw; obtain ⟨u0, u1, u2⟩ := hSw; go_simp; try with_reducible rfl)
      try simp only [Act.put, List.getElem_toArray, List.getElem_cons_succ, List.getElem_cons_zero, List.setIfInBounds_toArray, List.set_cons_zero, List.set_cons_succ]
      refine wpAnyH_take (i := 4) (oi := _) (v := ?_) rfl (by kernel_rfl) (by kernel_rfl) (by kernel_rfl) (fun _ _ _ h => h) (Or.inl ⟨by rfl, ?_⟩) (by assumption) ?_
      rotate_left
      · (intro V hSw; obtain ⟨u0, u1, u2⟩ := hSw; go_simp; try with_reducible rfl)
      try simp only [Act.put, List.getElem_toArray, List.getElem_cons_succ, List.getElem_cons_zero, List.setIfInBounds_toArray, List.set_cons_zero, List.set_cons_succ]
      refine wpAnyH_take (i := 5) (oi := _) (v := ?_) rfl (by kernel_rfl) (by kernel_rfl) (by kernel_rfl) (fun _ _ _ h => h) (Or.inl ⟨by rfl, ?_⟩) (by assumption) ?_
      rotate_left
      · (intro V hSw; obtain ⟨u0, u1, u2⟩ := hSw; go_simp; try with_reducible rfl)
      try simp only [Act.put, List.getElem_toArray, List.getElem_cons_succ, List.getElem_cons_zero, List.setIfInBounds_toArray, List.set_cons_zero, List.set_cons_succ]
      refine wpAnyH_take (i := 6) (oi := _) (v := ?_) rfl (by kernel_rfl) (by kernel_rfl) (by kernel_rfl) (fun _ _ _ h => h) (Or.inl ⟨by rfl, ?_⟩) (by assumption) ?_
      rotate_left
      · (intro V hSw; obtain ⟨u0, u1, u2⟩ := hSw; go_simp; try with_reducible rfl)
      try simp only [Act.put, List.getElem_toArray, List.getElem_cons_succ, List.getElem_cons_zero, List.setIfInBounds_toArray, List.set_cons_zero, List.set_cons_succ]
      refine wpAnyH_take (i := 7) (oi := _) (v := ?_) rfl (by kernel_rfl) (by kernel_rfl) (by kernel_rfl) (fun _ _ _ h => h) (Or.inl ⟨by rfl, ?_⟩) (by assumption) ?_
      rotate_left
      · (intro V hSw; obtain ⟨u0, u1, u2⟩ := hSw; go_simp; try with_reducible rfl)
      try simp only [Act.put, List.getElem_toArray, List.getElem_cons_succ, List.getElem_cons_zero, List.setIfInBounds_toArray, List.set_cons_zero, List.set_cons_succ]
      refine wpAnyH_take (i := 8) (oi := _) (v := ?_) rfl (by kernel_rfl) (by kernel_rfl) (by kernel_rfl) (fun _ _ _ h => h) (Or.inl ⟨by rfl, ?_⟩) (by assumption) ?_
      rotate_left
      · (intro V hSw; obtain ⟨u0, u1, u2⟩ := hSw; go_simp; try with_reducible rfl)
      try simp only [Act.put, List.getElem_toArray, List.getElem_cons_succ, List.getElem_cons_zero, List.setIfInBounds_toArray, List.set_cons_zero, List.set_cons_succ]
      refine wpAnyH_take (i := 9) (oi := _) (v := ?_) rfl (by kernel_rfl) (by kernel_rfl) (by kernel_rfl) (fun _ _ _ h => h) (Or.inl ⟨by rfl, ?_⟩) (by assumption) ?_
      rotate_left
      · (intro V hSw; obtain ⟨u0, u1, u2⟩ := hSw; go_simp; try with_reducible rfl)
      try simp only [Act.put, List.getElem_toArray, List.getElem_cons_succ, List.getElem_cons_zero, List.setIfInBounds_toArray, List.set_cons_zero, List.set_cons_succ]
      refine wpAnyH_take (i := 10) (oi := _) (v := ?_) rfl (by kernel_rfl) (by kernel_rfl) (by kernel_rfl) (fun _ _ _ h => h) (Or.inl ⟨by rfl, ?_⟩) (by assumption) ?_
      rotate_left
      · (intro V hSw; obtain ⟨u0, u1, u2⟩ := hSw; go_simp; try with_reducible rfl)
      try simp only [Act.put, List.getElem_toArray, List.getElem_cons_succ, List.getElem_cons_zero, List.setIfInBounds_toArray, List.set_cons_zero, List.set_cons_succ]
      refine wpAnyH_take (i := 11) (oi := _) (v := ?_) rfl (by kernel_rfl) (by kernel_rfl) (by kernel_rfl) (fun _ _ _ h => h) (Or.inl ⟨by rfl, ?_⟩) (by assumption) ?_
      rotate_left
      · (intro V hSw; obtain ⟨u0, u1, u2⟩ := hSw; go_simp; try with_reducible rfl)
      try simp only [Act.put, List.getElem_toArray, List.getElem_cons_succ, List.getElem_cons_zero, List.setIfInBounds_toArray, List.set_cons_zero, List.set_cons_succ]
      refine wpAnyH_take (i := 12) (oi := _) (v := ?_) rfl (by kernel_rfl) (by kernel_rfl) (by kernel_rfl) (fun _ _ _ h => h) (Or.inl ⟨by rfl, ?_⟩) (by assumption) ?_
      rotate_left
      · (intro V hSw; obtain ⟨u0, u1, u2⟩ := hSw; go_simp; try with_reducible rfl)
      try simp only [Act.put, List.getElem_toArray, List.getElem_cons_succ, List.getElem_cons_zero, List.setIfInBounds_toArray, List.set_cons_zero, List.set_cons_succ]
      refine wpAnyH_ready (rs := [2]) (by kernel_rfl) (by simp) ?_
      refine AllReadyH.cons rfl (fun K hK => ?_) AllReadyH.nil
      simp only [List.getElem_toArray, List.getElem_cons_succ, List.getElem_cons_zero]
      rw [if_pos (by rfl)]
      go_simp
      refine (HSn.out).mono ?_
      rintro _ w6 ⟨v6, L6, rfl, hr6, hp6, hw6, wt6, on6⟩
      have tp6 := H5.out.1.only HY.out hlt wt6 on6
      obtain ⟨Ai', ci', u0, u1, u2, hr⟩ := PT.look tp6.pt i hlt
      have hvi := hHeld.2.2
      have hS6 : w6.cell? ⟨T, 0, none⟩ = some (.slice (some ⟨g, 0, none⟩) y.n cap) ∧ w6.cell? ⟨g, i, none⟩ = some (.pointer (some ⟨q i, 0, none⟩)) ∧ w6.cell? ⟨q i, 0, none⟩ = some (.slice Ai m ci) := by
        have k1 := (H5.out.1.pt.qi i hlt).cell.1
        rw [hvi] at k1
        have k2 := (tp6.pt.qi i hlt).cell.1
        rw [← Option.some.inj k1] at k2
        exact ⟨u0, u1, k2⟩
      have e6 : L6 = ls i := sorted_eq (tp6.ok.ok i hlt) hp6 (tp6.qm i hlt).perm hw6 (tp6.qm i hlt).pw
      have hrow : RowE (q i + 1) w6 (.slice Ai m ci) (ls i) := by
        have k1 := (tp6.pt.qi i hlt).cell.1
        rw [hS6.2.2] at k1
        have k2 := (tp6.pt.qi i hlt).rowE
        rw [← Option.some.inj k1] at k2
        exact k2
      rw [e6] at hr6
      have HSm := Lib.hid (same_en _ _ _ _ (ls i) w6 (by have := ls_len tp6.ok HY.out tp6.qm i hlt; omega) hr6 hrow)
      obtain ⟨A6, c6, rfl⟩ := hr6.form
      have H6 := Lib.hid tp6
      rw [← HM.out] at HSm ⊢
      clear hr6 hp6 hw6 wt6 on6 tp6 u0 u1 u2 hr hvi e6 hrow HSn H5
      go_wp2_with fail
      refine hK.out _ _ hS6 (fun hHeld => ?_)
      clear hK K
      try simp only [Act.put, List.getElem_toArray, List.getElem_cons_succ, List.getElem_cons_zero, List.setIfInBounds_toArray, List.set_cons_zero, List.set_cons_succ]
      refine wpAnyH_ready (rs := [13]) (by kernel_rfl) (by simp) ?_
      refine AllReadyH.cons rfl (fun K hK => ?_) AllReadyH.nil
      simp only [List.getElem_toArray, List.getElem_cons_succ, List.getElem_cons_zero]
      rw [if_pos (by rfl)]
      go_simp
      refine (HSm.out).mono ?_
      rintro _ w7 ⟨rfl, b7⟩
      have tp7 := H6.out.below HY.out b7
      have kk : ∀ p u, w6.cell? p = some u → w7.cell? p = some u := fun p u hp => (b7.cell (World.block_lt_of_cell? _ _ hp)).trans hp
      have hS7 := And.intro (kk _ _ hS6.1) (And.intro (kk _ _ hS6.2.1) (kk _ _ hS6.2.2))
      have H7 := Lib.hid tp7
      clear tp7 b7 kk HSm H6
      go_wp2_with fail
      refine hK.out _ _ hS7 (fun hHeld => ?_)
      clear hK K
      try simp only [Act.put, List.getElem_toArray, List.getElem_cons_succ, List.getElem_cons_zero, List.setIfInBounds_toArray, List.set_cons_zero, List.set_cons_succ]
      refine wpAnyH_take (i := 14) (oi := _) (v := ?_) rfl (by kernel_rfl) (by kernel_rfl) (by kernel_rfl) (fun _ _ _ h => h) (Or.inl ⟨by rfl, ?_⟩) (by assumption) ?_
      rotate_left
      · (intro V hSw; clear hSw; go_simp; try with_reducible rfl)
      try simp only [Act.put, List.getElem_toArray, List.getElem_cons_succ, List.getElem_cons_zero, List.setIfInBounds_toArray, List.set_cons_zero, List.set_cons_succ]
      refine wpAnyH_done (by kernel_rfl) ?_ _
      clear hHeld hS6 hS7
      go_wp2
      go_roundw
      case rel => exact ⟨i + 1, by go_num, hlt, H7.out⟩
      case measure => simp [intOf]; omega
    · obtain rfl : i = y.n := by omega
      have hii : ¬ ((y.n : Int) < (y.n : Int)) := by omega
      have HAl := Lib.hid (TPW.all2 HP.out HY.out)
      go_wp2_with fail
      clear t0
      refine HAl.out.mono ?_
      rintro _ w6 ⟨v6, L6, rfl, hr6, hp6, hw6, tp6⟩
      have HQl := Lib.hid (pall_any tp6.pt (ls_len tp6.ok HY.out tp6.qm))
      have H6 := Lib.hid (And.intro hr6 (And.intro hp6 (And.intro hw6 tp6)))
      clear hr6 hp6 hw6 tp6 HAl HP
      go_wp2_with fail
      refine HQl.out.mono ?_
      rintro _ w7 ⟨v7, L7, rfl, hr7, hp7, hw7, b7⟩
      have tp7 := H6.out.2.2.2.below HY.out b7
      have e7 : L7 = L6 := all_sorted HY.out tp7.ok (hp7.trans (allL_perm y.n fun i hi => (tp7.qm i hi).perm)) H6.out.2.1 hw7 H6.out.2.2.1
      subst e7
      have hl7 : L7.length ≤ 1000 := by
        rw [hp7.length_eq]
        have := allL_few (ls_len tp7.ok HY.out tp7.qm) y.n (Nat.le_refl _)
        omega
      have HSm := Lib.hid (same_en _ _ _ _ L7 w7 hl7 (H6.out.1.below b7) hr7)
      have H7 := Lib.hid tp7
      clear hr7 hp7 hw7 b7 tp7 hl7 HQl H6
      go_wp2_with fail
      refine HSm.out.mono ?_
      rintro _ w8 ⟨rfl, b8⟩
      have H8 := Lib.hid (H7.out.below HY.out b8)
      clear b8 H7 HSm
      go_wp2
      go_ret
      exact ⟨rfl, H8.out⟩
end
end Go.Proofs.YtlpnecmcncekcaaGreat.Mk
