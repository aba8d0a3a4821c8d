import Derived.Test.YtlpnecmcncekcaaGreatCf
/- The page's answer of which field is wrong, and conf.Account. -/
namespace Go.Proofs.YtlpnecmcncekcaaGreat.Conf
open Go.RowKit

theorem ref_off (x l h : Int) (w : World) :
    Calls Tryz.prog 26 #[.int .i64 x, .int .i64 l, .int .i64 h] w fun e w' => e = .returned (.bool (!right x l h)) ∧ w' = w := by
  by_cases h1 : x < l
  · go_enter Tryz.func26, Tryz.ntmps26
    go_wp2
    go_ret
    have h2 : ¬ l ≤ x := by omega
    exact ⟨by simp [right, h2], rfl⟩
  · go_enter Tryz.func26, Tryz.ntmps26
    go_wp2
    go_ret
    have h2 : l ≤ x := by omega
    exact ⟨by by_cases h3 : x ≤ h <;> simp [right, h2, h3] <;> omega, rfl⟩

theorem wrong_eq (c : Cfg) : wrong c 11 0 = if right (c.n : Int) 1 4 then if right c.f1 1 4 then if right c.f2 1 8 then if right c.f3 1 64 then if right c.f4 1 32 then if right c.f5 1 16 then if right c.f6 1 8 then if right c.f7 1 4 then if right c.f8 1 8 then if right c.f9 1 16 then if right c.f10 0 8 then ⟨#[]⟩ else word 10 else word 9 else word 8 else word 7 else word 6 else word 5 else word 4 else word 3 else word 2 else word 1 else word 0 := rfl
theorem code_eq (c : Cfg) : code c 11 0 = if right (c.n : Int) 1 4 then if right c.f1 1 4 then if right c.f2 1 8 then if right c.f3 1 64 then if right c.f4 1 32 then if right c.f5 1 16 then if right c.f6 1 8 then if right c.f7 1 4 then if right c.f8 1 8 then if right c.f9 1 16 then if right c.f10 0 8 then 0 else 1 else 1 else 1 else 1 else 1 else 1 else 1 else 1 else 1 else 1 else 1 := rfl

set_option maxRecDepth 20000 in
set_option maxHeartbeats 4000000 in
theorem ref_wrong (c : Cfg) (w : World) :
    Calls Tryz.prog 7 #[.agg c.cells] w fun e w' => e = .returned (.string (wrong c 11 0)) ∧ Below w.heap.size w w' := by
  have HW := Lib.hid (wrong_eq c)
  have hro := fun x l h w => ref_off x l h w
  have HO := Lib.hid hro
  clear hro
  unfold Cfg.cells
  go_enter Tryz.func7, Tryz.ntmps7
  go_wp2_with fail
  refine (HO.out _ _ _ _).mono ?_
  rintro e w1 ⟨rfl, rfl⟩
  by_cases r0 : right (c.n : Int) 1 4 = false
  · have g0 := Lib.hid r0
    rw [r0]
    clear r0
    go_wp2
    go_ret
    refine ⟨?_, (Below.refl _ _).alloc (Nat.le_refl _) _⟩
    rw [HW.out]
    simp only [g0.out, if_false, Bool.false_eq_true]
    rfl
  have r0 : right (c.n : Int) 1 4 = true := by simpa using r0
  have g0 := Lib.hid r0
  rw [r0]
  clear r0
  go_wp2_with fail
  refine (HO.out _ _ _ _).mono ?_
  rintro e w1 ⟨rfl, rfl⟩
  by_cases r1 : right c.f1 1 4 = false
  · have g1 := Lib.hid r1
    rw [r1]
    clear r1
    go_wp2
    go_ret
    refine ⟨?_, (Below.refl _ _).alloc (Nat.le_refl _) _⟩
    rw [HW.out]
    simp only [g0.out, g1.out, if_true, if_false, Bool.false_eq_true]
    rfl
  have r1 : right c.f1 1 4 = true := by simpa using r1
  have g1 := Lib.hid r1
  rw [r1]
  clear r1
  go_wp2_with fail
  refine (HO.out _ _ _ _).mono ?_
  rintro e w1 ⟨rfl, rfl⟩
  by_cases r2 : right c.f2 1 8 = false
  · have g2 := Lib.hid r2
    rw [r2]
    clear r2
    go_wp2
    go_ret
    refine ⟨?_, (Below.refl _ _).alloc (Nat.le_refl _) _⟩
    rw [HW.out]
    simp only [g0.out, g1.out, g2.out, if_true, if_false, Bool.false_eq_true]
    rfl
  have r2 : right c.f2 1 8 = true := by simpa using r2
  have g2 := Lib.hid r2
  rw [r2]
  clear r2
  go_wp2_with fail
  refine (HO.out _ _ _ _).mono ?_
  rintro e w1 ⟨rfl, rfl⟩
  by_cases r3 : right c.f3 1 64 = false
  · have g3 := Lib.hid r3
    rw [r3]
    clear r3
    go_wp2
    go_ret
    refine ⟨?_, (Below.refl _ _).alloc (Nat.le_refl _) _⟩
    rw [HW.out]
    simp only [g0.out, g1.out, g2.out, g3.out, if_true, if_false, Bool.false_eq_true]
    rfl
  have r3 : right c.f3 1 64 = true := by simpa using r3
  have g3 := Lib.hid r3
  rw [r3]
  clear r3
  go_wp2_with fail
  refine (HO.out _ _ _ _).mono ?_
  rintro e w1 ⟨rfl, rfl⟩
  by_cases r4 : right c.f4 1 32 = false
  · have g4 := Lib.hid r4
    rw [r4]
    clear r4
    go_wp2
    go_ret
    refine ⟨?_, (Below.refl _ _).alloc (Nat.le_refl _) _⟩
    rw [HW.out]
    simp only [g0.out, g1.out, g2.out, g3.out, g4.out, if_true, if_false, Bool.false_eq_true]
    rfl
  have r4 : right c.f4 1 32 = true := by simpa using r4
  have g4 := Lib.hid r4
  rw [r4]
  clear r4
  go_wp2_with fail
  refine (HO.out _ _ _ _).mono ?_
  rintro e w1 ⟨rfl, rfl⟩
  by_cases r5 : right c.f5 1 16 = false
  · have g5 := Lib.hid r5
    rw [r5]
    clear r5
    go_wp2
    go_ret
    refine ⟨?_, (Below.refl _ _).alloc (Nat.le_refl _) _⟩
    rw [HW.out]
    simp only [g0.out, g1.out, g2.out, g3.out, g4.out, g5.out, if_true, if_false, Bool.false_eq_true]
    rfl
  have r5 : right c.f5 1 16 = true := by simpa using r5
  have g5 := Lib.hid r5
  rw [r5]
  clear r5
  go_wp2_with fail
  refine (HO.out _ _ _ _).mono ?_
  rintro e w1 ⟨rfl, rfl⟩
  by_cases r6 : right c.f6 1 8 = false
  · have g6 := Lib.hid r6
    rw [r6]
    clear r6
    go_wp2
    go_ret
    refine ⟨?_, (Below.refl _ _).alloc (Nat.le_refl _) _⟩
    rw [HW.out]
    simp only [g0.out, g1.out, g2.out, g3.out, g4.out, g5.out, g6.out, if_true, if_false, Bool.false_eq_true]
    rfl
  have r6 : right c.f6 1 8 = true := by simpa using r6
  have g6 := Lib.hid r6
  rw [r6]
  clear r6
  go_wp2_with fail
  refine (HO.out _ _ _ _).mono ?_
  rintro e w1 ⟨rfl, rfl⟩
  by_cases r7 : right c.f7 1 4 = false
  · have g7 := Lib.hid r7
    rw [r7]
    clear r7
    go_wp2
    go_ret
    refine ⟨?_, (Below.refl _ _).alloc (Nat.le_refl _) _⟩
    rw [HW.out]
    simp only [g0.out, g1.out, g2.out, g3.out, g4.out, g5.out, g6.out, g7.out, if_true, if_false, Bool.false_eq_true]
    rfl
  have r7 : right c.f7 1 4 = true := by simpa using r7
  have g7 := Lib.hid r7
  rw [r7]
  clear r7
  go_wp2_with fail
  refine (HO.out _ _ _ _).mono ?_
  rintro e w1 ⟨rfl, rfl⟩
  by_cases r8 : right c.f8 1 8 = false
  · have g8 := Lib.hid r8
    rw [r8]
    clear r8
    go_wp2
    go_ret
    refine ⟨?_, (Below.refl _ _).alloc (Nat.le_refl _) _⟩
    rw [HW.out]
    simp only [g0.out, g1.out, g2.out, g3.out, g4.out, g5.out, g6.out, g7.out, g8.out, if_true, if_false, Bool.false_eq_true]
    rfl
  have r8 : right c.f8 1 8 = true := by simpa using r8
  have g8 := Lib.hid r8
  rw [r8]
  clear r8
  go_wp2_with fail
  refine (HO.out _ _ _ _).mono ?_
  rintro e w1 ⟨rfl, rfl⟩
  by_cases r9 : right c.f9 1 16 = false
  · have g9 := Lib.hid r9
    rw [r9]
    clear r9
    go_wp2
    go_ret
    refine ⟨?_, (Below.refl _ _).alloc (Nat.le_refl _) _⟩
    rw [HW.out]
    simp only [g0.out, g1.out, g2.out, g3.out, g4.out, g5.out, g6.out, g7.out, g8.out, g9.out, if_true, if_false, Bool.false_eq_true]
    rfl
  have r9 : right c.f9 1 16 = true := by simpa using r9
  have g9 := Lib.hid r9
  rw [r9]
  clear r9
  go_wp2_with fail
  refine (HO.out _ _ _ _).mono ?_
  rintro e w1 ⟨rfl, rfl⟩
  by_cases r10 : right c.f10 0 8 = false
  · have g10 := Lib.hid r10
    rw [r10]
    clear r10
    go_wp2
    go_ret
    refine ⟨?_, (Below.refl _ _).alloc (Nat.le_refl _) _⟩
    rw [HW.out]
    simp only [g0.out, g1.out, g2.out, g3.out, g4.out, g5.out, g6.out, g7.out, g8.out, g9.out, g10.out, if_true, if_false, Bool.false_eq_true]
    rfl
  have r10 : right c.f10 0 8 = true := by simpa using r10
  have g10 := Lib.hid r10
  rw [r10]
  clear r10
  go_wp2
  go_ret
  refine ⟨?_, (Below.refl _ _).alloc (Nat.le_refl _) _⟩
  rw [HW.out]
  simp only [g0.out, g1.out, g2.out, g3.out, g4.out, g5.out, g6.out, g7.out, g8.out, g9.out, g10.out, if_true]
  rfl

/-- Either no field is wrong, or one is. -/
theorem wrong_or (c : Cfg) : (code c 11 0 = 0 ∧ wrong c 11 0 = ⟨#[]⟩ ∧ right (c.n : Int) 1 4 = true ∧ right c.f1 1 4 = true) ∨ (code c 11 0 = 1 ∧ ∃ k, k < 11 ∧ wrong c 11 0 = word k) := by
  rw [code_eq, wrong_eq]
  by_cases r0 : right (c.n : Int) 1 4 = false
  · right
    simp only [r0, if_false, Bool.false_eq_true]
    exact ⟨trivial, 0, by decide, rfl⟩
  have r0 : right (c.n : Int) 1 4 = true := by simpa using r0
  by_cases r1 : right c.f1 1 4 = false
  · right
    simp only [r0, r1, if_true, if_false, Bool.false_eq_true]
    exact ⟨trivial, 1, by decide, rfl⟩
  have r1 : right c.f1 1 4 = true := by simpa using r1
  by_cases r2 : right c.f2 1 8 = false
  · right
    simp only [r0, r1, r2, if_true, if_false, Bool.false_eq_true]
    exact ⟨trivial, 2, by decide, rfl⟩
  have r2 : right c.f2 1 8 = true := by simpa using r2
  by_cases r3 : right c.f3 1 64 = false
  · right
    simp only [r0, r1, r2, r3, if_true, if_false, Bool.false_eq_true]
    exact ⟨trivial, 3, by decide, rfl⟩
  have r3 : right c.f3 1 64 = true := by simpa using r3
  by_cases r4 : right c.f4 1 32 = false
  · right
    simp only [r0, r1, r2, r3, r4, if_true, if_false, Bool.false_eq_true]
    exact ⟨trivial, 4, by decide, rfl⟩
  have r4 : right c.f4 1 32 = true := by simpa using r4
  by_cases r5 : right c.f5 1 16 = false
  · right
    simp only [r0, r1, r2, r3, r4, r5, if_true, if_false, Bool.false_eq_true]
    exact ⟨trivial, 5, by decide, rfl⟩
  have r5 : right c.f5 1 16 = true := by simpa using r5
  by_cases r6 : right c.f6 1 8 = false
  · right
    simp only [r0, r1, r2, r3, r4, r5, r6, if_true, if_false, Bool.false_eq_true]
    exact ⟨trivial, 6, by decide, rfl⟩
  have r6 : right c.f6 1 8 = true := by simpa using r6
  by_cases r7 : right c.f7 1 4 = false
  · right
    simp only [r0, r1, r2, r3, r4, r5, r6, r7, if_true, if_false, Bool.false_eq_true]
    exact ⟨trivial, 7, by decide, rfl⟩
  have r7 : right c.f7 1 4 = true := by simpa using r7
  by_cases r8 : right c.f8 1 8 = false
  · right
    simp only [r0, r1, r2, r3, r4, r5, r6, r7, r8, if_true, if_false, Bool.false_eq_true]
    exact ⟨trivial, 8, by decide, rfl⟩
  have r8 : right c.f8 1 8 = true := by simpa using r8
  by_cases r9 : right c.f9 1 16 = false
  · right
    simp only [r0, r1, r2, r3, r4, r5, r6, r7, r8, r9, if_true, if_false, Bool.false_eq_true]
    exact ⟨trivial, 9, by decide, rfl⟩
  have r9 : right c.f9 1 16 = true := by simpa using r9
  by_cases r10 : right c.f10 0 8 = false
  · right
    simp only [r0, r1, r2, r3, r4, r5, r6, r7, r8, r9, r10, if_true, if_false, Bool.false_eq_true]
    exact ⟨trivial, 10, by decide, rfl⟩
  have r10 : right c.f10 0 8 = true := by simpa using r10
  left
  simp only [r0, r1, r2, r3, r4, r5, r6, r7, r8, r9, r10, if_true]
  exact ⟨trivial, trivial, trivial, trivial⟩
end Go.Proofs.YtlpnecmcncekcaaGreat.Conf
/- Few configs; what a config that may be has. -/
namespace Go.Proofs.YtlpnecmcncekcaaGreat.Conf
open Go Go.RowKit

theorem few_yes (c : Cfg) (h : c.n ≤ 20) (w : World) :
    Calls Tryz.prog 6 #[.agg c.cells] w fun e w' => e = .returned (.bool true) ∧ Below w.heap.size w w' := by
  have h1 : (c.n : Int) ≤ 20 := by omega
  unfold Cfg.cells at *
  go_enter Tryz.func6, Tryz.ntmps6
  go_wp2
  go_ret
  exact ⟨rfl, (Below.refl _ _).alloc (Nat.le_refl _) _⟩
theorem few_no (c : Cfg) (h : 20 < c.n) (w : World) :
    Calls Tryz.prog 6 #[.agg c.cells] w fun e w' => e = .returned (.bool false) ∧ Below w.heap.size w w' := by
  have h1 : ¬ (c.n : Int) ≤ 20 := by omega
  unfold Cfg.cells at *
  go_enter Tryz.func6, Tryz.ntmps6
  go_wp2
  go_ret
  exact ⟨rfl, (Below.refl _ _).alloc (Nat.le_refl _) _⟩
theorem word_ne : ∀ k, k < 11 → (word k == (⟨#[]⟩ : ByteArray)) = false ∧ ¬ (word k).toList = [] := by decide +kernel
theorem code_has (c : Cfg) (h : code c 11 0 = 0) : (1 ≤ c.f2 ∧ c.f2 ≤ 8) ∧ 1 ≤ c.f3 ∧ c.f3 ≤ 64 := by
  rw [code_eq] at h
  by_cases r0 : right (c.n : Int) 1 4 = true
  · rw [if_pos r0] at h
    by_cases r1 : right c.f1 1 4 = true
    · rw [if_pos r1] at h
      by_cases r2 : right c.f2 1 8 = true
      · rw [if_pos r2] at h
        by_cases r3 : right c.f3 1 64 = true
        · simp [right] at r2 r3
          omega
        · rw [if_neg r3] at h; cases h
      · rw [if_neg r2] at h; cases h
    · rw [if_neg r1] at h; cases h
  · rw [if_neg r0] at h; cases h
end Go.Proofs.YtlpnecmcncekcaaGreat.Conf
