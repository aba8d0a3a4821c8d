import Derived.Test.YtpkkomifenlkaaaGreatConfC
import Derived.OpenShut
import Derived.ProofKit
import Derived.Deep.Slices
import Derived.ChangeArms
/- The page's answer of which field is wrong, and conf.Account. -/
namespace Go.Proofs.YtpkkomifenlkaaaGreat.Conf
open Go.RowKit

theorem ref_off (x l h : Int) (w : World) :
    Calls Tryz.prog 36 #[.int .i64 x, .int .i64 l, .int .i64 h] w fun e w' => e = .returned (.bool (!right x l h)) ∧ w' = w := by
  by_cases h1 : x < l
  · go_enter Tryz.func36, Tryz.ntmps36
    go_wp2
    go_ret
    have h2 : ¬ l ≤ x := by omega
    exact ⟨by simp [right, h2], rfl⟩
  · go_enter Tryz.func36, Tryz.ntmps36
    go_wp2
    go_ret
    have h2 : l ≤ x := by omega
    exact ⟨by by_cases h3 : x ≤ h <;> simp [right, h2, h3] <;> omega, rfl⟩

theorem wrong_eq (c : Cfg) : wrong c 11 0 = if right (c.n : Int) 1 4 then if right c.f1 1 4 then if right c.f2 1 8 then if right c.f3 1 64 then if right c.f4 1 32 then if right c.f5 1 16 then if right c.f6 1 8 then if right c.f7 1 4 then if right c.f8 1 8 then if right c.f9 1 16 then if right c.f10 0 8 then ⟨#[]⟩ else word 10 else word 9 else word 8 else word 7 else word 6 else word 5 else word 4 else word 3 else word 2 else word 1 else word 0 := rfl
theorem code_eq (c : Cfg) : code c 11 0 = if right (c.n : Int) 1 4 then if right c.f1 1 4 then if right c.f2 1 8 then if right c.f3 1 64 then if right c.f4 1 32 then if right c.f5 1 16 then if right c.f6 1 8 then if right c.f7 1 4 then if right c.f8 1 8 then if right c.f9 1 16 then if right c.f10 0 8 then 0 else 1 else 1 else 1 else 1 else 1 else 1 else 1 else 1 else 1 else 1 else 1 := rfl

set_option maxRecDepth 20000 in
set_option maxHeartbeats 4000000 in
theorem ref_wrong (c : Cfg) (w : World) :
    Calls Tryz.prog 15 #[.agg c.cells] w fun e w' => e = .returned (.string (wrong c 11 0)) ∧ Below w.heap.size w w' := by
  have HW := Lib.hid (wrong_eq c)
  have hro := fun x l h w => ref_off x l h w
  have HO := Lib.hid hro
  clear hro
  unfold Cfg.cells
  go_enter Tryz.func15, Tryz.ntmps15
  go_wp2_with fail
  refine (HO.out _ _ _ _).mono ?_
  rintro e w1 ⟨rfl, rfl⟩
  by_cases r0 : right (c.n : Int) 1 4 = false
  · have g0 := Lib.hid r0
    rw [r0]
    clear r0
    go_wp2
    go_ret
    refine ⟨?_, (Below.refl _ _).alloc (Nat.le_refl _) _⟩
    rw [HW.out]
    simp only [g0.out, if_false, Bool.false_eq_true]
    rfl
  have r0 : right (c.n : Int) 1 4 = true := by simpa using r0
  have g0 := Lib.hid r0
  rw [r0]
  clear r0
  go_wp2_with fail
  refine (HO.out _ _ _ _).mono ?_
  rintro e w1 ⟨rfl, rfl⟩
  by_cases r1 : right c.f1 1 4 = false
  · have g1 := Lib.hid r1
    rw [r1]
    clear r1
    go_wp2
    go_ret
    refine ⟨?_, (Below.refl _ _).alloc (Nat.le_refl _) _⟩
    rw [HW.out]
    simp only [g0.out, g1.out, if_true, if_false, Bool.false_eq_true]
    rfl
  have r1 : right c.f1 1 4 = true := by simpa using r1
  have g1 := Lib.hid r1
  rw [r1]
  clear r1
  go_wp2_with fail
  refine (HO.out _ _ _ _).mono ?_
  rintro e w1 ⟨rfl, rfl⟩
  by_cases r2 : right c.f2 1 8 = false
  · have g2 := Lib.hid r2
    rw [r2]
    clear r2
    go_wp2
    go_ret
    refine ⟨?_, (Below.refl _ _).alloc (Nat.le_refl _) _⟩
    rw [HW.out]
    simp only [g0.out, g1.out, g2.out, if_true, if_false, Bool.false_eq_true]
    rfl
  have r2 : right c.f2 1 8 = true := by simpa using r2
  have g2 := Lib.hid r2
  rw [r2]
  clear r2
  go_wp2_with fail
  refine (HO.out _ _ _ _).mono ?_
  rintro e w1 ⟨rfl, rfl⟩
  by_cases r3 : right c.f3 1 64 = false
  · have g3 := Lib.hid r3
    rw [r3]
    clear r3
    go_wp2
    go_ret
    refine ⟨?_, (Below.refl _ _).alloc (Nat.le_refl _) _⟩
    rw [HW.out]
    simp only [g0.out, g1.out, g2.out, g3.out, if_true, if_false, Bool.false_eq_true]
    rfl
  have r3 : right c.f3 1 64 = true := by simpa using r3
  have g3 := Lib.hid r3
  rw [r3]
  clear r3
  go_wp2_with fail
  refine (HO.out _ _ _ _).mono ?_
  rintro e w1 ⟨rfl, rfl⟩
  by_cases r4 : right c.f4 1 32 = false
  · have g4 := Lib.hid r4
    rw [r4]
    clear r4
    go_wp2
    go_ret
    refine ⟨?_, (Below.refl _ _).alloc (Nat.le_refl _) _⟩
    rw [HW.out]
    simp only [g0.out, g1.out, g2.out, g3.out, g4.out, if_true, if_false, Bool.false_eq_true]
    rfl
  have r4 : right c.f4 1 32 = true := by simpa using r4
  have g4 := Lib.hid r4
  rw [r4]
  clear r4
  go_wp2_with fail
  refine (HO.out _ _ _ _).mono ?_
  rintro e w1 ⟨rfl, rfl⟩
  by_cases r5 : right c.f5 1 16 = false
  · have g5 := Lib.hid r5
    rw [r5]
    clear r5
    go_wp2
    go_ret
    refine ⟨?_, (Below.refl _ _).alloc (Nat.le_refl _) _⟩
    rw [HW.out]
    simp only [g0.out, g1.out, g2.out, g3.out, g4.out, g5.out, if_true, if_false, Bool.false_eq_true]
    rfl
  have r5 : right c.f5 1 16 = true := by simpa using r5
  have g5 := Lib.hid r5
  rw [r5]
  clear r5
  go_wp2_with fail
  refine (HO.out _ _ _ _).mono ?_
  rintro e w1 ⟨rfl, rfl⟩
  by_cases r6 : right c.f6 1 8 = false
  · have g6 := Lib.hid r6
    rw [r6]
    clear r6
    go_wp2
    go_ret
    refine ⟨?_, (Below.refl _ _).alloc (Nat.le_refl _) _⟩
    rw [HW.out]
    simp only [g0.out, g1.out, g2.out, g3.out, g4.out, g5.out, g6.out, if_true, if_false, Bool.false_eq_true]
    rfl
  have r6 : right c.f6 1 8 = true := by simpa using r6
  have g6 := Lib.hid r6
  rw [r6]
  clear r6
  go_wp2_with fail
  refine (HO.out _ _ _ _).mono ?_
  rintro e w1 ⟨rfl, rfl⟩
  by_cases r7 : right c.f7 1 4 = false
  · have g7 := Lib.hid r7
    rw [r7]
    clear r7
    go_wp2
    go_ret
    refine ⟨?_, (Below.refl _ _).alloc (Nat.le_refl _) _⟩
    rw [HW.out]
    simp only [g0.out, g1.out, g2.out, g3.out, g4.out, g5.out, g6.out, g7.out, if_true, if_false, Bool.false_eq_true]
    rfl
  have r7 : right c.f7 1 4 = true := by simpa using r7
  have g7 := Lib.hid r7
  rw [r7]
  clear r7
  go_wp2_with fail
  refine (HO.out _ _ _ _).mono ?_
  rintro e w1 ⟨rfl, rfl⟩
  by_cases r8 : right c.f8 1 8 = false
  · have g8 := Lib.hid r8
    rw [r8]
    clear r8
    go_wp2
    go_ret
    refine ⟨?_, (Below.refl _ _).alloc (Nat.le_refl _) _⟩
    rw [HW.out]
    simp only [g0.out, g1.out, g2.out, g3.out, g4.out, g5.out, g6.out, g7.out, g8.out, if_true, if_false, Bool.false_eq_true]
    rfl
  have r8 : right c.f8 1 8 = true := by simpa using r8
  have g8 := Lib.hid r8
  rw [r8]
  clear r8
  go_wp2_with fail
  refine (HO.out _ _ _ _).mono ?_
  rintro e w1 ⟨rfl, rfl⟩
  by_cases r9 : right c.f9 1 16 = false
  · have g9 := Lib.hid r9
    rw [r9]
    clear r9
    go_wp2
    go_ret
    refine ⟨?_, (Below.refl _ _).alloc (Nat.le_refl _) _⟩
    rw [HW.out]
    simp only [g0.out, g1.out, g2.out, g3.out, g4.out, g5.out, g6.out, g7.out, g8.out, g9.out, if_true, if_false, Bool.false_eq_true]
    rfl
  have r9 : right c.f9 1 16 = true := by simpa using r9
  have g9 := Lib.hid r9
  rw [r9]
  clear r9
  go_wp2_with fail
  refine (HO.out _ _ _ _).mono ?_
  rintro e w1 ⟨rfl, rfl⟩
  by_cases r10 : right c.f10 0 8 = false
  · have g10 := Lib.hid r10
    rw [r10]
    clear r10
    go_wp2
    go_ret
    refine ⟨?_, (Below.refl _ _).alloc (Nat.le_refl _) _⟩
    rw [HW.out]
    simp only [g0.out, g1.out, g2.out, g3.out, g4.out, g5.out, g6.out, g7.out, g8.out, g9.out, g10.out, if_true, if_false, Bool.false_eq_true]
    rfl
  have r10 : right c.f10 0 8 = true := by simpa using r10
  have g10 := Lib.hid r10
  rw [r10]
  clear r10
  go_wp2
  go_ret
  refine ⟨?_, (Below.refl _ _).alloc (Nat.le_refl _) _⟩
  rw [HW.out]
  simp only [g0.out, g1.out, g2.out, g3.out, g4.out, g5.out, g6.out, g7.out, g8.out, g9.out, g10.out, if_true]
  rfl

/-- Either no field is wrong, or one is. -/
theorem wrong_or (c : Cfg) : (code c 11 0 = 0 ∧ wrong c 11 0 = ⟨#[]⟩ ∧ right (c.n : Int) 1 4 = true ∧ right c.f1 1 4 = true) ∨ (code c 11 0 = 1 ∧ ∃ k, k < 11 ∧ wrong c 11 0 = word k) := by
  rw [code_eq, wrong_eq]
  by_cases r0 : right (c.n : Int) 1 4 = false
  · right
    simp only [r0, if_false, Bool.false_eq_true]
    exact ⟨trivial, 0, by decide, rfl⟩
  have r0 : right (c.n : Int) 1 4 = true := by simpa using r0
  by_cases r1 : right c.f1 1 4 = false
  · right
    simp only [r0, r1, if_true, if_false, Bool.false_eq_true]
    exact ⟨trivial, 1, by decide, rfl⟩
  have r1 : right c.f1 1 4 = true := by simpa using r1
  by_cases r2 : right c.f2 1 8 = false
  · right
    simp only [r0, r1, r2, if_true, if_false, Bool.false_eq_true]
    exact ⟨trivial, 2, by decide, rfl⟩
  have r2 : right c.f2 1 8 = true := by simpa using r2
  by_cases r3 : right c.f3 1 64 = false
  · right
    simp only [r0, r1, r2, r3, if_true, if_false, Bool.false_eq_true]
    exact ⟨trivial, 3, by decide, rfl⟩
  have r3 : right c.f3 1 64 = true := by simpa using r3
  by_cases r4 : right c.f4 1 32 = false
  · right
    simp only [r0, r1, r2, r3, r4, if_true, if_false, Bool.false_eq_true]
    exact ⟨trivial, 4, by decide, rfl⟩
  have r4 : right c.f4 1 32 = true := by simpa using r4
  by_cases r5 : right c.f5 1 16 = false
  · right
    simp only [r0, r1, r2, r3, r4, r5, if_true, if_false, Bool.false_eq_true]
    exact ⟨trivial, 5, by decide, rfl⟩
  have r5 : right c.f5 1 16 = true := by simpa using r5
  by_cases r6 : right c.f6 1 8 = false
  · right
    simp only [r0, r1, r2, r3, r4, r5, r6, if_true, if_false, Bool.false_eq_true]
    exact ⟨trivial, 6, by decide, rfl⟩
  have r6 : right c.f6 1 8 = true := by simpa using r6
  by_cases r7 : right c.f7 1 4 = false
  · right
    simp only [r0, r1, r2, r3, r4, r5, r6, r7, if_true, if_false, Bool.false_eq_true]
    exact ⟨trivial, 7, by decide, rfl⟩
  have r7 : right c.f7 1 4 = true := by simpa using r7
  by_cases r8 : right c.f8 1 8 = false
  · right
    simp only [r0, r1, r2, r3, r4, r5, r6, r7, r8, if_true, if_false, Bool.false_eq_true]
    exact ⟨trivial, 8, by decide, rfl⟩
  have r8 : right c.f8 1 8 = true := by simpa using r8
  by_cases r9 : right c.f9 1 16 = false
  · right
    simp only [r0, r1, r2, r3, r4, r5, r6, r7, r8, r9, if_true, if_false, Bool.false_eq_true]
    exact ⟨trivial, 9, by decide, rfl⟩
  have r9 : right c.f9 1 16 = true := by simpa using r9
  by_cases r10 : right c.f10 0 8 = false
  · right
    simp only [r0, r1, r2, r3, r4, r5, r6, r7, r8, r9, r10, if_true, if_false, Bool.false_eq_true]
    exact ⟨trivial, 10, by decide, rfl⟩
  have r10 : right c.f10 0 8 = true := by simpa using r10
  left
  simp only [r0, r1, r2, r3, r4, r5, r6, r7, r8, r9, r10, if_true]
  exact ⟨trivial, trivial, trivial, trivial⟩
end Go.Proofs.YtpkkomifenlkaaaGreat.Conf
/- Few configs; what a config that may be has. -/
namespace Go.Proofs.YtpkkomifenlkaaaGreat.Conf
open Go Go.RowKit

theorem few_yes (c : Cfg) (h : c.n ≤ 20) (w : World) :
    Calls Tryz.prog 14 #[.agg c.cells] w fun e w' => e = .returned (.bool true) ∧ Below w.heap.size w w' := by
  have h1 : (c.n : Int) ≤ 20 := by omega
  unfold Cfg.cells at *
  go_enter Tryz.func14, Tryz.ntmps14
  go_wp2
  go_ret
  exact ⟨rfl, (Below.refl _ _).alloc (Nat.le_refl _) _⟩
theorem few_no (c : Cfg) (h : 20 < c.n) (w : World) :
    Calls Tryz.prog 14 #[.agg c.cells] w fun e w' => e = .returned (.bool false) ∧ Below w.heap.size w w' := by
  have h1 : ¬ (c.n : Int) ≤ 20 := by omega
  unfold Cfg.cells at *
  go_enter Tryz.func14, Tryz.ntmps14
  go_wp2
  go_ret
  exact ⟨rfl, (Below.refl _ _).alloc (Nat.le_refl _) _⟩
theorem word_ne : ∀ k, k < 11 → (word k == (⟨#[]⟩ : ByteArray)) = false ∧ ¬ (word k).toList = [] := by decide +kernel
theorem code_has (c : Cfg) (h : code c 11 0 = 0) : (1 ≤ c.f2 ∧ c.f2 ≤ 8) ∧ 1 ≤ c.f3 ∧ c.f3 ≤ 64 := by
  rw [code_eq] at h
  by_cases r0 : right (c.n : Int) 1 4 = true
  · rw [if_pos r0] at h
    by_cases r1 : right c.f1 1 4 = true
    · rw [if_pos r1] at h
      by_cases r2 : right c.f2 1 8 = true
      · rw [if_pos r2] at h
        by_cases r3 : right c.f3 1 64 = true
        · simp [right] at r2 r3
          omega
        · rw [if_neg r3] at h; cases h
      · rw [if_neg r2] at h; cases h
    · rw [if_neg r1] at h; cases h
  · rw [if_neg r0] at h; cases h
end Go.Proofs.YtpkkomifenlkaaaGreat.Conf
/- Configs that came in: opened to their fields. -/
namespace Go.Proofs.YtpkkomifenlkaaaGreat.Conf
open Go.RowKit Go.Deep Go.WideShapes

theorem cells_int : Tryz.prog.cellsOf 3 = 1 := by kernel_rfl
theorem cells_u64 : Tryz.prog.cellsOf 22 = 1 := by kernel_rfl
theorem cells_bools : Tryz.prog.cellsOf 40 = 1 := by kernel_rfl
theorem cells_config : Tryz.prog.cellsOf 42 = 12 := by kernel_rfl

section
variable {H : Type} {enc : TypeId × Value → H} {w : World} {base : Nat} {spare : Nat → Bool} {held : Bool}

/-- What a struct's reading says of one field. -/
theorem field_at {t : TypeId} {fs : Array Field} {n : Nat} {cs : List Value} {xs : List (DataW H × List MemPlace)} (hlen : xs.length = fs.size)
    (h : ∀ (i : Nat) (f : Field), fs[i]? = some f → DataW.trod enc Tryz.prog w base spare held n f.type ((cs.drop f.offset).take (Tryz.prog.cellsOf f.type)) = xs[i]?)
    (i : Nat) (f : Field) (hf : fs[i]? = some f) (_ht : f.type = t) : ∃ y, DataW.trod enc Tryz.prog w base spare held n f.type ((cs.drop f.offset).take (Tryz.prog.cellsOf f.type)) = some y := by
  have hi : i < fs.size := (Array.getElem?_eq_some_iff.1 hf).1
  exact ⟨xs[i]'(by omega), (h i f hf).trans (List.getElem?_eq_getElem (by omega))⟩

set_option maxRecDepth 100000 in
theorem open_config {fuel : Nat} {cs : List Value} {x : DataW H × List MemPlace} (h : DataW.trod enc Tryz.prog w base spare held fuel 42 cs = some x) :
    ∃ c : Cfg, cs = c.cells.toList ∧ c.n ≤ maxLen := by
  obtain ⟨xs, n, _, _, hcl, hlen, hf⟩ := DataW.trod_struct Tryz.underlying42 h
  rw [cells_config] at hcl
  obtain ⟨y0, h0⟩ := field_at hlen hf 0 _ rfl rfl
  obtain ⟨y1, h1⟩ := field_at hlen hf 1 _ rfl rfl
  obtain ⟨y2, h2⟩ := field_at hlen hf 2 _ rfl rfl
  obtain ⟨y3, h3⟩ := field_at hlen hf 3 _ rfl rfl
  obtain ⟨y4, h4⟩ := field_at hlen hf 4 _ rfl rfl
  obtain ⟨y5, h5⟩ := field_at hlen hf 5 _ rfl rfl
  obtain ⟨y6, h6⟩ := field_at hlen hf 6 _ rfl rfl
  obtain ⟨y7, h7⟩ := field_at hlen hf 7 _ rfl rfl
  obtain ⟨y8, h8⟩ := field_at hlen hf 8 _ rfl rfl
  obtain ⟨y9, h9⟩ := field_at hlen hf 9 _ rfl rfl
  obtain ⟨y10, h10⟩ := field_at hlen hf 10 _ rfl rfl
  obtain ⟨y11, h11⟩ := field_at hlen hf 11 _ rfl rfl
  have hs : ∃ (A : Option Addr) (len cap : Nat), (cs.drop 0).take 1 = [.slice A len cap] ∧ len ≤ maxLen := by
    rcases open_slice Tryz.underlying40 h0 with ⟨hcs, _⟩ | ⟨a, len', cap', m, n, D, Pl, hcs, hb, hl, hm, hmm, hx, hi⟩
    · exact ⟨none, 0, 0, hcs, by decide⟩
    · exact ⟨some a, len', cap', hcs, by omega⟩
  obtain ⟨A, len, cap, e0, hl⟩ := hs
  obtain ⟨a1, e1, _, w1⟩ := DataW.trod_int Tryz.underlying3 h1
  obtain ⟨a2, e2, _, w2⟩ := DataW.trod_int Tryz.underlying3 h2
  obtain ⟨a3, e3, _, w3⟩ := DataW.trod_int Tryz.underlying3 h3
  obtain ⟨a4, e4, _, w4⟩ := DataW.trod_int Tryz.underlying3 h4
  obtain ⟨a5, e5, _, w5⟩ := DataW.trod_int Tryz.underlying3 h5
  obtain ⟨a6, e6, _, w6⟩ := DataW.trod_int Tryz.underlying3 h6
  obtain ⟨a7, e7, _, w7⟩ := DataW.trod_int Tryz.underlying3 h7
  obtain ⟨a8, e8, _, w8⟩ := DataW.trod_int Tryz.underlying3 h8
  obtain ⟨a9, e9, _, w9⟩ := DataW.trod_int Tryz.underlying3 h9
  obtain ⟨a10, e10, _, w10⟩ := DataW.trod_int Tryz.underlying3 h10
  obtain ⟨a11, e11, _, w11⟩ := DataW.trod_int Tryz.underlying22 h11
  refine ⟨⟨A, len, cap, a1, a2, a3, a4, a5, a6, a7, a8, a9, a10, a11⟩, ?_, hl⟩
  have e1' : (cs.drop 1).take 1 = [.int .i64 a1] := e1
  have e2' : (cs.drop 2).take 1 = [.int .i64 a2] := e2
  have e3' : (cs.drop 3).take 1 = [.int .i64 a3] := e3
  have e4' : (cs.drop 4).take 1 = [.int .i64 a4] := e4
  have e5' : (cs.drop 5).take 1 = [.int .i64 a5] := e5
  have e6' : (cs.drop 6).take 1 = [.int .i64 a6] := e6
  have e7' : (cs.drop 7).take 1 = [.int .i64 a7] := e7
  have e8' : (cs.drop 8).take 1 = [.int .i64 a8] := e8
  have e9' : (cs.drop 9).take 1 = [.int .i64 a9] := e9
  have e10' : (cs.drop 10).take 1 = [.int .i64 a10] := e10
  have e11' : (cs.drop 11).take 1 = [.int .u64 a11] := e11
  match cs, hcl with
  | [b0, b1, b2, b3, b4, b5, b6, b7, b8, b9, b10, b11], _ =>
    simp at e0 e1' e2' e3' e4' e5' e6' e7' e8' e9' e10' e11'
    subst e0 e1' e2' e3' e4' e5' e6' e7' e8' e9' e10' e11'
    rfl

set_option maxRecDepth 100000 in
theorem open_config_val {r : Reach} {b0 : Nat} {v : Value} {d : DataW H} {p : List MemPlace} (ok : Value.okWide Tryz.prog w r b0 42 v) (h : DataW.Trod enc Tryz.prog w base spare held 42 v d p) : ∃ c : Cfg, v = .agg c.cells ∧ c.n ≤ maxLen := by
  obtain ⟨cs, rfl, _⟩ := okWide_struct Tryz.underlying42 ok
  obtain ⟨fuel, hf⟩ := h
  obtain ⟨c, hm, hl⟩ := open_config (cs := cs.toList) hf
  exact ⟨c, by rw [← Array.toList_inj.1 hm], hl⟩
end
end Go.Proofs.YtpkkomifenlkaaaGreat.Conf
