/- 'ConfMay' holds for every input, with no condition: which configs may be, and what is wrong first with one that may not. -/
import Derived.Test.YtfdcofnccbhaaaaConfWrong
import Derived.Deep.RegionHeld3
namespace Go.Proofs.Ytfdcofnccbhaaaa.confMay
open Go.RowKit Conf

theorem n_of {c : Cfg} (h : right (c.n : Int) 1 4 = true) : c.n ≤ 4 := by simp [right] at h; omega
theorem workers_no (c : Cfg) (hc : code c 11 0 = 1) (w : World) :
    Calls Try.prog 28 #[.agg c.cells] w fun e w' => e = .returned (.int .i64 0) ∧ Below w.heap.size w w' := by
  have HC := Lib.hid (check_any c)
  rw [hc] at HC
  unfold Cfg.cells at *
  go_enter Try.func28, Try.ntmps28
  go_wp2_with fail
  refine (HC.out _).mono ?_
  rintro e w2 ⟨rfl, hb⟩
  go_wp2
  go_ret
  exact ⟨rfl, ((Below.refl _ _).alloc (Nat.le_refl _) _).trans (hb.mono (by simp))⟩
theorem workers_yes (c : Cfg) (hc : code c 11 0 = 0) (hn : c.n ≤ 4) (w : World) :
    Calls Try.prog 28 #[.agg c.cells] w fun e w' => e = .returned (.int .i64 (2 * (c.n : Int))) ∧ Below w.heap.size w w' := by
  have h := workers_any c hn w
  rw [if_pos hc] at h
  exact h

/-- A config's box, and what calls leave of it. -/
def CBox (w : World) (c : Cfg) (W : World) : Prop := w.heap.size < W.heap.size ∧ Below w.heap.size w W ∧ W.cell? ⟨w.heap.size, 0, none⟩ = some (.slice c.A c.n c.cap) ∧ W.cell? ⟨w.heap.size, 1, none⟩ = some (.int .i64 c.f1) ∧ W.cell? ⟨w.heap.size, 2, none⟩ = some (.int .i64 c.f2) ∧ W.cell? ⟨w.heap.size, 3, none⟩ = some (.int .i64 c.f3) ∧ W.cell? ⟨w.heap.size, 4, none⟩ = some (.int .i64 c.f4) ∧ W.cell? ⟨w.heap.size, 5, none⟩ = some (.int .i64 c.f5) ∧ W.cell? ⟨w.heap.size, 6, none⟩ = some (.int .i64 c.f6) ∧ W.cell? ⟨w.heap.size, 7, none⟩ = some (.int .i64 c.f7) ∧ W.cell? ⟨w.heap.size, 8, none⟩ = some (.int .i64 c.f8) ∧ W.cell? ⟨w.heap.size, 9, none⟩ = some (.int .i64 c.f9) ∧ W.cell? ⟨w.heap.size, 10, none⟩ = some (.int .i64 c.f10) ∧ W.cell? ⟨w.heap.size, 11, none⟩ = some (.int .u64 c.f11)
theorem CBox.new (w : World) (c : Cfg) : CBox w c (w.alloc (.cells c.cells 40)) :=
  ⟨by simp, (Below.refl _ _).alloc (Nat.le_refl _) _, cell_of_row _ _ 0 _ _ (0, 0) (heap_alloc_new w _), cell_of_row _ _ 1 _ _ (0, 0) (heap_alloc_new w _), cell_of_row _ _ 2 _ _ (0, 0) (heap_alloc_new w _), cell_of_row _ _ 3 _ _ (0, 0) (heap_alloc_new w _), cell_of_row _ _ 4 _ _ (0, 0) (heap_alloc_new w _), cell_of_row _ _ 5 _ _ (0, 0) (heap_alloc_new w _), cell_of_row _ _ 6 _ _ (0, 0) (heap_alloc_new w _), cell_of_row _ _ 7 _ _ (0, 0) (heap_alloc_new w _), cell_of_row _ _ 8 _ _ (0, 0) (heap_alloc_new w _), cell_of_row _ _ 9 _ _ (0, 0) (heap_alloc_new w _), cell_of_row _ _ 10 _ _ (0, 0) (heap_alloc_new w _), cell_of_row _ _ 11 _ _ (0, 0) (heap_alloc_new w _)⟩
theorem CBox.drew {w W : World} {c : Cfg} (h : CBox w c W) : CBox w c W.drew := ⟨h.1, h.2.1.drew, h.2.2⟩
theorem CBox.call {w W w1 : World} {c : Cfg} (h : CBox w c W) (hb : Below W.heap.size W w1) : CBox w c w1 := by
  obtain ⟨h0, h1, x0, x1, x2, x3, x4, x5, x6, x7, x8, x9, x10, x11⟩ := h
  exact ⟨Nat.lt_of_lt_of_le h0 hb.size, h1.trans (hb.mono (Nat.le_of_lt h0)), (hb.cell h0).trans x0, (hb.cell h0).trans x1, (hb.cell h0).trans x2, (hb.cell h0).trans x3, (hb.cell h0).trans x4, (hb.cell h0).trans x5, (hb.cell h0).trans x6, (hb.cell h0).trans x7, (hb.cell h0).trans x8, (hb.cell h0).trans x9, (hb.cell h0).trans x10, (hb.cell h0).trans x11⟩

set_option maxRecDepth 20000 in
set_option maxHeartbeats 1000000 in
theorem account_no (c : Cfg) (n k : Int) (W : ∀ w, Calls Try.prog 28 #[.agg c.cells] w fun e w' => e = .returned (.int .i64 k) ∧ Below w.heap.size w w') (h : n < 0 ∨ k ≤ n) (w : World) :
    Calls Try.prog 29 #[.agg c.cells, .int .i64 n] w fun e w' => e = .returned (.int .i64 (-1)) ∧ Below w.heap.size w w' := by
  unfold Cfg.cells at *
  have HW := Lib.hid W
  clear W
  by_cases h0 : n < 0
  · go_enter Try.func29, Try.ntmps29
    go_wp2_with (go_at_call 28; ((refine (HW.out _).mono ?_); rintro e w1 ⟨rfl, hb⟩))
    go_ret
    exact ⟨rfl, (Below.refl _ _).alloc (Nat.le_refl _) _⟩
  · have h1 : k ≤ n := by omega
    go_enter Try.func29, Try.ntmps29
    go_wp2_with (go_at_call 28; ((refine (HW.out _).mono ?_); rintro e w1 ⟨rfl, hb⟩))
    go_ret
    exact ⟨rfl, ((Below.refl _ _).alloc (Nat.le_refl _) _).trans (hb.mono (by simp))⟩

set_option maxRecDepth 20000 in
set_option maxHeartbeats 1000000 in
theorem account_yes (c : Cfg) (n k : Int) (W : ∀ w, Calls Try.prog 28 #[.agg c.cells] w fun e w' => e = .returned (.int .i64 k) ∧ Below w.heap.size w w') (h0 : 0 ≤ n) (h1 : n < k) (a1 : 1 ≤ c.f1) (a4 : c.f1 ≤ 4) (w : World) :
    Calls Try.prog 29 #[.agg c.cells, .int .i64 n] w fun e w' => e = .returned (.int .i64 (1 + n % c.f1)) ∧ Below w.heap.size w w' := by
  have hge : 0 ≤ n % c.f1 := Int.emod_nonneg _ (by omega)
  have hlt : n % c.f1 < c.f1 := Int.emod_lt_of_pos _ (by omega)
  have e2 : wrap64 (n.tmod c.f1) = n % c.f1 := by rw [Int.tmod_eq_emod_of_nonneg h0]; exact IntWalk.wrap64_in _ ⟨by omega, by omega⟩
  have e3 : wrap64 (1 + n % c.f1) = 1 + n % c.f1 := IntWalk.wrap64_in _ ⟨by omega, by omega⟩
  have hne : ¬ c.f1 = 0 := by omega
  have hnb : (c.f1 == 0) = false := by simpa using hne
  have E := Lib.hid hlt
  clear hlt
  unfold Cfg.cells at *
  have HW := Lib.hid W
  clear W
  go_enter Try.func29, Try.ntmps29
  go_wp2_with fail
  refine (HW.out _).mono ?_
  rintro e w1 ⟨rfl, hb⟩
  have x1 : w1.cell? ⟨w.heap.size, 1, none⟩ = some (.int .i64 c.f1) := (hb.cell (p := ⟨w.heap.size, 1, none⟩) (by simp)).trans (by simp)
  go_wp2
  go_ret
  exact ⟨congrArg (fun z => Ending.returned (.int .i64 z)) e3, ((Below.refl _ _).alloc (Nat.le_refl _) _).trans (hb.mono (by simp))⟩

theorem few_yes (c : Cfg) (h : c.n ≤ 20) (w : World) :
    Calls Try.prog 25 #[.agg c.cells] w fun e w' => e = .returned (.bool true) ∧ Below w.heap.size w w' := by
  have h1 : (c.n : Int) ≤ 20 := by omega
  unfold Cfg.cells at *
  go_enter Try.func25, Try.ntmps25
  go_wp2
  go_ret
  exact ⟨rfl, (Below.refl _ _).alloc (Nat.le_refl _) _⟩
theorem few_no (c : Cfg) (h : 20 < c.n) (w : World) :
    Calls Try.prog 25 #[.agg c.cells] w fun e w' => e = .returned (.bool false) ∧ Below w.heap.size w w' := by
  have h1 : ¬ (c.n : Int) ≤ 20 := by omega
  unfold Cfg.cells at *
  go_enter Try.func25, Try.ntmps25
  go_wp2
  go_ret
  exact ⟨rfl, (Below.refl _ _).alloc (Nat.le_refl _) _⟩

set_option maxRecDepth 20000 in
set_option maxHeartbeats 1000000 in
theorem walk_many (c : Cfg) (n : Int) (h : 20 < c.n) (w : World) :
    Calls Try.prog 5 #[.agg c.cells, .int .i64 n] w fun e w' => e = .returned (.bool true) ∧ Below w.heap.size w w' := by
  have HF := Lib.hid (few_no c h)
  have HN := Lib.hid (CBox.new w c)
  unfold Cfg.cells at HF ⊢
  go_enter Try.func5, Try.ntmps5
  go_wp2_with fail
  refine (HF.out _).mono ?_
  rintro e w1 ⟨rfl, hb⟩
  have HB := Lib.hid (HN.out.call hb)
  clear hb
  go_wp2_with fail
  refine (awake_any _).mono ?_
  rintro e w2 ⟨rfl, hb⟩
  go_wp2
  go_ret
  exact ⟨rfl, (HB.out.call hb).2.1⟩

theorem word_ne (k : Nat) (hk : k < 11) : (word k).toList.isEmpty = false := by
  match k, hk with
  | 0, _ => exact (by decide +kernel)
  | 1, _ => exact (by decide +kernel)
  | 2, _ => exact (by decide +kernel)
  | 3, _ => exact (by decide +kernel)
  | 4, _ => exact (by decide +kernel)
  | 5, _ => exact (by decide +kernel)
  | 6, _ => exact (by decide +kernel)
  | 7, _ => exact (by decide +kernel)
  | 8, _ => exact (by decide +kernel)
  | 9, _ => exact (by decide +kernel)
  | 10, _ => exact (by decide +kernel)

set_option maxRecDepth 20000 in
set_option maxHeartbeats 1000000 in
theorem walk_bad (c : Cfg) (n : Int) (h : c.n ≤ 20) (hc : code c 11 0 = 1) (k : Nat) (hk : k < 11) (hw : wrong c 11 0 = word k) (w : World) :
    Calls Try.prog 5 #[.agg c.cells, .int .i64 n] w fun e w' => e = .returned (.bool true) ∧ Below w.heap.size w w' := by
  have HF := Lib.hid (few_yes c h)
  have HN := Lib.hid (CBox.new w c)
  have hC := check_any c
  rw [hc, hw] at hC
  have HC := Lib.hid hC
  have HK := Lib.hid (workers_no c hc)
  have hA : ∀ w, Calls Try.prog 29 #[.agg c.cells, .int .i64 n] w fun e w' => e = .returned (.int .i64 (-1)) ∧ Below w.heap.size w w' := account_no c n 0 (workers_no c hc) (by omega)
  have HA := Lib.hid hA
  have hR := ref_wrong c
  rw [hw] at hR
  have HR := Lib.hid hR
  clear hc hw hC hA hR
  unfold Cfg.cells at HF HC HK HA HR ⊢
  go_enter Try.func5, Try.ntmps5
  go_wp2_with fail
  refine (HF.out _).mono ?_
  rintro e w1 ⟨rfl, hb⟩
  have HB := Lib.hid (HN.out.call hb)
  clear hb
  obtain ⟨x0, x1, x2, x3, x4, x5, x6, x7, x8, x9, x10, x11⟩ := HB.out.2.2
  go_wp2_with fail
  refine (HC.out _).mono ?_
  rintro e w2 ⟨rfl, hb⟩
  replace HB := Lib.hid (HB.out.call hb)
  clear hb x0 x1 x2 x3 x4 x5 x6 x7 x8 x9 x10 x11
  obtain ⟨x0, x1, x2, x3, x4, x5, x6, x7, x8, x9, x10, x11⟩ := HB.out.2.2
  go_wp2_with fail
  have HS := HB.out
  go_region_held3 (fun w' => w.heap.size < w'.heap.size ∧ Below w.heap.size w w' ∧ w'.cell? ⟨w.heap.size, 0, none⟩ = some (.slice c.A c.n c.cap) ∧ w'.cell? ⟨w.heap.size, 1, none⟩ = some (.int .i64 c.f1) ∧ w'.cell? ⟨w.heap.size, 2, none⟩ = some (.int .i64 c.f2) ∧ w'.cell? ⟨w.heap.size, 3, none⟩ = some (.int .i64 c.f3) ∧ w'.cell? ⟨w.heap.size, 4, none⟩ = some (.int .i64 c.f4) ∧ w'.cell? ⟨w.heap.size, 5, none⟩ = some (.int .i64 c.f5) ∧ w'.cell? ⟨w.heap.size, 6, none⟩ = some (.int .i64 c.f6) ∧ w'.cell? ⟨w.heap.size, 7, none⟩ = some (.int .i64 c.f7) ∧ w'.cell? ⟨w.heap.size, 8, none⟩ = some (.int .i64 c.f8) ∧ w'.cell? ⟨w.heap.size, 9, none⟩ = some (.int .i64 c.f9) ∧ w'.cell? ⟨w.heap.size, 10, none⟩ = some (.int .i64 c.f10) ∧ w'.cell? ⟨w.heap.size, 11, none⟩ = some (.int .u64 c.f11))
    (first | assumption | exact CBox.drew (by assumption) | exact CBox.call (by assumption) hb1 | exact CBox.call (CBox.drew (by assumption)) hb1)
    (first
      | (go_at_call 28; ((with_reducible refine (HK.out _).mono ?_); rintro e w1 ⟨rfl, hb1⟩))
      | (go_at_call 29; ((with_reducible refine (HA.out _).mono ?_); rintro e w1 ⟨rfl, hb1⟩)))
  obtain ⟨hz, hB, x0, x1, x2, x3, x4, x5, x6, x7, x8, x9, x10, x11⟩ : _ ∧ Below w.heap.size w w1 ∧ _ ∧ _ ∧ _ ∧ _ ∧ _ ∧ _ ∧ _ ∧ _ ∧ _ ∧ _ ∧ _ ∧ _ := by assumption
  have HB2 := Lib.hid (show CBox w c w1 from by assumption)
  go_wp2_with fail
  refine (HR.out _).mono ?_
  rintro e w5 ⟨rfl, hb⟩
  replace HB2 := Lib.hid (HB2.out.call hb)
  clear hb x0 x1 x2 x3 x4 x5 x6 x7 x8 x9 x10 x11
  have hs1 := word_ne k hk
  have hs2 : ¬ (word k).toList = [] := fun e => by rw [e] at hs1; cases hs1
  go_wp2_with fail
  refine (awake_any _).mono ?_
  rintro e w6 ⟨rfl, hb⟩
  go_wp2
  go_ret
  exact ⟨rfl, (HB2.out.call hb).2.1⟩

set_option maxRecDepth 20000 in
set_option maxHeartbeats 1000000 in
theorem walk_neg (c : Cfg) (n : Int) (h : c.n ≤ 20) (hc : code c 11 0 = 0) (hw : wrong c 11 0 = ⟨#[]⟩) (h4 : c.n ≤ 4) (ha : ∀ w, Calls Try.prog 29 #[.agg c.cells, .int .i64 n] w fun e w' => e = .returned (.int .i64 (-1)) ∧ Below w.heap.size w w') (hn : n < 0) (w : World) :
    Calls Try.prog 5 #[.agg c.cells, .int .i64 n] w fun e w' => e = .returned (.bool true) ∧ Below w.heap.size w w' := by
  have HF := Lib.hid (few_yes c h)
  have HN := Lib.hid (CBox.new w c)
  have hC := check_any c
  rw [hc, hw] at hC
  have HC := Lib.hid hC
  have HK := Lib.hid (workers_yes c hc h4)
  have hA := ha
  clear ha
  have HA := Lib.hid hA
  have hR := ref_wrong c
  rw [hw] at hR
  have HR := Lib.hid hR
  clear hc hw hC hA hR
  unfold Cfg.cells at HF HC HK HA HR ⊢
  go_enter Try.func5, Try.ntmps5
  go_wp2_with fail
  refine (HF.out _).mono ?_
  rintro e w1 ⟨rfl, hb⟩
  have HB := Lib.hid (HN.out.call hb)
  clear hb
  obtain ⟨x0, x1, x2, x3, x4, x5, x6, x7, x8, x9, x10, x11⟩ := HB.out.2.2
  go_wp2_with fail
  refine (HC.out _).mono ?_
  rintro e w2 ⟨rfl, hb⟩
  replace HB := Lib.hid (HB.out.call hb)
  clear hb x0 x1 x2 x3 x4 x5 x6 x7 x8 x9 x10 x11
  obtain ⟨x0, x1, x2, x3, x4, x5, x6, x7, x8, x9, x10, x11⟩ := HB.out.2.2
  go_wp2_with fail
  have HS := HB.out
  go_region_held3 (fun w' => w.heap.size < w'.heap.size ∧ Below w.heap.size w w' ∧ w'.cell? ⟨w.heap.size, 0, none⟩ = some (.slice c.A c.n c.cap) ∧ w'.cell? ⟨w.heap.size, 1, none⟩ = some (.int .i64 c.f1) ∧ w'.cell? ⟨w.heap.size, 2, none⟩ = some (.int .i64 c.f2) ∧ w'.cell? ⟨w.heap.size, 3, none⟩ = some (.int .i64 c.f3) ∧ w'.cell? ⟨w.heap.size, 4, none⟩ = some (.int .i64 c.f4) ∧ w'.cell? ⟨w.heap.size, 5, none⟩ = some (.int .i64 c.f5) ∧ w'.cell? ⟨w.heap.size, 6, none⟩ = some (.int .i64 c.f6) ∧ w'.cell? ⟨w.heap.size, 7, none⟩ = some (.int .i64 c.f7) ∧ w'.cell? ⟨w.heap.size, 8, none⟩ = some (.int .i64 c.f8) ∧ w'.cell? ⟨w.heap.size, 9, none⟩ = some (.int .i64 c.f9) ∧ w'.cell? ⟨w.heap.size, 10, none⟩ = some (.int .i64 c.f10) ∧ w'.cell? ⟨w.heap.size, 11, none⟩ = some (.int .u64 c.f11))
    (first | assumption | exact CBox.drew (by assumption) | exact CBox.call (by assumption) hb1 | exact CBox.call (CBox.drew (by assumption)) hb1)
    (first
      | (go_at_call 28; ((with_reducible refine (HK.out _).mono ?_); rintro e w1 ⟨rfl, hb1⟩))
      | (go_at_call 29; ((with_reducible refine (HA.out _).mono ?_); rintro e w1 ⟨rfl, hb1⟩)))
  obtain ⟨hz, hB, x0, x1, x2, x3, x4, x5, x6, x7, x8, x9, x10, x11⟩ : _ ∧ Below w.heap.size w w1 ∧ _ ∧ _ ∧ _ ∧ _ ∧ _ ∧ _ ∧ _ ∧ _ ∧ _ ∧ _ ∧ _ ∧ _ := by assumption
  have HB2 := Lib.hid (show CBox w c w1 from by assumption)
  go_wp2_with fail
  refine (HR.out _).mono ?_
  rintro e w5 ⟨rfl, hb⟩
  replace HB2 := Lib.hid (HB2.out.call hb)
  clear hb x0 x1 x2 x3 x4 x5 x6 x7 x8 x9 x10 x11
  obtain ⟨x0, x1, x2, x3, x4, x5, x6, x7, x8, x9, x10, x11⟩ := HB2.out.2.2
  have n0 : (0 : Int) ≤ (c.n : Int) := by omega
  have n4 : (c.n : Int) ≤ 4 := by omega
  go_wp2_with fail
  refine (awake_any _).mono ?_
  rintro e w6 ⟨rfl, hb⟩
  go_wp2
  go_ret
  exact ⟨rfl, (HB2.out.call hb).2.1⟩

set_option maxRecDepth 20000 in
set_option maxHeartbeats 1000000 in
theorem walk_big (c : Cfg) (n : Int) (h : c.n ≤ 20) (hc : code c 11 0 = 0) (hw : wrong c 11 0 = ⟨#[]⟩) (h4 : c.n ≤ 4) (ha : ∀ w, Calls Try.prog 29 #[.agg c.cells, .int .i64 n] w fun e w' => e = .returned (.int .i64 (-1)) ∧ Below w.heap.size w w') (hn0 : 0 ≤ n) (hn : 2 * (c.n : Int) ≤ n) (w : World) :
    Calls Try.prog 5 #[.agg c.cells, .int .i64 n] w fun e w' => e = .returned (.bool true) ∧ Below w.heap.size w w' := by
  have HF := Lib.hid (few_yes c h)
  have HN := Lib.hid (CBox.new w c)
  have hC := check_any c
  rw [hc, hw] at hC
  have HC := Lib.hid hC
  have HK := Lib.hid (workers_yes c hc h4)
  have hA := ha
  clear ha
  have HA := Lib.hid hA
  have hR := ref_wrong c
  rw [hw] at hR
  have HR := Lib.hid hR
  clear hc hw hC hA hR
  unfold Cfg.cells at HF HC HK HA HR ⊢
  go_enter Try.func5, Try.ntmps5
  go_wp2_with fail
  refine (HF.out _).mono ?_
  rintro e w1 ⟨rfl, hb⟩
  have HB := Lib.hid (HN.out.call hb)
  clear hb
  obtain ⟨x0, x1, x2, x3, x4, x5, x6, x7, x8, x9, x10, x11⟩ := HB.out.2.2
  go_wp2_with fail
  refine (HC.out _).mono ?_
  rintro e w2 ⟨rfl, hb⟩
  replace HB := Lib.hid (HB.out.call hb)
  clear hb x0 x1 x2 x3 x4 x5 x6 x7 x8 x9 x10 x11
  obtain ⟨x0, x1, x2, x3, x4, x5, x6, x7, x8, x9, x10, x11⟩ := HB.out.2.2
  go_wp2_with fail
  have HS := HB.out
  go_region_held3 (fun w' => w.heap.size < w'.heap.size ∧ Below w.heap.size w w' ∧ w'.cell? ⟨w.heap.size, 0, none⟩ = some (.slice c.A c.n c.cap) ∧ w'.cell? ⟨w.heap.size, 1, none⟩ = some (.int .i64 c.f1) ∧ w'.cell? ⟨w.heap.size, 2, none⟩ = some (.int .i64 c.f2) ∧ w'.cell? ⟨w.heap.size, 3, none⟩ = some (.int .i64 c.f3) ∧ w'.cell? ⟨w.heap.size, 4, none⟩ = some (.int .i64 c.f4) ∧ w'.cell? ⟨w.heap.size, 5, none⟩ = some (.int .i64 c.f5) ∧ w'.cell? ⟨w.heap.size, 6, none⟩ = some (.int .i64 c.f6) ∧ w'.cell? ⟨w.heap.size, 7, none⟩ = some (.int .i64 c.f7) ∧ w'.cell? ⟨w.heap.size, 8, none⟩ = some (.int .i64 c.f8) ∧ w'.cell? ⟨w.heap.size, 9, none⟩ = some (.int .i64 c.f9) ∧ w'.cell? ⟨w.heap.size, 10, none⟩ = some (.int .i64 c.f10) ∧ w'.cell? ⟨w.heap.size, 11, none⟩ = some (.int .u64 c.f11))
    (first | assumption | exact CBox.drew (by assumption) | exact CBox.call (by assumption) hb1 | exact CBox.call (CBox.drew (by assumption)) hb1)
    (first
      | (go_at_call 28; ((with_reducible refine (HK.out _).mono ?_); rintro e w1 ⟨rfl, hb1⟩))
      | (go_at_call 29; ((with_reducible refine (HA.out _).mono ?_); rintro e w1 ⟨rfl, hb1⟩)))
  obtain ⟨hz, hB, x0, x1, x2, x3, x4, x5, x6, x7, x8, x9, x10, x11⟩ : _ ∧ Below w.heap.size w w1 ∧ _ ∧ _ ∧ _ ∧ _ ∧ _ ∧ _ ∧ _ ∧ _ ∧ _ ∧ _ ∧ _ ∧ _ := by assumption
  have HB2 := Lib.hid (show CBox w c w1 from by assumption)
  go_wp2_with fail
  refine (HR.out _).mono ?_
  rintro e w5 ⟨rfl, hb⟩
  replace HB2 := Lib.hid (HB2.out.call hb)
  clear hb x0 x1 x2 x3 x4 x5 x6 x7 x8 x9 x10 x11
  obtain ⟨x0, x1, x2, x3, x4, x5, x6, x7, x8, x9, x10, x11⟩ := HB2.out.2.2
  have n0 : (0 : Int) ≤ (c.n : Int) := by omega
  have n4 : (c.n : Int) ≤ 4 := by omega
  go_wp2_with fail
  refine (awake_any _).mono ?_
  rintro e w6 ⟨rfl, hb⟩
  go_wp2
  go_ret
  exact ⟨rfl, (HB2.out.call hb).2.1⟩

set_option maxRecDepth 20000 in
set_option maxHeartbeats 1000000 in
theorem walk_in (c : Cfg) (n : Int) (h : c.n ≤ 20) (hc : code c 11 0 = 0) (hw : wrong c 11 0 = ⟨#[]⟩) (h4 : c.n ≤ 4) (a1 : 1 ≤ c.f1) (a4 : c.f1 ≤ 4) (ha : ∀ w, Calls Try.prog 29 #[.agg c.cells, .int .i64 n] w fun e w' => e = .returned (.int .i64 (1 + n % c.f1)) ∧ Below w.heap.size w w') (hn0 : 0 ≤ n) (hn : n < 2 * (c.n : Int)) (w : World) :
    Calls Try.prog 5 #[.agg c.cells, .int .i64 n] w fun e w' => e = .returned (.bool true) ∧ Below w.heap.size w w' := by
  have HF := Lib.hid (few_yes c h)
  have HN := Lib.hid (CBox.new w c)
  have hC := check_any c
  rw [hc, hw] at hC
  have HC := Lib.hid hC
  have HK := Lib.hid (workers_yes c hc h4)
  have hA := ha
  clear ha
  have HA := Lib.hid hA
  have hR := ref_wrong c
  rw [hw] at hR
  have HR := Lib.hid hR
  clear hc hw hC hA hR
  unfold Cfg.cells at HF HC HK HA HR ⊢
  go_enter Try.func5, Try.ntmps5
  go_wp2_with fail
  refine (HF.out _).mono ?_
  rintro e w1 ⟨rfl, hb⟩
  have HB := Lib.hid (HN.out.call hb)
  clear hb
  obtain ⟨x0, x1, x2, x3, x4, x5, x6, x7, x8, x9, x10, x11⟩ := HB.out.2.2
  go_wp2_with fail
  refine (HC.out _).mono ?_
  rintro e w2 ⟨rfl, hb⟩
  replace HB := Lib.hid (HB.out.call hb)
  clear hb x0 x1 x2 x3 x4 x5 x6 x7 x8 x9 x10 x11
  obtain ⟨x0, x1, x2, x3, x4, x5, x6, x7, x8, x9, x10, x11⟩ := HB.out.2.2
  go_wp2_with fail
  have HS := HB.out
  go_region_held3 (fun w' => w.heap.size < w'.heap.size ∧ Below w.heap.size w w' ∧ w'.cell? ⟨w.heap.size, 0, none⟩ = some (.slice c.A c.n c.cap) ∧ w'.cell? ⟨w.heap.size, 1, none⟩ = some (.int .i64 c.f1) ∧ w'.cell? ⟨w.heap.size, 2, none⟩ = some (.int .i64 c.f2) ∧ w'.cell? ⟨w.heap.size, 3, none⟩ = some (.int .i64 c.f3) ∧ w'.cell? ⟨w.heap.size, 4, none⟩ = some (.int .i64 c.f4) ∧ w'.cell? ⟨w.heap.size, 5, none⟩ = some (.int .i64 c.f5) ∧ w'.cell? ⟨w.heap.size, 6, none⟩ = some (.int .i64 c.f6) ∧ w'.cell? ⟨w.heap.size, 7, none⟩ = some (.int .i64 c.f7) ∧ w'.cell? ⟨w.heap.size, 8, none⟩ = some (.int .i64 c.f8) ∧ w'.cell? ⟨w.heap.size, 9, none⟩ = some (.int .i64 c.f9) ∧ w'.cell? ⟨w.heap.size, 10, none⟩ = some (.int .i64 c.f10) ∧ w'.cell? ⟨w.heap.size, 11, none⟩ = some (.int .u64 c.f11))
    (first | assumption | exact CBox.drew (by assumption) | exact CBox.call (by assumption) hb1 | exact CBox.call (CBox.drew (by assumption)) hb1)
    (first
      | (go_at_call 28; ((with_reducible refine (HK.out _).mono ?_); rintro e w1 ⟨rfl, hb1⟩))
      | (go_at_call 29; ((with_reducible refine (HA.out _).mono ?_); rintro e w1 ⟨rfl, hb1⟩)))
  obtain ⟨hz, hB, x0, x1, x2, x3, x4, x5, x6, x7, x8, x9, x10, x11⟩ : _ ∧ Below w.heap.size w w1 ∧ _ ∧ _ ∧ _ ∧ _ ∧ _ ∧ _ ∧ _ ∧ _ ∧ _ ∧ _ ∧ _ ∧ _ := by assumption
  have HB2 := Lib.hid (show CBox w c w1 from by assumption)
  go_wp2_with fail
  refine (HR.out _).mono ?_
  rintro e w5 ⟨rfl, hb⟩
  replace HB2 := Lib.hid (HB2.out.call hb)
  clear hb x0 x1 x2 x3 x4 x5 x6 x7 x8 x9 x10 x11
  obtain ⟨x0, x1, x2, x3, x4, x5, x6, x7, x8, x9, x10, x11⟩ := HB2.out.2.2
  have n0 : (0 : Int) ≤ (c.n : Int) := by omega
  have n4 : (c.n : Int) ≤ 4 := by omega
  go_wp2_with fail
  refine (awake_any _).mono ?_
  rintro e w6 ⟨rfl, hb⟩
  replace HB2 := Lib.hid (HB2.out.call hb)
  clear hb x0 x1 x2 x3 x4 x5 x6 x7 x8 x9 x10 x11
  obtain ⟨x0, x1, x2, x3, x4, x5, x6, x7, x8, x9, x10, x11⟩ := HB2.out.2.2
  have hge : 0 ≤ n % c.f1 := Int.emod_nonneg _ (by omega)
  have hlt : n % c.f1 < c.f1 := Int.emod_lt_of_pos _ (by omega)
  have e2 : wrap64 (n.tmod c.f1) = n % c.f1 := by rw [Int.tmod_eq_emod_of_nonneg hn0]; exact IntWalk.wrap64_in _ ⟨by omega, by omega⟩
  have e3 : wrap64 (1 + n % c.f1) = 1 + n % c.f1 := IntWalk.wrap64_in _ ⟨by omega, by omega⟩
  have hne : ¬ c.f1 = 0 := by omega
  have hnb : (c.f1 == 0) = false := by simpa using hne
  clear hlt
  go_wp2
  go_ret
  exact ⟨rfl, HB2.out.2.1⟩

theorem walk_any (c : Cfg) (n : Int) (w : World) :
    Calls Try.prog 5 #[.agg c.cells, .int .i64 n] w fun e w' => e = .returned (.bool true) ∧ Below w.heap.size w w' := by
  by_cases hl : 20 < c.n
  · exact walk_many c n hl w
  · rcases wrong_or c with ⟨hc, hw, r0, r1⟩ | ⟨hc, k, hk, hw⟩
    · have h4 := n_of r0
      have hr : 1 ≤ c.f1 ∧ c.f1 ≤ 4 := by simp [right] at r1; omega
      by_cases n0 : n < 0
      · exact walk_neg c n (by omega) hc hw h4 (account_no c n _ (workers_yes c hc h4) (by omega)) n0 w
      · by_cases n1 : n < 2 * (c.n : Int)
        · exact walk_in c n (by omega) hc hw h4 hr.1 hr.2 (account_yes c n _ (workers_yes c hc h4) (by omega) n1 hr.1 hr.2) (by omega) n1 w
        · exact walk_big c n (by omega) hc hw h4 (account_no c n _ (workers_yes c hc h4) (by omega)) (by omega) (by omega) w
    · exact walk_bad c n (by omega) hc k hk hw w
end Go.Proofs.Ytfdcofnccbhaaaa.confMay
