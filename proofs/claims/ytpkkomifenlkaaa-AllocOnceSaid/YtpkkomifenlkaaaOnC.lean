import Derived.Test.YtpkkomifenlkaaaAlLawW
import Derived.Deep.CutBlock
import Derived.Deep.DeepCutAuto
import Derived.Test.YtpkkomifenlkaaaAlLaw
import Derived.Deep.AppendLies
import Derived.ProofKit
/- AllocOnce: its guards. -/
namespace Go.Proofs.Ytpkkomifenlkaaa.Au
open Go Go.RowKit Go.MuLone Conf
set_option linter.unusedVariables false

set_option maxRecDepth 20000 in
set_option maxHeartbeats 2000000 in
theorem once_few (c : Cfg) (h : 20 < c.n) (A : Option Addr) (len cap : Nat) (W : World) :
    Calls Try.prog 3 #[.agg c.cells, .slice A len cap] W fun e w' => e = .returned (.bool true) ∧ Below W.heap.size W w' := by
  have HF := Lib.hid (fun V => few_no c h V)
  clear h
  obtain ⟨cA, cn, cc, f1, f2, f3, f4, f5, f6, f7, f8, f9, f10, f11⟩ := c
  unfold Cfg.cells at *
  dsimp only at *
  obtain ⟨W0, hW0⟩ : ∃ X, X = W.alloc (.cells #[.slice cA cn cc, .int .i64 f1, .int .i64 f2, .int .i64 f3, .int .i64 f4, .int .i64 f5, .int .i64 f6, .int .i64 f7, .int .i64 f8, .int .i64 f9, .int .i64 f10, .int .u64 f11] TCf) := ⟨_, rfl⟩
  have hc0 : W0.heap[W.heap.size]? = some (.cells #[.slice cA cn cc, .int .i64 f1, .int .i64 f2, .int .i64 f3, .int .i64 f4, .int .i64 f5, .int .i64 f6, .int .i64 f7, .int .i64 f8, .int .i64 f9, .int .i64 f10, .int .u64 f11] TCf (0, 0)) := by rw [hW0]; exact heap_alloc_new _ _
  have b0 : Below W.heap.size W W0 := by rw [hW0]; exact (Below.refl _ _).alloc (Nat.le_refl _) _
  have H0 := Lib.hid (And.intro hc0 b0)
  have q := fun i => cell_of_row W0 W.heap.size i _ _ (0, 0) hc0
  have q0 := q 0; have q1 := q 1; have q2 := q 2; have q3 := q 3; have q4 := q 4; have q5 := q 5; have q6 := q 6; have q7 := q 7; have q8 := q 8; have q9 := q 9; have q10 := q 10; have q11 := q 11
  clear q
  clear hc0 b0
  go_enter Try.func3, Try.ntmps3
  go_upto_region 1 with fail
  rw [← hW0]
  clear hW0
  go_wp2_with fail
  refine (HF.out _).mono ?_
  rintro _ w1 ⟨rfl, b1⟩
  have hc1 := kp b1 H0.out.1
  have H1 := Lib.hid (And.intro hc1 (H0.out.2.trans (b1.mono H0.out.2.size)))
  clear q0 q1 q2 q3 q4 q5 q6 q7 q8 q9 q10 q11 b1 H0 HF
  have q := fun i => cell_of_row w1 W.heap.size i _ _ (0, 0) hc1
  have q0 := q 0; have q1 := q 1; have q2 := q 2; have q3 := q 3; have q4 := q 4; have q5 := q 5; have q6 := q 6; have q7 := q 7; have q8 := q 8; have q9 := q 9; have q10 := q 10; have q11 := q 11
  clear q
  clear hc1
  go_wp2_with fail
  refine (awake_any _).mono ?_
  rintro _ w9 ⟨rfl, b9⟩
  have hbe := H1.out.2.trans (b9.mono H1.out.2.size)
  clear b9
  go_wp2
  go_ret
  exact ⟨rfl, hbe⟩
set_option maxRecDepth 20000 in
set_option maxHeartbeats 2000000 in
theorem once_long (c : Cfg) (h : c.n ≤ 20) (A : Option Addr) (len cap : Nat) (hl : 100 < len) (W : World) :
    Calls Try.prog 3 #[.agg c.cells, .slice A len cap] W fun e w' => e = .returned (.bool true) ∧ Below W.heap.size W w' := by
  have hp : (100 : Int) < (len : Int) := by omega
  have hp2 : decide ((100 : Int) < (len : Int)) = true := by simp; omega
  have HF := Lib.hid (fun V => few_yes c h V)
  clear h
  obtain ⟨cA, cn, cc, f1, f2, f3, f4, f5, f6, f7, f8, f9, f10, f11⟩ := c
  unfold Cfg.cells at *
  dsimp only at *
  obtain ⟨W0, hW0⟩ : ∃ X, X = W.alloc (.cells #[.slice cA cn cc, .int .i64 f1, .int .i64 f2, .int .i64 f3, .int .i64 f4, .int .i64 f5, .int .i64 f6, .int .i64 f7, .int .i64 f8, .int .i64 f9, .int .i64 f10, .int .u64 f11] TCf) := ⟨_, rfl⟩
  have hc0 : W0.heap[W.heap.size]? = some (.cells #[.slice cA cn cc, .int .i64 f1, .int .i64 f2, .int .i64 f3, .int .i64 f4, .int .i64 f5, .int .i64 f6, .int .i64 f7, .int .i64 f8, .int .i64 f9, .int .i64 f10, .int .u64 f11] TCf (0, 0)) := by rw [hW0]; exact heap_alloc_new _ _
  have b0 : Below W.heap.size W W0 := by rw [hW0]; exact (Below.refl _ _).alloc (Nat.le_refl _) _
  have H0 := Lib.hid (And.intro hc0 b0)
  have q := fun i => cell_of_row W0 W.heap.size i _ _ (0, 0) hc0
  have q0 := q 0; have q1 := q 1; have q2 := q 2; have q3 := q 3; have q4 := q 4; have q5 := q 5; have q6 := q 6; have q7 := q 7; have q8 := q 8; have q9 := q 9; have q10 := q 10; have q11 := q 11
  clear q
  clear hc0 b0
  go_enter Try.func3, Try.ntmps3
  go_upto_region 1 with fail
  rw [← hW0]
  clear hW0
  go_wp2_with fail
  refine (HF.out _).mono ?_
  rintro _ w1 ⟨rfl, b1⟩
  have hc1 := kp b1 H0.out.1
  have H1 := Lib.hid (And.intro hc1 (H0.out.2.trans (b1.mono H0.out.2.size)))
  clear q0 q1 q2 q3 q4 q5 q6 q7 q8 q9 q10 q11 b1 H0 HF
  have q := fun i => cell_of_row w1 W.heap.size i _ _ (0, 0) hc1
  have q0 := q 0; have q1 := q 1; have q2 := q 2; have q3 := q 3; have q4 := q 4; have q5 := q 5; have q6 := q 6; have q7 := q 7; have q8 := q 8; have q9 := q 9; have q10 := q 10; have q11 := q 11
  clear q
  clear hc1
  go_wp2_with fail
  refine (awake_any _).mono ?_
  rintro _ w9 ⟨rfl, b9⟩
  have hbe := H1.out.2.trans (b9.mono H1.out.2.size)
  clear b9
  go_wp2
  go_ret
  exact ⟨rfl, hbe⟩
set_option maxRecDepth 20000 in
set_option maxHeartbeats 2000000 in
theorem once_wrong (c : Cfg) (h : c.n ≤ 20) (hwr : ∃ k, k < 11 ∧ wrong c 11 0 = word k) (A : Option Addr) (len cap : Nat) (hl : len ≤ 100) (W : World) :
    Calls Try.prog 3 #[.agg c.cells, .slice A len cap] W fun e w' => e = .returned (.bool true) ∧ Below W.heap.size W w' := by
  have hp : ¬ (100 : Int) < (len : Int) := by omega
  have hp2 : decide ((100 : Int) < (len : Int)) = false := by simp; omega
  obtain ⟨k, hk, hwk⟩ := hwr
  obtain ⟨z, hz⟩ : ∃ z, z = word k := ⟨_, rfl⟩
  have z1 : (z == (⟨#[]⟩ : ByteArray)) = false := by rw [hz]; exact (word_ne k hk).1
  have z2 : ¬ z.toList = [] := by rw [hz]; exact (word_ne k hk).2
  have z3 : z.toList.isEmpty = false := by simpa using z2
  have HWr : Hid (∀ V, Calls Try.prog 5 #[.agg c.cells] V fun e w' => e = .returned (.string z) ∧ Below V.heap.size V w') := Lib.hid (fun V => by rw [hz, ← hwk]; exact ref_wrong c V)
  have HF := Lib.hid (fun V => few_yes c h V)
  clear hz hwk hk h
  obtain ⟨cA, cn, cc, f1, f2, f3, f4, f5, f6, f7, f8, f9, f10, f11⟩ := c
  unfold Cfg.cells at *
  dsimp only at *
  obtain ⟨W0, hW0⟩ : ∃ X, X = W.alloc (.cells #[.slice cA cn cc, .int .i64 f1, .int .i64 f2, .int .i64 f3, .int .i64 f4, .int .i64 f5, .int .i64 f6, .int .i64 f7, .int .i64 f8, .int .i64 f9, .int .i64 f10, .int .u64 f11] TCf) := ⟨_, rfl⟩
  have hc0 : W0.heap[W.heap.size]? = some (.cells #[.slice cA cn cc, .int .i64 f1, .int .i64 f2, .int .i64 f3, .int .i64 f4, .int .i64 f5, .int .i64 f6, .int .i64 f7, .int .i64 f8, .int .i64 f9, .int .i64 f10, .int .u64 f11] TCf (0, 0)) := by rw [hW0]; exact heap_alloc_new _ _
  have b0 : Below W.heap.size W W0 := by rw [hW0]; exact (Below.refl _ _).alloc (Nat.le_refl _) _
  have H0 := Lib.hid (And.intro hc0 b0)
  have q := fun i => cell_of_row W0 W.heap.size i _ _ (0, 0) hc0
  have q0 := q 0; have q1 := q 1; have q2 := q 2; have q3 := q 3; have q4 := q 4; have q5 := q 5; have q6 := q 6; have q7 := q 7; have q8 := q 8; have q9 := q 9; have q10 := q 10; have q11 := q 11
  clear q
  clear hc0 b0
  go_enter Try.func3, Try.ntmps3
  go_upto_region 1 with fail
  rw [← hW0]
  clear hW0
  go_wp2_with fail
  refine (HF.out _).mono ?_
  rintro _ w1 ⟨rfl, b1⟩
  have hc1 := kp b1 H0.out.1
  have H1 := Lib.hid (And.intro hc1 (H0.out.2.trans (b1.mono H0.out.2.size)))
  clear q0 q1 q2 q3 q4 q5 q6 q7 q8 q9 q10 q11 b1 H0 HF
  have q := fun i => cell_of_row w1 W.heap.size i _ _ (0, 0) hc1
  have q0 := q 0; have q1 := q 1; have q2 := q 2; have q3 := q 3; have q4 := q 4; have q5 := q 5; have q6 := q 6; have q7 := q 7; have q8 := q 8; have q9 := q 9; have q10 := q 10; have q11 := q 11
  clear q
  clear hc1
  go_wp2_with fail
  refine (HWr.out _).mono ?_
  rintro _ w2 ⟨rfl, b2⟩
  have hc2 := kp b2 H1.out.1
  have H2 := Lib.hid (And.intro hc2 (H1.out.2.trans (b2.mono H1.out.2.size)))
  clear q0 q1 q2 q3 q4 q5 q6 q7 q8 q9 q10 q11 b2 H1 HWr
  go_wp2_with fail
  refine (awake_any _).mono ?_
  rintro _ w9 ⟨rfl, b9⟩
  have hbe := H2.out.2.trans (b9.mono H2.out.2.size)
  clear b9
  go_wp2
  go_ret
  exact ⟨rfl, hbe⟩
end Go.Proofs.Ytpkkomifenlkaaa.Au
/- AllocOnce: what was given out, in sums. -/
namespace Go.Proofs.Ytpkkomifenlkaaa.Au
open Go Go.RowKit Go.MuLone
set_option linter.unusedVariables false

/-- a number that was given out: the side, the account, the number -/
abbrev Ot := Int × Int × Int
def Ot.q (x : Ot) : Oq := ⟨0, 0, 0, 0, 0, x.1, x.2.1, 0, x.2.2⟩
/-- what is left of what was given out -/
def stay (xkd xsd xac : Int) (ns : List Int) (q : Oq) : Bool := !(decide (q.sd = xsd ∧ q.ac = xac) && (decide (xkd = 9) || ns.contains q.nn))
def stayO (xkd xsd xac : Int) (ns : List Int) (x : Ot) : Bool := stay xkd xsd xac ns x.q
theorem stay_map (xkd xsd xac : Int) (ns : List Int) (L : List Ot) : (L.map Ot.q).filter (stay xkd xsd xac ns) = (L.filter (stayO xkd xsd xac ns)).map Ot.q := by
  rw [List.filter_map]; rfl
theorem stayO_iff {xkd xsd xac : Int} {ns : List Int} {x : Ot} : stayO xkd xsd xac ns x = true ↔ ¬ ((x.1 = xsd ∧ x.2.1 = xac) ∧ (xkd = 9 ∨ x.2.2 ∈ ns)) := by
  unfold stayO stay Ot.q
  by_cases h1 : x.1 = xsd <;> by_cases h2 : x.2.1 = xac <;> simp [h1, h2]
theorem idx_inj {A : Nat} {sd ac sd' ac' : Int} {i : Nat} (h : idx A sd ac = some i) (h' : idx A sd' ac' = some i) : sd = sd' ∧ ac = ac' := by
  unfold idx at h h'
  split at h
  · split at h'
    · injection h with h
      injection h' with h'
      rename_i c c'
      have e1 : sd = 0 ∨ sd = 1 := by omega
      have e2 : sd' = 0 ∨ sd' = 1 := by omega
      rcases e1 with rfl | rfl <;> rcases e2 with rfl | rfl <;> simp at h h' <;> omega
    · cases h'
  · cases h
/-- what was given out is none of what is free, nor of what comes yet -/
def Inv (A : Nat) (s : Nat → Nu) (L : List Ot) : Prop := ∀ x ∈ L, ∃ i, idx A x.1 x.2.1 = some i ∧ 0 ≤ x.2.2 ∧ x.2.2 < (s i).nx ∧ x.2.2 ∉ (s i).L
theorem Inv.nil {A : Nat} {s : Nat → Nu} : Inv A s [] := fun x h => by cases h
theorem Inv.sub {A : Nat} {s : Nat → Nu} {L L' : List Ot} (h : Inv A s L) (hs : ∀ x ∈ L', x ∈ L) : Inv A s L' := fun x hx => h x (hs x hx)
theorem Inv.filter {A : Nat} {s : Nat → Nu} {L : List Ot} (h : Inv A s L) (p : Ot → Bool) : Inv A s (L.filter p) := h.sub fun x hx => (List.mem_filter.1 hx).1
/-- an account's numbers changed: what of it was given out still is well -/
theorem Inv.upd {A : Nat} {s : Nat → Nu} {L L' : List Ot} {i : Nat} {t : Nu} (h : Inv A s L) (hs : ∀ x ∈ L', x ∈ L) (ht : ∀ x ∈ L', idx A x.1 x.2.1 = some i → 0 ≤ x.2.2 → x.2.2 < (s i).nx → x.2.2 ∉ (s i).L → x.2.2 < t.nx ∧ x.2.2 ∉ t.L) : Inv A (upd s i t) L' := fun x hx => by
  obtain ⟨j, hj, h1, h2, h3⟩ := h x (hs x hx)
  refine ⟨j, hj, h1, ?_⟩
  by_cases e : j = i
  · subst e
    rw [upd_at]
    exact ht x hx hj h1 h2 h3
  · rw [upd_off e]
    exact ⟨h2, h3⟩
theorem doR_split (A : Nat) (o : Oq) (s : Nat → Nu) : ((doR A o s).1 ≠ 0 ∧ doS A o s = s) ∨ ∃ i, idx A o.sd o.ac = some i ∧ 6 ≤ o.kd ∧ o.kd ≤ 10 ∧ doR A o s = nuR o (s i) ∧ doS A o s = upd s i (nuS o (s i)) := by
  unfold doR doS
  by_cases hb : o.kd < 6 ∨ 10 < o.kd ∨ o.who < 1
  · left
    rw [if_pos hb, if_pos hb]
    exact ⟨by decide, rfl⟩
  · rw [if_neg hb, if_neg hb]
    cases hi : idx A o.sd o.ac with
    | none => exact Or.inl ⟨by show (24 : Int) ≠ 0; decide, rfl⟩
    | some i => exact Or.inr ⟨i, rfl, by omega, by omega, rfl, rfl⟩
theorem nuS_err {o : Oq} {s : Nu} (h : (nuR o s).1 ≠ 0) : nuS o s = s := by
  unfold nuR at h
  unfold nuS
  split at h
  · rename_i hk
    rw [if_pos hk]
    split at h
    · rename_i h1; rw [if_pos h1]
    · rename_i h1
      rw [if_neg h1]
      split at h
      · rename_i h2; rw [if_pos h2]
      · exact absurd rfl h
  · rename_i hk
    rw [if_neg hk]
    split at h
    · rename_i hk
      rw [if_pos hk]
      split at h
      · rename_i h1; rw [if_pos h1]
      · exact absurd rfl h
    · rename_i hk
      rw [if_neg hk]
      split at h
      · exact absurd rfl h
      · rename_i hk
        rw [if_neg hk]
        unfold lvS
        rw [if_neg h]
/-- an error changes nothing -/
theorem do_err {A : Nat} {o : Oq} {s : Nat → Nu} (h : (doR A o s).1 ≠ 0) : doS A o s = s := by
  rcases doR_split A o s with ⟨-, h2⟩ | ⟨i, hi, -, -, h3, h4⟩
  · exact h2
  · rw [h3] at h
    rw [h4, nuS_err h, upd_self]
/-- numbers that are given out now -/
def giv (sd ac F : Int) (M : Nat) : List Ot := (List.range M).map fun j : Nat => ((sd, ac, F + (j : Int)) : Ot)
theorem giv_succ (sd ac F : Int) (M : Nat) : giv sd ac F (M + 1) = giv sd ac F M ++ [(sd, ac, F + (M : Int))] := by
  simp [giv, List.range_succ]
theorem giv_mem {sd ac F : Int} {M : Nat} {x : Ot} : x ∈ giv sd ac F M ↔ ∃ j : Nat, j < M ∧ x = (sd, ac, F + (j : Int)) := by
  simp [giv, eq_comm]
structure Gave (A : Nat) (o : Oq) (s : Nat → Nu) (L : List Ot) (F : Int) (M : Nat) : Prop where
  f0 : 0 ≤ F
  fm : F + (M : Int) ≤ 18446744073709551615
  m1 : 1 ≤ M
  m8 : M ≤ 8
  mn : (M : Int) ≤ o.nn
  new : ∀ j, j < M → ((o.sd, o.ac, F + (j : Int)) : Ot) ∉ L ++ giv o.sd o.ac F j
  inv : Inv A (doS A o s) (L ++ giv o.sd o.ac F M)
/-- numbers reserved are none that were given out -/
theorem inv_res {A : Nat} {o : Oq} {s : Nat → Nu} {L : List Ot} {k : Nat} (h : Inv A s L) (hok : ∀ i, NOk (s i) k) (hk : o.kd = 6) {e F M : Int} (hr : doR A o s = (0, e, F, M)) : ∃ m : Nat, M = (m : Int) ∧ Gave A o s L F m := by
  rcases doR_split A o s with ⟨h1, -⟩ | ⟨i, hi, -, -, h3, h4⟩
  · rw [hr] at h1; exact absurd rfl h1
  rw [h3] at hr
  unfold nuR at hr
  rw [if_pos hk] at hr
  have hS : nuS o (s i) = if o.nn < 1 ∨ 8 < o.nn then s i else if rsE (s i) = true then s i else rsS o.nn o.who (s i) := by unfold nuS; rw [if_pos hk]
  split at hr
  · injection hr with hr _; exact absurd hr (by decide)
  rename_i hb
  split at hr
  · injection hr with hr _; exact absurd hr (by decide)
  rename_i he
  rw [if_neg hb, if_neg he] at hS
  have R := rs_ok (hok i) (show 1 ≤ o.nn by omega) (show o.nn ≤ 8 by omega) (by simpa using he) o.who
  injection hr with _ hr
  injection hr with _ hr
  injection hr with hF hM
  have ok' := R.ok k (hok i)
  have hmem : ∀ j, j < rsM o.nn (s i) → (rsF o.nn (s i) + (j : Int), o.who) ∈ (rsS o.nn o.who (s i)).M := fun j hj => by
    unfold rsS
    exact List.mem_append.2 (Or.inr (nums_mem.2 ⟨rfl, by simp only; omega, by simp only; omega⟩))
  have hnxt : (s i).nx ≤ (rsS o.nn o.who (s i)).nx := by
    unfold rsS
    show (s i).nx ≤ if _ then _ else _
    split
    · exact Int.le_add_of_nonneg_right (Int.natCast_nonneg _)
    · exact Int.le_refl _
  have hsub : ∀ x ∈ (rsS o.nn o.who (s i)).L, x ∈ (s i).L := fun x hx => by
    unfold rsS at hx
    have hx : x ∈ (if (s i).L = [] then [] else (s i).L.drop (Gp.tkM o.nn (s i).L).toNat) := hx
    split at hx
    · cases hx
    · exact List.mem_of_mem_drop hx
  have hold : ∀ j, j < rsM o.nn (s i) → (rsF o.nn (s i) + (j : Int)) ∈ (s i).L ∨ (s i).nx ≤ rsF o.nn (s i) + (j : Int) := fun j hj => by
    by_cases hL : (s i).L = []
    · right
      unfold rsF
      rw [if_pos hL]
      omega
    · left
      have tM := tkM_eq (show 1 ≤ o.nn by omega) hL
      have eM : rsM o.nn (s i) = (Gp.tkM o.nn (s i).L).toNat := by unfold rsM; rw [if_neg hL]
      have eF : rsF o.nn (s i) = (s i).L.headD 0 := by unfold rsF; rw [if_neg hL, tkF_eq (by omega) hL]
      rw [eF]
      exact List.mem_of_getElem? (lng_at (s i).L j (by omega))
  subst hF
  refine ⟨rsM o.nn (s i), hM.symm, R.f0, R.fm, R.m0, by have := R.mm; omega, R.mn, fun j hj hx => ?_, ?_⟩
  · rcases List.mem_append.1 hx with hx | hx
    · obtain ⟨i', hi', -, h5, h6⟩ := h _ hx
      have e : i' = i := by
        have hi' : idx A o.sd o.ac = some i' := hi'
        rw [hi] at hi'
        injection hi' with e
        exact e.symm
      subst e
      rcases hold j hj with q | q
      · exact h6 q
      · have h5 : rsF o.nn (s i') + (j : Int) < (s i').nx := h5
        omega
    · obtain ⟨j', hj', e⟩ := giv_mem.1 hx
      injection e with _ e
      injection e with _ e
      omega
  · rw [h4, hS]
    intro x hx
    rcases List.mem_append.1 hx with hx | hx
    · exact Inv.upd h (L' := L) (fun _ q => q) (fun x _ _ _ h2 h3 => ⟨by omega, fun q => h3 (hsub _ q)⟩) x hx
    · obtain ⟨j, hj, rfl⟩ := giv_mem.1 hx
      have hm := ok'.M _ (hmem j hj)
      refine ⟨i, hi, hm.1, ?_⟩
      rw [upd_at]
      exact hm.2
/-- what leaves those that were given out, by the kind -/
theorem inv_leave {A : Nat} {o : Oq} {s : Nat → Nu} {L : List Ot} {k : Nat} (h : Inv A s L) (hok : ∀ i, NOk (s i) k) (hk : o.kd = 7) : Inv A (doS A o s) L := by
  rcases doR_split A o s with ⟨-, h2⟩ | ⟨i, hi, -, -, h3, h4⟩
  · rw [h2]; exact h
  rw [h4]
  refine h.upd (fun _ q => q) fun x _ _ _ h2 h3 => ?_
  unfold nuS
  rw [if_neg (by omega), if_neg (by omega), if_neg (by omega)]
  unfold lvS
  by_cases hc : lvC o (s i) = 0
  · rw [if_pos hc, if_neg (by omega)]
    exact ⟨h2, h3⟩
  · rw [if_neg hc]
    exact ⟨h2, h3⟩
theorem inv_ret {A : Nat} {o : Oq} {s : Nat → Nu} {L : List Ot} {k : Nat} (h : Inv A s L) (hok : ∀ i, NOk (s i) k) (hk : o.kd = 8) : Inv A (doS A o s) (L.filter (stayO 8 o.sd o.ac [o.nn])) := by
  rcases doR_split A o s with ⟨-, h2⟩ | ⟨i, hi, -, -, h3, h4⟩
  · rw [h2]; exact h.filter _
  rw [h4]
  refine h.upd (fun x q => (List.mem_filter.1 q).1) fun x hx hi' _ h2 h3 => ?_
  obtain ⟨e1, e2⟩ := idx_inj hi hi'
  have hs := stayO_iff.1 (List.mem_filter.1 hx).2
  have hne : x.2.2 ≠ o.nn := fun e => hs ⟨⟨e1.symm, e2.symm⟩, Or.inr (by simp [e])⟩
  unfold nuS
  rw [if_neg (by omega), if_neg (by omega), if_neg (by omega)]
  unfold lvS
  by_cases hc : lvC o (s i) = 0
  · rw [if_pos hc, if_pos hk]
    refine ⟨h2, fun q => ?_⟩
    have hn : o.nn ≠ 18446744073709551615 := by
      unfold lvC at hc
      split at hc
      · exact absurd hc (by decide)
      · cases hl : lk o.nn (s i).M with
        | none => rw [hl] at hc; exact absurd hc (by show ¬ (8 : Int) = 0; decide)
        | some v =>
          have h5 := (hok i).M _ (lk_some hl)
          have h6 := (hok i).nx
          have h5 : o.nn < (s i).nx := h5.2.1
          omega
    rcases (mem_putS hn).1 q with q | q
    · exact hne q
    · exact h3 q
  · rw [if_neg hc]
    exact ⟨h2, h3⟩
theorem inv_sync {A : Nat} {o : Oq} {s : Nat → Nu} {L : List Ot} (h : Inv A s L) (hk : o.kd = 9) (ns : List Int) : Inv A (doS A o s) (L.filter (stayO 9 o.sd o.ac ns)) := by
  rcases doR_split A o s with ⟨-, h2⟩ | ⟨i, hi, -, -, h3, h4⟩
  · rw [h2]; exact h.filter _
  rw [h4]
  refine h.upd (fun x q => (List.mem_filter.1 q).1) fun x hx hi' _ h2 h3 => ?_
  obtain ⟨e1, e2⟩ := idx_inj hi hi'
  have hs := stayO_iff.1 (List.mem_filter.1 hx).2
  exact absurd ⟨⟨e1.symm, e2.symm⟩, Or.inl rfl⟩ hs
theorem inv_drop {A : Nat} {o : Oq} {s : Nat → Nu} {L : List Ot} {k : Nat} (h : Inv A s L) (hok : ∀ i, NOk (s i) k) (hk : o.kd = 10) : Inv A (doS A o s) (L.filter (stayO 10 o.sd o.ac (heldL s o.who (idx A o.sd o.ac)))) := by
  rcases doR_split A o s with ⟨-, h2⟩ | ⟨i, hi, -, -, h3, h4⟩
  · rw [h2]; exact h.filter _
  rw [h4]
  refine h.upd (fun x q => (List.mem_filter.1 q).1) fun x hx hi' _ h2 h3 => ?_
  obtain ⟨e1, e2⟩ := idx_inj hi hi'
  have hs := stayO_iff.1 (List.mem_filter.1 hx).2
  rw [hi] at hs
  have hne : x.2.2 ∉ hbs o.who (s i).M := fun q => hs ⟨⟨e1.symm, e2.symm⟩, Or.inr q⟩
  unfold nuS
  rw [if_neg (by omega), if_neg (by omega), if_pos hk]
  refine ⟨h2, fun q => ?_⟩
  have hn : ∀ z ∈ hbs o.who (s i).M, z ≠ 18446744073709551615 := fun z hz => by
    have h5 : z < (s i).nx := ((hok i).M _ (hbs_mem.1 hz)).2.1
    have h6 := (hok i).nx
    omega
  rcases (mem_foldL hn).1 q with q | q
  · exact hne q
  · exact h3 q
end Go.Proofs.Ytpkkomifenlkaaa.Au
/- AllocOnce: what was given out, and whether a number is among it. -/
namespace Go.Proofs.Ytpkkomifenlkaaa.Au
open Go Go.RowKit Go.MuLone
set_option linter.unusedVariables false

theorem eq_ot (a b c : Int) (W : World) : (binOp .eql TOp (.agg #[.int .i64 0, .int .i64 0, .int .i64 0, .int .i64 0, .int .u64 0, .int .i64 a, .int .i64 b, .int .u64 0, .int .u64 c]) (.agg #[.int .i64 0, .int .i64 0, .int .i64 0, .int .i64 0, .int .u64 0, .int .i64 a, .int .i64 b, .int .u64 0, .int .u64 c])).run Try.prog W = .ok (.bool true) W := by
  have h : (Op.equal TOp (.agg #[.int .i64 0, .int .i64 0, .int .i64 0, .int .i64 0, .int .u64 0, .int .i64 a, .int .i64 b, .int .u64 0, .int .u64 c]) (.agg #[.int .i64 0, .int .i64 0, .int .i64 0, .int .i64 0, .int .u64 0, .int .i64 a, .int .i64 b, .int .u64 0, .int .u64 c])).run Try.prog W = .ok true W := by
    unfold Op.equal Op.maxDepth
    go_simp
  simp only [binOp, Sem.run_bind, h, Result.andThen_ok]
  rfl
theorem ne_ot (a b c a' b' c' : Int) (hne : ¬ (a = a' ∧ b = b' ∧ c = c')) (W : World) : (binOp .eql TOp (.agg #[.int .i64 0, .int .i64 0, .int .i64 0, .int .i64 0, .int .u64 0, .int .i64 a, .int .i64 b, .int .u64 0, .int .u64 c]) (.agg #[.int .i64 0, .int .i64 0, .int .i64 0, .int .i64 0, .int .u64 0, .int .i64 a', .int .i64 b', .int .u64 0, .int .u64 c'])).run Try.prog W = .ok (.bool false) W := by
  have h : (Op.equal TOp (.agg #[.int .i64 0, .int .i64 0, .int .i64 0, .int .i64 0, .int .u64 0, .int .i64 a, .int .i64 b, .int .u64 0, .int .u64 c]) (.agg #[.int .i64 0, .int .i64 0, .int .i64 0, .int .i64 0, .int .u64 0, .int .i64 a', .int .i64 b', .int .u64 0, .int .u64 c'])).run Try.prog W = .ok false W := by
    by_cases h1 : a = a'
    · subst h1
      by_cases h2 : b = b'
      · subst h2
        have h3 : (c == c') = false := by simp; intro e; exact hne ⟨rfl, rfl, e⟩
        unfold Op.equal Op.maxDepth
        go_simp
      · have h3 : (b == b') = false := by simpa using h2
        unfold Op.equal Op.maxDepth
        go_simp
    · have h3 : (a == a') = false := by simpa using h1
      unfold Op.equal Op.maxDepth
      go_simp
  simp only [binOp, Sem.run_bind, h, Result.andThen_ok]
  rfl
set_option maxRecDepth 20000 in
set_option maxHeartbeats 2000000 in
theorem has_no (A : Option Addr) (len cap : Nat) (L : List Ot) (x : Ot) (hx : x ∉ L) (W : World) (hq : RdQ W A len (L.map Ot.q)) (hl9 : len ≤ 1000000) :
    Calls Try.prog 11 #[.slice A len cap, .agg #[.int .i64 0, .int .i64 0, .int .i64 0, .int .i64 0, .int .u64 0, .int .i64 x.1, .int .i64 x.2.1, .int .u64 0, .int .u64 x.2.2]] W fun e w' => e = .returned (.bool false) ∧ Below W.heap.size W w' := by
  obtain ⟨xa, xb, xc⟩ := x
  dsimp only
  have hx0 := heap_alloc_new W (.cells #[.int .i64 0, .int .i64 0, .int .i64 0, .int .i64 0, .int .u64 0, .int .i64 xa, .int .i64 xb, .int .u64 0, .int .u64 xc] TOp)
  have b0 : Below W.heap.size W (W.alloc (.cells #[.int .i64 0, .int .i64 0, .int .i64 0, .int .i64 0, .int .u64 0, .int .i64 xa, .int .i64 xb, .int .u64 0, .int .u64 xc] TOp)) := (Below.refl _ _).alloc (Nat.le_refl _) _
  obtain ⟨w0, hw0⟩ : ∃ X, X = W.alloc (.cells #[.int .i64 0, .int .i64 0, .int .i64 0, .int .i64 0, .int .u64 0, .int .i64 xa, .int .i64 xb, .int .u64 0, .int .u64 xc] TOp) := ⟨_, rfl⟩
  obtain ⟨P, hP⟩ : ∃ P, P = W.heap.size := ⟨_, rfl⟩
  rw [← hw0, ← hP] at hx0
  rw [← hw0] at b0
  have hQ := hq.below b0
  have H0 : Hid (w0.heap[P]? = some (.cells #[.int .i64 0, .int .i64 0, .int .i64 0, .int .i64 0, .int .u64 0, .int .i64 xa, .int .i64 xb, .int .u64 0, .int .u64 xc] TOp (0, 0)) ∧ Below W.heap.size W w0 ∧ RdQ w0 A len (L.map Ot.q)) := Lib.hid ⟨hx0, b0, hQ⟩
  have HX := Lib.hid hx
  clear hx0 b0 hQ hq hx
  go_enter Try.func11, Try.ntmps11
  go_upto_region 1 with fail
  rw [← hw0, ← hP]
  clear hw0 hP
  go_wp2
  go_loopw [5] (fun vi wr => ∃ (i : Nat), vi = .int .i64 (i : Int) ∧ i ≤ len ∧ wr.heap[P]? = some (.cells #[.int .i64 0, .int .i64 0, .int .i64 0, .int .i64 0, .int .u64 0, .int .i64 xa, .int .i64 xb, .int .u64 0, .int .u64 xc] TOp (0, 0)) ∧ Below W.heap.size W wr ∧ RdQ wr A len (L.map Ot.q)) (fun vi _ => len - (intOf vi).toNat)
  case atStart => exact ⟨0, rfl, Nat.zero_le _, H0.out⟩
  case round =>
    clear H0
    obtain ⟨i, rfl, hi, hP, hB, hQ⟩ := hrel
    have HB := Lib.hid (And.intro hP (And.intro hB hQ))
    by_cases hlt : i < len
    · have hi0 : (0 : Int) ≤ (i : Int) := by omega
      have hi1 : (i : Int) < (len : Int) := by omega
      obtain ⟨b9, off, hAq, hbl, hcs⟩ := hQ.cells (by omega)
      have hlL : i < L.length := by have := hQ.many; simp at this; omega
      have hat := hcs i (by simpa using hlL)
      simp only [List.getElem_map] at hat
      have hmem : L[i] ∈ L := List.getElem_mem hlL
      obtain ⟨xx, hxx⟩ : ∃ xx, xx = L[i] := ⟨_, rfl⟩
      rw [← hxx] at hat hmem
      obtain ⟨ya, yb, yc⟩ := xx
      have hne : ¬ (ya = xa ∧ yb = xb ∧ yc = xc) := fun e => HX.out (by rw [← e.1, ← e.2.1, ← e.2.2]; exact hmem)
      have q0 : wr.cell? ⟨b9, off + i * 9, none⟩ = some (.int .i64 0) := hat 0 (by decide)
      have q1 : wr.cell? ⟨b9, off + i * 9 + 1, none⟩ = some (.int .i64 0) := hat 1 (by decide)
      have q2 : wr.cell? ⟨b9, off + i * 9 + 2, none⟩ = some (.int .i64 0) := hat 2 (by decide)
      have q3 : wr.cell? ⟨b9, off + i * 9 + 3, none⟩ = some (.int .i64 0) := hat 3 (by decide)
      have q4 : wr.cell? ⟨b9, off + i * 9 + 4, none⟩ = some (.int .u64 0) := hat 4 (by decide)
      have q5 : wr.cell? ⟨b9, off + i * 9 + 5, none⟩ = some (.int .i64 ya) := hat 5 (by decide)
      have q6 : wr.cell? ⟨b9, off + i * 9 + 6, none⟩ = some (.int .i64 yb) := hat 6 (by decide)
      have q7 : wr.cell? ⟨b9, off + i * 9 + 7, none⟩ = some (.int .u64 0) := hat 7 (by decide)
      have q8 : wr.cell? ⟨b9, off + i * 9 + 8, none⟩ = some (.int .u64 yc) := hat 8 (by decide)
      have p := fun j => cell_of_row wr P j _ _ (0, 0) hP
      have p0 := p 0; have p1 := p 1; have p2 := p 2; have p3 := p 3; have p4 := p 4; have p5 := p 5; have p6 := p 6; have p7 := p 7; have p8 := p 8
      have hcmp := fun V => ne_ot ya yb yc xa xb xc hne V
      subst hAq
      clear p hat hmem hxx hne hcs hP hB hQ
      go_wp2
      go_region
      go_wp2
      go_roundw
      case rel => exact ⟨i + 1, by go_num, hlt, HB.out.1, HB.out.2.1.drew, HB.out.2.2.many, HB.out.2.2.ok, HB.out.2.2.cells⟩
      case measure => simp [intOf]; omega
    · obtain rfl : i = len := by omega
      have hii : ¬ ((i : Int) < (i : Int)) := by omega
      clear hP hB hQ
      go_wp2
      go_ret
      exact ⟨rfl, HB.out.2.1⟩
end Go.Proofs.Ytpkkomifenlkaaa.Au
/- AllocOnce: what was given out, but some of it. -/
namespace Go.Proofs.Ytpkkomifenlkaaa.Au
open Go Go.RowKit Go.MuLone
set_option linter.unusedVariables false

/-- numbers that are read -/
structure RdN (V : World) (A : Option Addr) (len : Nat) (ns : List Int) : Prop where
  many : ns.length = len
  cells : 0 < len → ∃ b off, A = some ⟨b, off, none⟩ ∧ b < V.heap.size ∧ ∀ i (h : i < ns.length), V.cell? ⟨b, off + i, none⟩ = some (.int .u64 ns[i])
theorem RdN.below {V V' : World} {A : Option Addr} {len : Nat} {ns : List Int} (h : RdN V A len ns) (hb : Below V.heap.size V V') : RdN V' A len ns :=
  ⟨h.many, fun hl => by
    obtain ⟨b, off, e1, e2, e3⟩ := h.cells hl
    exact ⟨b, off, e1, Nat.lt_of_lt_of_le e2 hb.size, fun i hi => (World.cell?_of_block (hb.block b e2)).trans (e3 i hi)⟩⟩
theorem RdN.nil (V : World) (A : Option Addr) : RdN V A 0 [] := ⟨rfl, fun h => by cases h⟩
theorem rdN_own {V : World} {base n c : Nat} {A : Option Addr} {l : List Int} (hl : l.length = n) (h : V.ownsRow base TU 1 (.slice A n c) n (uc l)) : RdN V A n l := by
  refine ⟨hl, fun hn => ?_⟩
  rcases h.2 with ⟨_, h0⟩ | ⟨g, cap, cur, hv, hg, hh, hnc, hcm, hcs, ht⟩
  · omega
  · injection hv with hv1 hv2 hv3
    subst hv1
    refine ⟨g, 0, rfl, ltO hh, fun i hi => ?_⟩
    rw [Nat.zero_add, cell_of_row V g i cur _ (0, 0) hh]
    have := congrArg (fun z : List Value => z[i]?) ht
    simp only [uc, List.getElem?_map] at this
    rw [List.getElem?_take, if_pos (by omega), Array.getElem?_toList, List.getElem?_eq_getElem hi] at this
    exact this
/-- operations' cells -/
def ocells (K : List Oq) : List Value := K.flatMap fun q => q.cells.toList
theorem ocells_snoc (K : List Oq) (q : Oq) : ocells (K ++ [q]) = ocells K ++ q.cells.toList := by
  simp [ocells]
theorem ocells_at : ∀ (K : List Oq) (i : Nat) (h : i < K.length) (j : Nat), j < 9 → (ocells K)[i * 9 + j]? = (K[i]).cells[j]?
  | q :: K, 0, _, j, hj => by
    show (q.cells.toList ++ ocells K)[0 * 9 + j]? = _
    rw [List.getElem?_append_left (by simp [Oq.cells]; omega)]
    simp
  | q :: K, i + 1, h, j, hj => by
    show (q.cells.toList ++ ocells K)[(i + 1) * 9 + j]? = _
    rw [List.getElem?_append_right (by simp [Oq.cells]; omega)]
    have := ocells_at K i (by simpa using h) j hj
    rw [show (i + 1) * 9 + j - q.cells.toList.length = i * 9 + j by simp [Oq.cells]; omega, this]
    rfl
theorem rdQ_own {V : World} {base n c : Nat} {A : Option Addr} {K : List Oq} (hl : K.length = n) (hok : ∀ q ∈ K, q.ok) (h : V.ownsRow base TOp 9 (.slice A n c) n (ocells K)) : RdQ V A n K := by
  refine ⟨hl, hok, fun hn => ?_⟩
  rcases h.2 with ⟨_, h0⟩ | ⟨g, cap, cur, hv, hg, hh, hnc, hcm, hcs, ht⟩
  · omega
  · injection hv with hv1 hv2 hv3
    subst hv1
    refine ⟨g, 0, rfl, ltO hh, fun i hi j hj => ?_⟩
    rw [Nat.zero_add, cell_of_row V g (i * 9 + j) cur _ (0, 0) hh]
    have := congrArg (fun z : List Value => z[i * 9 + j]?) ht
    simp only [ocells_at K i hi j hj] at this
    rw [List.getElem?_take, if_pos (by omega), Array.getElem?_toList] at this
    exact this
theorem own_base9 {V : World} {B B' n : Nat} {v : Value} {xs : List Value} (h : V.ownsRow B TOp 9 v n xs) (hb : B' ≤ B) : V.ownsRow B' TOp 9 v n xs := by
  refine ⟨h.1, ?_⟩
  rcases h.2 with h2 | ⟨g, cap, cur, hv, hg, r⟩
  · exact Or.inl h2
  · exact Or.inr ⟨g, cap, cur, hv, Nat.le_trans hb hg, r⟩
theorem own_keep9 {V V' : World} {B n : Nat} {v : Value} {xs : List Value} (h : V.ownsRow B TOp 9 v n xs) (hb : ∀ k, k < V.heap.size → V'.heap[k]? = V.heap[k]?) : V'.ownsRow B TOp 9 v n xs := by
  refine ⟨h.1, ?_⟩
  rcases h.2 with h2 | ⟨g, cap, cur, hv, hg, hh, r⟩
  · exact Or.inl h2
  · exact Or.inr ⟨g, cap, cur, hv, hg, (hb g (ltO hh)).trans hh, r⟩
theorem infoOp : (Try.prog.info? TOp).map (fun i => (i.zero, i.size, i.bytes)) = some (some (.agg #[.int .i64 0, .int .i64 0, .int .i64 0, .int .i64 0, .int .u64 0, .int .i64 0, .int .i64 0, .int .u64 0, .int .u64 0]), 9, 72) := by kernel_rfl
theorem news_op (V : World) (kd who kc kf ks sd ac ep nn : Int) : ∀ j u, (#[.int .i64 kd, .int .i64 who, .int .i64 kc, .int .i64 kf, .int .u64 ks, .int .i64 sd, .int .i64 ac, .int .u64 ep, .int .u64 nn] : Array Value).toList[j]? = some u → (V.alloc (.cells #[.int .i64 kd, .int .i64 who, .int .i64 kc, .int .i64 kf, .int .u64 ks, .int .i64 sd, .int .i64 ac, .int .u64 ep, .int .u64 nn] TOp)).cell? ((⟨V.heap.size, 0, none⟩ : Addr).add j) = some u := by
  intro j u h
  have := cell_of_row (V.alloc (.cells #[.int .i64 kd, .int .i64 who, .int .i64 kc, .int .i64 kf, .int .u64 ks, .int .i64 sd, .int .i64 ac, .int .u64 ep, .int .u64 nn] TOp)) V.heap.size j #[.int .i64 kd, .int .i64 who, .int .i64 kc, .int .i64 kf, .int .u64 ks, .int .i64 sd, .int .i64 ac, .int .u64 ep, .int .u64 nn] TOp (0, 0) (heap_alloc_new V _)
  rw [add_addrQ, Nat.zero_add]
  rw [Array.getElem?_toList] at h
  exact this.trans h
theorem ones_op (kd who kc kf ks sd ac ep nn : Int) : ∀ u ∈ (#[.int .i64 kd, .int .i64 who, .int .i64 kc, .int .i64 kf, .int .u64 ks, .int .i64 sd, .int .i64 ac, .int .u64 ep, .int .u64 nn] : Array Value).toList, u.oneCell' = true := by simp [Value.oneCell']
theorem filter_take {α : Type} {p : α → Bool} {l : List α} {i : Nat} (h : i < l.length) : (l.take (i + 1)).filter p = (l.take i).filter p ++ (if p l[i] then [l[i]] else []) := by
  rw [List.take_succ_eq_append_getElem h, List.filter_append]
  congr 1
  simp [List.filter_cons]
set_option maxRecDepth 20000 in
set_option maxHeartbeats 8000000 in
theorem wo_any (A : Option Addr) (len cap : Nat) (qs : List Oq) (B : Option Addr) (n2 cap2 : Nat) (ns : List Int) (xkd xw xkc xkf xks xsd xac xep xnn : Int) (W : World) (hq : RdQ W A len qs) (hn : RdN W B n2 ns) (hl9 : len ≤ 1000000) (hn9 : n2 ≤ 1000000) :
    Calls Try.prog 8 #[.slice A len cap, .agg #[.int .i64 xkd, .int .i64 xw, .int .i64 xkc, .int .i64 xkf, .int .u64 xks, .int .i64 xsd, .int .i64 xac, .int .u64 xep, .int .u64 xnn], .slice B n2 cap2] W fun e w' => ∃ As m cps, e = .returned (.slice As m cps) ∧ w'.ownsRow W.heap.size TOp 9 (.slice As m cps) (qs.filter (stay xkd xsd xac ns)).length (ocells (qs.filter (stay xkd xsd xac ns))) ∧ m = (qs.filter (stay xkd xsd xac ns)).length ∧ Below W.heap.size W w' := by
  obtain ⟨i0, hinf, hz0, hz1, hz2⟩ := info_partsU infoOp
  have hx0 := heap_alloc_new W (.cells #[.int .i64 xkd, .int .i64 xw, .int .i64 xkc, .int .i64 xkf, .int .u64 xks, .int .i64 xsd, .int .i64 xac, .int .u64 xep, .int .u64 xnn] TOp)
  have b0 : Below W.heap.size W (W.alloc (.cells #[.int .i64 xkd, .int .i64 xw, .int .i64 xkc, .int .i64 xkf, .int .u64 xks, .int .i64 xsd, .int .i64 xac, .int .u64 xep, .int .u64 xnn] TOp)) := (Below.refl _ _).alloc (Nat.le_refl _) _
  obtain ⟨w0, hw0⟩ : ∃ X, X = W.alloc (.cells #[.int .i64 xkd, .int .i64 xw, .int .i64 xkc, .int .i64 xkf, .int .u64 xks, .int .i64 xsd, .int .i64 xac, .int .u64 xep, .int .u64 xnn] TOp) := ⟨_, rfl⟩
  obtain ⟨P, hP⟩ : ∃ P, P = W.heap.size := ⟨_, rfl⟩
  rw [← hw0, ← hP] at hx0
  rw [← hw0] at b0
  have H0 : Hid ((w0.heap[P]? = some (.cells #[.int .i64 xkd, .int .i64 xw, .int .i64 xkc, .int .i64 xkf, .int .u64 xks, .int .i64 xsd, .int .i64 xac, .int .u64 xep, .int .u64 xnn] TOp (0, 0))) ∧ Below W.heap.size W w0) := Lib.hid ⟨hx0, b0⟩
  have HQ := Lib.hid hq
  have HN := Lib.hid hn
  have HP := Lib.hid hP
  clear hx0 b0 hq hn
  go_enter Try.func8, Try.ntmps8
  go_upto_region 2 with fail
  rw [← hw0, ← hP]
  clear hw0 hP
  go_wp2
  go_loopw [7, 8] (fun sv vi wr => ∃ (i : Nat) (K : List Oq) (As : Option Addr) (m cps : Nat), sv = .slice As m cps ∧ vi = .int .i64 (i : Int) ∧ i ≤ len ∧ Hid (K = (qs.take i).filter (stay xkd xsd xac ns) ∧ m = K.length) ∧ wr.ownsRow (W.heap.size + 1) TOp 9 (.slice As m cps) (K).length (ocells (K)) ∧ wr.heap[P]? = some (.cells #[.int .i64 xkd, .int .i64 xw, .int .i64 xkc, .int .i64 xkf, .int .u64 xks, .int .i64 xsd, .int .i64 xac, .int .u64 xep, .int .u64 xnn] TOp (0, 0)) ∧ Below W.heap.size W wr) (fun _ vi _ => len - (intOf vi).toNat)
  case atStart => exact ⟨0, [], none, 0, 0, rfl, rfl, Nat.zero_le _, Lib.hid ⟨rfl, rfl⟩, World.ownsRow_nil _ _ _ _, H0.out⟩
  case round =>
    clear H0
    obtain ⟨i, K, As, m, cps, rfl, rfl, hi, HK, hR, hP, hB⟩ := hrel
    by_cases hlt : i < len
    · have hi0 : (0 : Int) ≤ (i : Int) := by omega
      have hi1 : (i : Int) < (len : Int) := by omega
      obtain ⟨b9, off, hAq, hbl, hcs⟩ := HQ.out.cells (by omega)
      have hlL : i < qs.length := by have := HQ.out.many; omega
      have hat := hcs i hlL
      have HT := Lib.hid (filter_take (p := stay xkd xsd xac ns) hlL)
      obtain ⟨q, hqq⟩ : ∃ q, q = qs[i] := ⟨_, rfl⟩
      rw [← hqq] at hat HT
      clear hqq hcs
      obtain ⟨kd, who, kc, kf, ks, sd, ac, ep, nn⟩ := q
      have HSA : Hid (∀ V, Below W.heap.size W V → OqAt V b9 off i ⟨kd, who, kc, kf, ks, sd, ac, ep, nn⟩) := Lib.hid fun V hb => hat.keep (hb.block b9 hbl)
      subst hAq
      have HS := Lib.hid (And.intro hR (And.intro hP hB))
      have hsa := HSA.out _ hB
      have q5 : wr.cell? ⟨b9, off + i * 9 + 5, none⟩ = some (.int .i64 sd) := hsa 5 (by decide)
      have q6 : wr.cell? ⟨b9, off + i * 9 + 6, none⟩ = some (.int .i64 ac) := hsa 6 (by decide)
      have p := fun j => cell_of_row wr P j _ _ (0, 0) hP
      have p5 := p 5; have p6 := p 6
      clear p
      clear hsa hat hbl hR hP hB
      go_upto_region 5 with fail
      go_cut [9] from 11 to 68 (fun s9 wx => s9 = .bool (decide (sd = xsd ∧ ac = xac)) ∧ wx.ownsRow (W.heap.size + 1) TOp 9 (.slice As m cps) (K).length (ocells (K)) ∧ wx.heap[P]? = some (.cells #[.int .i64 xkd, .int .i64 xw, .int .i64 xkc, .int .i64 xkf, .int .u64 xks, .int .i64 xsd, .int .i64 xac, .int .u64 xep, .int .u64 xnn] TOp (0, 0)) ∧ Below W.heap.size W wx)
      case first =>
        by_cases h1 : sd = xsd
        · have e1 : (sd == xsd) = true := by simpa using h1
          by_cases h2 : ac = xac
          · have e2 : (ac == xac) = true := by simpa using h2
            go_region
            go_wp2
            go_meet
            exact ⟨by simp [h1, h2], own_keep9 HS.out.1 fun k _ => rfl, HS.out.2.1, HS.out.2.2.drew⟩
          · have e2 : (ac == xac) = false := by simpa using h2
            go_region
            go_wp2
            go_meet
            exact ⟨by simp [h2], own_keep9 HS.out.1 fun k _ => rfl, HS.out.2.1, HS.out.2.2.drew⟩
        · have e1 : (sd == xsd) = false := by simpa using h1
          go_region
          go_wp2
          go_meet
          exact ⟨by simp [h1], own_keep9 HS.out.1 fun k _ => rfl, HS.out.2.1, HS.out.2.2.drew⟩
      case rest =>
        obtain ⟨rfl, hR, hP, hB⟩ := hcut
        have HS1 := Lib.hid (And.intro hR (And.intro hP hB))
        clear q5 q6 p5 p6 HS
        have p := fun j => cell_of_row wc P j _ _ (0, 0) hP
        have p0 := p 0
        clear p
        clear hR hP hB
        go_upto_region 6 with fail
        go_cut [9, 40] from 11 to 68 (fun s9 s40 wx => s9 = .bool (decide (sd = xsd ∧ ac = xac)) ∧ s40 = .bool (decide (sd = xsd ∧ ac = xac) && decide (xkd ≠ 9)) ∧ wx = wc)
        case first =>
          cases hs : decide (sd = xsd ∧ ac = xac) with
          | false =>
            go_wp2
            go_meet
            exact ⟨by rw [hs], by simp [hs], rfl⟩
          | true =>
            by_cases hk : xkd = 9
            · have e3 : (xkd != 9) = false := by simpa using hk
              go_wp2
              go_meet
              exact ⟨by rw [hs], by simp [hs, hk], rfl⟩
            · have e3 : (xkd != 9) = true := by simpa using hk
              go_wp2
              go_meet
              exact ⟨by rw [hs], by simp [hs, hk], rfl⟩
        case rest =>
        obtain ⟨rfl, rfl, rfl⟩ := hcut
        clear p0
        go_upto_if 40 with fail
        go_cut [9] from 11 to 68 (fun s9 wx => s9 = .bool (!stay xkd xsd xac ns ⟨kd, who, kc, kf, ks, sd, ac, ep, nn⟩) ∧ wx.ownsRow (W.heap.size + 1) TOp 9 (.slice As m cps) (K).length (ocells (K)) ∧ wx.heap[P]? = some (.cells #[.int .i64 xkd, .int .i64 xw, .int .i64 xkc, .int .i64 xkf, .int .u64 xks, .int .i64 xsd, .int .i64 xac, .int .u64 xep, .int .u64 xnn] TOp (0, 0)) ∧ Below W.heap.size W wx)
        case first =>
          cases hsk : (decide (sd = xsd ∧ ac = xac) && decide (xkd ≠ 9)) with
          | false =>
            have hst : (decide (sd = xsd ∧ ac = xac)) = !stay xkd xsd xac ns ⟨kd, who, kc, kf, ks, sd, ac, ep, nn⟩ := by
              unfold stay
              cases h1 : decide (sd = xsd ∧ ac = xac) with
              | false => rfl
              | true =>
                rw [h1] at hsk
                have hk : xkd = 9 := by simpa using hsk
                simp only [hk]; rfl
            have HST := Lib.hid hst
            clear hst
            go_wp2
            go_meet
            exact ⟨congrArg Value.bool HST.out, HS1.out⟩
          | true =>
              obtain ⟨hs, hk⟩ := Bool.and_eq_true_iff.1 hsk
              have hk9 : decide (xkd = 9) = false := by simpa using hk
              clear hsk hk
              go_wp2_with fail
              go_loopw [9, 10] (fun sb vk wx => ∃ (k : Nat), sb = .bool ((ns.take k).contains nn) ∧ vk = .int .i64 (k : Int) ∧ k ≤ n2 ∧ wx.ownsRow (W.heap.size + 1) TOp 9 (.slice As m cps) (K).length (ocells (K)) ∧ wx.heap[P]? = some (.cells #[.int .i64 xkd, .int .i64 xw, .int .i64 xkc, .int .i64 xkf, .int .u64 xks, .int .i64 xsd, .int .i64 xac, .int .u64 xep, .int .u64 xnn] TOp (0, 0)) ∧ Below W.heap.size W wx) (fun _ vk _ => n2 - (intOf vk).toNat)
              case atStart => exact ⟨0, rfl, rfl, Nat.zero_le _, HS1.out⟩
              case round =>
                clear HS1
                obtain ⟨k, rfl, rfl, hkn, hR, hP, hB⟩ := hrel
                have HS2 := Lib.hid (And.intro hR (And.intro hP hB))
                by_cases hk2 : k < n2
                · have hk0 : (0 : Int) ≤ (k : Int) := by omega
                  have hk1 : (k : Int) < (n2 : Int) := by omega
                  obtain ⟨b8, off8, hBq, hbl8, hcs8⟩ := (HN.out.below hB).cells (by omega)
                  have hkl : k < ns.length := by have := HN.out.many; omega
                  have hat8 := hcs8 k hkl
                  have hsa := HSA.out _ hB
                  have q8 : wr.cell? ⟨b9, off + i * 9 + 8, none⟩ = some (.int .u64 nn) := hsa 8 (by decide)
                  obtain ⟨z, hz⟩ : ∃ z, z = ns[k] := ⟨_, rfl⟩
                  have hct : (ns.take (k + 1)).contains nn = ((ns.take k).contains nn || z == nn) := by
                    rw [List.take_succ_eq_append_getElem hkl, ← hz]
                    rw [Bool.eq_iff_iff]
                    simp only [List.contains_iff_mem, List.mem_append, List.mem_singleton, Bool.or_eq_true, beq_iff_eq]
                    exact ⟨fun h => h.imp id Eq.symm, fun h => h.imp id Eq.symm⟩
                  rw [← hz] at hat8
                  have HCT := Lib.hid hct
                  subst hBq
                  clear hR hP hB hsa hcs8 hz hct
                  cases hc : (ns.take k).contains nn with
                  | true =>
                    have HC := Lib.hid hc
                    clear hc
                    go_wp2
                    go_region
                    go_wp2
                    go_roundw
                    case rel => exact ⟨k + 1, by rw [HCT.out, HC.out]; rfl, by go_num, hk2, own_keep9 HS2.out.1 fun k _ => rfl, HS2.out.2.1, HS2.out.2.2.drew⟩
                    case measure => simp [intOf]; omega
                  | false =>
                    have HC := Lib.hid hc
                    clear hc
                    go_wp2
                    go_region
                    go_wp2
                    go_roundw
                    case rel => exact ⟨k + 1, by rw [HCT.out, HC.out]; rfl, by go_num, hk2, own_keep9 HS2.out.1 fun k _ => rfl, HS2.out.2.1, HS2.out.2.2.drew⟩
                    case measure => simp [intOf]; omega
                · obtain rfl : k = n2 := by omega
                  have hii : ¬ ((k : Int) < (k : Int)) := by omega
                  have hfull : ns.take k = ns := List.take_of_length_le (by have := HN.out.many; omega)
                  rw [hfull]
                  clear hR hP hB
                  go_wp2
                  go_meet
                  exact ⟨by simp [stay, hs, hk9], HS2.out⟩
        case rest =>
          obtain ⟨rfl, hR, hP, hB⟩ := hcut
          have HS3 := Lib.hid (And.intro hR (And.intro hP hB))
          clear HS1
          cases hst : stay xkd xsd xac ns ⟨kd, who, kc, kf, ks, sd, ac, ep, nn⟩ with
          | false =>
            rw [hst] at HT
            have HT := Lib.hid HT.out
            clear hR hP hB
            go_wp2
            go_roundw
            case rel => exact ⟨i + 1, K, As, m, cps, rfl, by go_num, hlt, Lib.hid ⟨by rw [HT.out, ← HK.out.1]; simp, HK.out.2⟩, HS3.out⟩
            case measure => simp [intOf]; omega
          | true =>
            rw [hst] at HT
            have HT := Lib.hid HT.out
            have hsa := HSA.out _ hB
            have q0 : wc.cell? ⟨b9, off + i * 9, none⟩ = some (.int .i64 kd) := hsa 0 (by decide)
            have q1 : wc.cell? ⟨b9, off + i * 9 + 1, none⟩ = some (.int .i64 who) := hsa 1 (by decide)
            have q2 : wc.cell? ⟨b9, off + i * 9 + 2, none⟩ = some (.int .i64 kc) := hsa 2 (by decide)
            have q3 : wc.cell? ⟨b9, off + i * 9 + 3, none⟩ = some (.int .i64 kf) := hsa 3 (by decide)
            have q4 : wc.cell? ⟨b9, off + i * 9 + 4, none⟩ = some (.int .u64 ks) := hsa 4 (by decide)
            have q5 : wc.cell? ⟨b9, off + i * 9 + 5, none⟩ = some (.int .i64 sd) := hsa 5 (by decide)
            have q6 : wc.cell? ⟨b9, off + i * 9 + 6, none⟩ = some (.int .i64 ac) := hsa 6 (by decide)
            have q7 : wc.cell? ⟨b9, off + i * 9 + 7, none⟩ = some (.int .u64 ep) := hsa 7 (by decide)
            have q8 : wc.cell? ⟨b9, off + i * 9 + 8, none⟩ = some (.int .u64 nn) := hsa 8 (by decide)
            have hmK : m = K.length := HK.out.2
            have hKl : K.length ≤ i := by rw [HK.out.1]; exact Nat.le_trans (List.length_filter_le _ _) (by simp; omega)
            have bl : Below wc.heap.size wc (wc.alloc (.cells #[.int .i64 kd, .int .i64 who, .int .i64 kc, .int .i64 kf, .int .u64 ks, .int .i64 sd, .int .i64 ac, .int .u64 ep, .int .u64 nn] TOp)) := (Below.refl _ _).alloc (Nat.le_refl _) _
            have hR6 := own_keep9 hR fun k hk => bl.block k hk
            have HC := Lib.hid (news_op wc kd who kc kf ks sd ac ep nn)
            have H1 := Lib.hid (ones_op kd who kc kf ks sd ac ep nn)
            subst hmK
            have HR6 := Lib.hid (And.intro hR6 (And.intro (kp bl hP) (hB.trans (bl.mono hB.size))))
            have HBd := Lib.hid (show K.length ≤ 1000000 by omega)
            have hsz : W.heap.size + 1 ≤ (wc.alloc (.cells #[.int .i64 kd, .int .i64 who, .int .i64 kc, .int .i64 kf, .int .u64 ks, .int .i64 sd, .int .i64 ac, .int .u64 ep, .int .u64 nn] TOp)).heap.size := by
              have h1 := ltO hP
              have h2 := HP.out
              simp
              omega
            have HSZ := Lib.hid hsz
            clear hR hP hB hsa bl hR6 hsz HS3
            go_wp2_with (at_builtin; refine wpList_append_lies _ rfl _ _ 26 rfl (W.heap.size + 1) TOp i0 (.agg #[.int .i64 0, .int .i64 0, .int .i64 0, .int .i64 0, .int .u64 0, .int .i64 0, .int .i64 0, .int .u64 0, .int .u64 0]) 9 72 Try.underlying26 hinf hz0 hz1 hz2 rfl (by decide) _ _ _ rfl HR6.out.1 ⟨wc.heap.size, 0, none⟩ 1 1 (#[.int .i64 kd, .int .i64 who, .int .i64 kc, .int .i64 kf, .int .u64 ks, .int .i64 sd, .int .i64 ac, .int .u64 ep, .int .u64 nn] : Array Value).toList rfl rfl HC.out H1.out (by decide) (by have := HBd.out; unfold maxLen; omega) (by have := HBd.out; omega) HSZ.out _ rfl ?_)
            intro g1 cap1 w6 hown hg hat2 _
            have hP6 : w6.heap[P]? = some (.cells #[.int .i64 xkd, .int .i64 xw, .int .i64 xkc, .int .i64 xkf, .int .u64 xks, .int .i64 xsd, .int .i64 xac, .int .u64 xep, .int .u64 xnn] TOp (0, 0)) := (hg.block P (ltO HR6.out.2.1) (fun e => by
              have := own_ge HR6.out.1 P e.symm
              have := HP.out
              omega)).trans HR6.out.2.1
            have hB6 : Below W.heap.size W w6 := HR6.out.2.2.grown hg HR6.out.2.2.size fun k hk => by
              have := own_ge HR6.out.1 k hk
              omega
            have H6 := Lib.hid (And.intro hown (And.intro hP6 hB6))
            clear hown hg hat2 hP6 hB6 HR6 HC H1 q0 q1 q2 q3 q4 q5 q6 q7 q8
            go_wp2
            go_roundw
            case rel =>
              refine ⟨i + 1, K ++ [⟨kd, who, kc, kf, ks, sd, ac, ep, nn⟩], _, _, _, rfl, by go_num, hlt, Lib.hid ⟨by rw [HT.out, ← HK.out.1]; simp, by simp⟩, ?_, H6.out.2⟩
              rw [ocells_snoc, List.length_append]
              exact H6.out.1
            case measure => simp [intOf]; omega
    · obtain rfl : i = len := by omega
      have hii : ¬ ((i : Int) < (i : Int)) := by omega
      have hfull : qs.take i = qs := List.take_of_length_le (by have := HQ.out.many; omega)
      have hK := HK.out.1
      rw [hfull] at hK
      have HF := Lib.hid (And.intro hK (And.intro (own_base9 hR (Nat.le_succ _)) hB))
      clear hR hP hB hK
      go_wp2
      go_ret
      refine ⟨As, m, cps, rfl, ?_, ?_, HF.out.2.2⟩
      · rw [← HF.out.1]; exact HF.out.2.1
      · rw [← HF.out.1]; exact HK.out.2
end Go.Proofs.Ytpkkomifenlkaaa.Au
/- AllocOnce: the law's world. -/
namespace Go.Proofs.Ytpkkomifenlkaaa.Au
open Go Go.RowKit Go.MuLone
set_option linter.unusedVariables false

theorem own_at9 {V V' : World} {B n : Nat} {v : Value} {xs : List Value} (h : V.ownsRow B TOp 9 v n xs) (hb : ∀ k, v.ownBlock = some k → V'.heap[k]? = V.heap[k]?) : V'.ownsRow B TOp 9 v n xs := by
  refine ⟨h.1, ?_⟩
  rcases h.2 with h2 | ⟨g, cap, cur, hv, hg, hh, r⟩
  · exact Or.inl h2
  · exact Or.inr ⟨g, cap, cur, hv, hg, (hb g (by rw [hv]; rfl)).trans hh, r⟩
theorem AIs.apart {base : Nat} {W V : World} {y : Alo} {n0 n1 : Nat} {lk : Int} {v0 v1 : Value} {v : Nat → Value} {s : Nat → Nu} (h : AIs base W y n0 n1 lk v0 v1 v s) (o : Option Nat) (hb : ∀ k, k < W.heap.size → some k ≠ o → V.heap[k]? = W.heap[k]?) (hf : ∀ g, o = some g → Fre y n0 n1 v g ∧ some g ≠ v0.ownBlock ∧ some g ≠ v1.ownBlock) : AIs base V y n0 n1 lk v0 v1 v s :=
  h.still (hb _ h.ltS fun e => (hf _ e.symm).1.s rfl) (fun k hk => hb k (h.r0.lt k hk).2 fun e => (hf k e.symm).2.1 hk.symm) (fun k hk => hb k (h.r1.lt k hk).2 fun e => (hf k e.symm).2.2 hk.symm) fun i hi =>
    (h.it i hi).still (hb _ (h.it i hi).lt.1 fun e => ((hf _ e.symm).1.i i hi).n rfl) (hb _ (h.it i hi).lt.2.1 fun e => ((hf _ e.symm).1.i i hi).h rfl) (hb _ (h.it i hi).lt.2.2.1 fun e => ((hf _ e.symm).1.i i hi).b rfl) fun k hk => hb k ((h.it i hi).lt.2.2.2 k hk) fun e => ((hf k e.symm).1.i i hi).o hk.symm
/-- the law's world: the allocator; the row of what was given out -/
structure Ow (W V : World) (base : Nat) (z0 z1 : Value) (y : Alo) (v : Nat → Value) (s : Nat → Nu) (As : Option Addr) (m cps : Nat) (L : List Ot) : Prop where
  hb : W.heap.size ≤ base
  ai : AIs base V y y.A y.A 0 z0 z1 v s
  A : 1 ≤ y.A ∧ y.A ≤ 4
  bel : Below W.heap.size W V
  row : V.ownsRow W.heap.size TOp 9 (.slice As m cps) L.length (ocells (L.map Ot.q))
  ml : m = L.length
  fr : ∀ g, (Value.slice As m cps).ownBlock = some g → Fre y y.A y.A v g ∧ some g ≠ z0.ownBlock ∧ some g ≠ z1.ownBlock
/-- a box beside it -/
structure Bo (V : World) (y : Alo) (v : Nat → Value) (As : Option Addr) (m cps : Nat) (P : Nat) (T : TypeId) (cs : Array Value) : Prop where
  at_ : V.heap[P]? = some (.cells cs T (0, 0))
  fr : Fre y y.A y.A v P
  ne : some P ≠ (Value.slice As m cps).ownBlock
section
variable {W V X : World} {base : Nat} {z0 z1 : Value} {y : Alo} {v u : Nat → Value} {s s' : Nat → Nu} {As As' : Option Addr} {m cps m' cps' : Nat} {L L' : List Ot} {P : Nat} {T : TypeId} {cs : Array Value} {k : Nat}
theorem Ow.below (h : Ow W V base z0 z1 y v s As m cps L) (b : Below V.heap.size V X) : Ow W X base z0 z1 y v s As m cps L :=
  ⟨h.hb, h.ai.below b, h.A, h.bel.trans (b.mono h.bel.size), own_keep9 h.row fun k hk => b.block k hk, h.ml, h.fr⟩
theorem Ow.drew (h : Ow W V base z0 z1 y v s As m cps L) : Ow W V.drew base z0 z1 y v s As m cps L :=
  ⟨h.hb, h.ai.drew, h.A, h.bel.drew, own_keep9 h.row fun k _ => rfl, h.ml, h.fr⟩
theorem Ow.ownLt (h : Ow W V base z0 z1 y v s As m cps L) {g : Nat} (hg : (Value.slice As m cps).ownBlock = some g) : g < V.heap.size := (h.row.lt g hg).2
theorem Ow.turn (h : Ow W V base z0 z1 y v s As m cps L) (a : AIs base X y y.A y.A 0 z0 z1 u s') (f : AF y y.A y.A v u V X) : Ow W X base z0 z1 y u s' As m cps L :=
  ⟨h.hb, a, h.A, h.bel.trans ((f.below h.ai).mono h.hb), own_at9 h.row fun k hk => f.block k (h.ownLt hk) (h.fr k hk).1, h.ml, fun g hg => ⟨f.free g (h.ownLt hg) (h.fr g hg).1, (h.fr g hg).2⟩⟩
theorem Ow.new (h : Ow W V base z0 z1 y v s As m cps L) (b : Below V.heap.size V X) (r : X.ownsRow V.heap.size TOp 9 (.slice As' m' cps') L'.length (ocells (L'.map Ot.q))) (hm : m' = L'.length) : Ow W X base z0 z1 y v s As' m' cps' L' :=
  ⟨h.hb, h.ai.below b, h.A, h.bel.trans (b.mono h.bel.size), own_base9 r h.bel.size, hm, fun g hg => h.ai.fre_new (own_ge r g hg)⟩
theorem Ow.push (h : Ow W V base z0 z1 y v s As m cps L) (x : Ot) {g cap : Nat} (ho : X.ownsRow W.heap.size TOp 9 (.slice (some ⟨g, 0, none⟩) (L.length + 1) cap) (L.length + 1) (ocells (L.map Ot.q) ++ x.q.cells.toList)) (hg : V.grownBy X (Value.slice As m cps).ownBlock) (ha : (Value.slice As m cps).ownBlock = some g ∨ g = V.heap.size) : Ow W X base z0 z1 y v s (some ⟨g, 0, none⟩) (L.length + 1) cap (L ++ [x]) := by
  refine ⟨h.hb, h.ai.apart _ (fun k hk hne => hg.block k hk hne) fun k hk => h.fr k hk, h.A, h.bel.grown hg h.bel.size fun k hk => own_ge h.row k hk, ?_, by simp, fun k hk => ?_⟩
  · rw [List.map_append, List.map_singleton, ocells_snoc, List.length_append, List.length_singleton]
    exact ho
  · have hk : some g = some k := hk
    injection hk with hk
    subst hk
    rcases ha with ha | ha
    · exact h.fr g ha
    · exact h.ai.fre_new (by omega)
theorem Bo.below (h : Bo V y v As m cps P T cs) (b : Below V.heap.size V X) : Bo X y v As m cps P T cs := ⟨kp b h.at_, h.fr, h.ne⟩
theorem Bo.turn (h : Bo V y v As m cps P T cs) (f : AF y y.A y.A v u V X) : Bo X y u As m cps P T cs := ⟨(f.block P (ltO h.at_) h.fr).trans h.at_, f.free P (ltO h.at_) h.fr, h.ne⟩
theorem Bo.new (h : Bo V y v As m cps P T cs) (b : Below V.heap.size V X) {n : Nat} {xs : List Value} (r : X.ownsRow V.heap.size TOp 9 (.slice As' m' cps') n xs) : Bo X y v As' m' cps' P T cs :=
  ⟨kp b h.at_, h.fr, fun e => by have := own_ge r P e.symm; have := ltO h.at_; omega⟩
theorem Bo.push (h : Bo V y v As m cps P T cs) {g n cap : Nat} (hg : V.grownBy X (Value.slice As m cps).ownBlock) (ha : (Value.slice As m cps).ownBlock = some g ∨ g = V.heap.size) : Bo X y v (some ⟨g, 0, none⟩) n cap P T cs :=
  ⟨(hg.block P (ltO h.at_) h.ne).trans h.at_, h.fr, fun e => by
    have e : some P = some g := e
    rcases ha with ha | ha
    · exact h.ne (e.trans ha.symm)
    · injection e with e; have := ltO h.at_; omega⟩
/-- a box is made -/
theorem Ow.box (h : Ow W V base z0 z1 y v s As m cps L) (T : TypeId) (cs : Array Value) : Ow W (V.alloc (.cells cs T)) base z0 z1 y v s As m cps L ∧ Bo (V.alloc (.cells cs T)) y v As m cps V.heap.size T cs :=
  ⟨h.below ((Below.refl _ _).alloc (Nat.le_refl _) _), heap_alloc_new _ _, (h.ai.fre_new (Nat.le_refl _)).1, fun e => by have := h.ownLt e.symm; omega⟩
theorem inv_ok {A : Nat} (h : Inv A s L) (hok : ∀ i, NOk (s i) k) : ∀ q ∈ L.map Ot.q, q.ok := fun q hq => by
  obtain ⟨x, hx, rfl⟩ := List.mem_map.1 hq
  obtain ⟨i, -, h1, h2, -⟩ := h x hx
  have h3 := (hok i).nx
  exact ⟨⟨by show (0 : Int) ≤ 0; omega, by show (0 : Int) ≤ 18446744073709551615; omega⟩, ⟨h1, by show x.2.2 ≤ _; omega⟩⟩
theorem Ow.rd (h : Ow W V base z0 z1 y v s As m cps L) (hok : ∀ q ∈ L.map Ot.q, q.ok) : RdQ V As m (L.map Ot.q) := by
  have hr := h.row
  rw [← h.ml] at hr
  exact rdQ_own (by simp [h.ml]) hok hr
theorem Ow.doo (h : Ow W V base z0 z1 y v s As m cps L) (o : Oq) (hok : ∀ i, NOk (s i) k) (hk : k ≤ 892) (hn : 0 ≤ o.nn ∧ o.nn ≤ 18446744073709551615) {a b c d : Int} (hr : doR y.A o s = (a, b, c, d)) :
    Calls Try.prog 10 #[.pointer (some ⟨y.S, 0, none⟩), o.val] V fun e w' => e = .returned (.agg #[.int .i64 a, .int .u64 b, .int .u64 c, .int .u64 d]) ∧ ∃ v', Ow W w' base z0 z1 y v' (doS y.A o s) As m cps L ∧ AF y y.A y.A v v' V w' := by
  refine (do_any o h.ai (by have := h.A; omega) (fun i _ => hok i) hk (fun _ => sortU_all k (by omega)) hn).mono ?_
  rintro e w' ⟨rfl, v', h1, h2⟩
  exact ⟨by rw [hr]; rfl, v', h.turn h1 h2, h2⟩
theorem Ow.held (h : Ow W V base z0 z1 y v s As m cps L) (sd ac who : Int) (hok : ∀ i, NOk (s i) k) (hk : k ≤ 892) :
    Calls Try.prog 9 #[.pointer (some ⟨y.S, 0, none⟩), .int .i64 sd, .int .i64 ac, .int .i64 who] V fun e w' => ∃ A2 c2, e = .returned (.slice A2 (heldL s who (idx y.A sd ac)).length c2) ∧ RdN w' A2 (heldL s who (idx y.A sd ac)).length (heldL s who (idx y.A sd ac)) ∧ Ow W w' base z0 z1 y v s As m cps L ∧ AF y y.A y.A v v V w' := by
  refine (alHeld sd ac who h.ai (by have := h.A; omega) k (sortU_all k (by omega)) (fun i _ => by have := (hok i).len; omega) (by omega)).mono ?_
  rintro e w' ⟨v2, rfl, hro, h1, h2⟩
  obtain ⟨A2, c2, rfl⟩ := own_form hro
  exact ⟨A2, c2, rfl, rdN_own rfl hro, h.turn h1 h2, h2⟩
theorem held_len {A : Nat} {who sd ac : Int} (hok : ∀ i, NOk (s i) k) (hk : k ≤ 892) : (heldL s who (idx A sd ac)).length ≤ 1000000 := by
  cases idx A sd ac with
  | none => exact Nat.zero_le _
  | some i =>
    show (hbs who (s i).M).length ≤ _
    have h1 := (hok i).len
    have h2 := (hbs_perm who (s i).M).length_eq
    have h3 := hb_len who (s i).M
    omega
theorem RdN.one (V : World) (z : Int) : RdN (V.alloc (.cells #[.int .u64 z] TU)) (some ⟨V.heap.size, 0, none⟩) 1 [z] := by
  refine ⟨rfl, fun _ => ⟨V.heap.size, 0, rfl, by simp, fun i hi => ?_⟩⟩
  have : i = 0 := by simp at hi; omega
  subst this
  exact cell_of_row _ V.heap.size 0 #[.int .u64 z] TU (0, 0) (heap_alloc_new V _)
/-- what is given back, or begun anew, or dropped leaves the row -/
theorem Ow.wo (h : Ow W V base z0 z1 y v s As m cps L) (hok : ∀ q ∈ L.map Ot.q, q.ok) (o : Oq) {B : Option Addr} {n2 c2 : Nat} {ns : List Int} (hn : RdN V B n2 ns) (hl : L.length ≤ 1000) (hn9 : n2 ≤ 1000000) :
    Calls Try.prog 8 #[.slice As m cps, o.val, .slice B n2 c2] V fun e w' => ∃ As' m' cps', e = .returned (.slice As' m' cps') ∧ Ow W w' base z0 z1 y v s As' m' cps' (L.filter (stayO o.kd o.sd o.ac ns)) ∧ (∀ {P T cs}, Bo V y v As m cps P T cs → Bo w' y v As' m' cps' P T cs) ∧ Below V.heap.size V w' := by
  have hw := wo_any As m cps (L.map Ot.q) B n2 c2 ns o.kd o.who o.kc o.kf o.ks o.sd o.ac o.ep o.nn V (h.rd hok) hn (by have := h.ml; omega) hn9
  refine hw.mono ?_
  rintro e w' ⟨As', m', cps', rfl, hr, hm, hb⟩
  rw [stay_map] at hr hm
  rw [List.length_map] at hr hm
  exact ⟨As', m', cps', rfl, h.new hb hr hm, fun b => b.new hb hr, hb⟩
end
end Go.Proofs.Ytpkkomifenlkaaa.Au
/- AllocOnce: a config that may be, few operations. -/
namespace Go.Proofs.Ytpkkomifenlkaaa.Au
open Go Go.RowKit Go.MuLone Conf
set_option linter.unusedVariables false

set_option linter.unusedSimpArgs false
/-- what is left ahead of the act -/
def once1 (A : Nat) (o : Oq) (s : Nat → Nu) (L : List Ot) : List Ot := if o.kd = 10 then L.filter (stayO 10 o.sd o.ac (heldL s o.who (idx A o.sd o.ac))) else L
theorem once1_inv {A : Nat} {o : Oq} {s : Nat → Nu} {L : List Ot} (h : Inv A s L) : Inv A s (once1 A o s L) := by
  unfold once1
  split
  · exact h.filter _
  · exact h
theorem once1_len {A : Nat} {o : Oq} {s : Nat → Nu} {L : List Ot} : (once1 A o s L).length ≤ L.length := by
  unfold once1
  split
  · exact List.length_filter_le _ _
  · exact Nat.le_refl _
theorem once1_other {A : Nat} {o : Oq} {s : Nat → Nu} {L : List Ot} {k : Nat} (h : Inv A s L) (hok : ∀ i, NOk (s i) k) (h6 : o.kd ≠ 6) (h8 : o.kd ≠ 8) (h9 : o.kd ≠ 9) : Inv A (doS A o s) (once1 A o s L) := by
  unfold once1
  by_cases h10 : o.kd = 10
  · rw [if_pos h10]
    exact inv_drop h hok h10
  · rw [if_neg h10]
    by_cases h7 : o.kd = 7
    · exact inv_leave h hok h7
    · rcases doR_split A o s with ⟨-, h2⟩ | ⟨i, hi, h3, h4, -, -⟩
      · rw [h2]; exact h
      · omega
set_option maxRecDepth 20000 in
set_option maxHeartbeats 16000000 in
theorem once_main (c : Cfg) (h : c.n ≤ 20) (hcode : code c 11 0 = 0) (hwr : wrong c 11 0 = ⟨#[]⟩) (hr1 : right c.f1 1 4 = true) (hf : 0 ≤ c.f11 ∧ c.f11 ≤ 18446744073709551615) (P : Option Addr) (len cap : Nat) (qs : List Oq) (W : World) (hq : RdQ W P len qs) (hl : len ≤ 100) :
    Calls Try.prog 3 #[.agg c.cells, .slice P len cap] W fun e w' => e = .returned (.bool true) ∧ Below W.heap.size W w' := by
  have HQ := Lib.hid hq
  have hp : ¬ (100 : Int) < (len : Int) := by omega
  have hp2 : decide ((100 : Int) < (len : Int)) = false := by simp; omega
  have HWr : Hid (∀ V, Calls Try.prog 5 #[.agg c.cells] V fun e w' => e = .returned (.string ⟨#[]⟩) ∧ Below V.heap.size V w') := Lib.hid (fun V => by rw [← hwr]; exact ref_wrong c V)
  have HF := Lib.hid (fun V => few_yes c h V)
  obtain ⟨A, hA, hA1, hA4⟩ : ∃ A : Nat, c.f1 = (A : Int) ∧ 1 ≤ A ∧ A ≤ 4 := by
    simp [right] at hr1
    exact ⟨c.f1.toNat, by omega, by omega, by omega⟩
  have HT := Lib.hid (fun V => anew_any c hcode A hA (by omega) V)
  have HF11 := Lib.hid hf
  have HAa := Lib.hid (And.intro hA1 hA4)
  clear hcode hwr h hq hf hr1 hA1 hA4
  obtain ⟨cA, cn, cc, f1, f2, f3, f4, f5, f6, f7, f8, f9, f10, f11⟩ := c
  unfold Cfg.cells at *
  dsimp only at *
  subst hA
  obtain ⟨W0, hW0⟩ : ∃ X, X = W.alloc (.cells #[.slice cA cn cc, .int .i64 (A : Int), .int .i64 f2, .int .i64 f3, .int .i64 f4, .int .i64 f5, .int .i64 f6, .int .i64 f7, .int .i64 f8, .int .i64 f9, .int .i64 f10, .int .u64 f11] TCf) := ⟨_, rfl⟩
  have hc0 : W0.heap[W.heap.size]? = some (.cells #[.slice cA cn cc, .int .i64 (A : Int), .int .i64 f2, .int .i64 f3, .int .i64 f4, .int .i64 f5, .int .i64 f6, .int .i64 f7, .int .i64 f8, .int .i64 f9, .int .i64 f10, .int .u64 f11] TCf (0, 0)) := by rw [hW0]; exact heap_alloc_new _ _
  have b0 : Below W.heap.size W W0 := by rw [hW0]; exact (Below.refl _ _).alloc (Nat.le_refl _) _
  have H0 := Lib.hid (And.intro hc0 b0)
  have q := fun i => cell_of_row W0 W.heap.size i _ _ (0, 0) hc0
  have q0 := q 0; have q1 := q 1; have q2 := q 2; have q3 := q 3; have q4 := q 4; have q5 := q 5; have q6 := q 6; have q7 := q 7; have q8 := q 8; have q9 := q 9; have q10 := q 10; have q11 := q 11
  clear q
  clear hc0 b0
  go_enter Try.func3, Try.ntmps3
  go_upto_region 1 with fail
  rw [← hW0]
  clear hW0
  go_wp2_with fail
  refine (HF.out _).mono ?_
  rintro _ w1 ⟨rfl, b1⟩
  have hc1 := kp b1 H0.out.1
  have H1 := Lib.hid (And.intro hc1 (H0.out.2.trans (b1.mono H0.out.2.size)))
  clear q0 q1 q2 q3 q4 q5 q6 q7 q8 q9 q10 q11 b1 H0 HF
  have q := fun i => cell_of_row w1 W.heap.size i _ _ (0, 0) hc1
  have q0 := q 0; have q1 := q 1; have q2 := q 2; have q3 := q 3; have q4 := q 4; have q5 := q 5; have q6 := q 6; have q7 := q 7; have q8 := q 8; have q9 := q 9; have q10 := q 10; have q11 := q 11
  clear q
  clear hc1
  go_wp2_with fail
  refine (HWr.out _).mono ?_
  rintro _ w2 ⟨rfl, b2⟩
  have hc2 := kp b2 H1.out.1
  have H2 := Lib.hid (And.intro hc2 (H1.out.2.trans (b2.mono H1.out.2.size)))
  clear q0 q1 q2 q3 q4 q5 q6 q7 q8 q9 q10 q11 b2 H1 HWr
  have q := fun i => cell_of_row w2 W.heap.size i _ _ (0, 0) hc2
  have q0 := q 0; have q1 := q 1; have q2 := q 2; have q3 := q 3; have q4 := q 4; have q5 := q 5; have q6 := q 6; have q7 := q 7; have q8 := q 8; have q9 := q 9; have q10 := q 10; have q11 := q 11
  clear q
  clear hc2
  go_wp2_with fail
  refine (HT.out _).mono ?_
  rintro _ w3 ⟨S, b, z0, z1, rfl, hn⟩
  obtain ⟨base, hbase⟩ : ∃ base, base = w2.heap.size + 1 := ⟨_, rfl⟩
  have hal := hn.al
  rw [← hbase] at hal
  have hfw : Ow W w3 base z0 z1 ⟨S, A, b⟩ v00 (s00 f11) none 0 0 [] := ⟨by have := H2.out.2.size; omega, hal, HAa.out, H2.out.2.trans (hn.bel.mono H2.out.2.size), World.ownsRow_nil _ _ _ _, rfl, fun g hg => by cases hg⟩
  obtain ⟨y, hy⟩ : ∃ y : Alo, y = ⟨S, A, b⟩ := ⟨_, rfl⟩
  rw [← hy] at hfw
  obtain rfl : S = y.S := by rw [hy]
  have HS := Lib.hid hfw
  have HA := Lib.hid hfw.A
  have HN0 := Lib.hid (fun j => s00_ok f11 HF11.out j)
  clear q0 q1 q2 q3 q4 q5 q6 q7 q8 q9 q10 q11 hfw hn hy HT H2 HF11 HAa hal hbase
  go_wp2_with fail
  go_loopw [7, 8] (fun s7 s8 wr => ∃ (i : Nat) (v : Nat → Value) (s : Nat → Nu) (L : List Ot) (As : Option Addr) (m cps : Nat), s7 = .slice As m cps ∧ s8 = .int .i64 (i : Int) ∧ i ≤ len ∧ Ow W wr base z0 z1 y v s As m cps L ∧ Hid ((∀ j, NOk (s j) (8 * i)) ∧ Inv y.A s L ∧ L.length ≤ 8 * i)) (fun _ vi _ => len - (intOf vi).toNat)
  case atStart => exact ⟨0, _, _, [], none, 0, 0, rfl, rfl, Nat.zero_le _, HS.out, Lib.hid ⟨HN0.out, Inv.nil, Nat.le_refl _⟩⟩
  case round =>
    clear HS HN0
    obtain ⟨i, v, s, L, As, m, cps, rfl, rfl, hi, hS, HM⟩ := hrel
    have HS := Lib.hid hS
    clear hS
    by_cases hlt : i < len
    · have hi0 : (0 : Int) ≤ (i : Int) := by omega
      have hi1 : (i : Int) < (len : Int) := by omega
      obtain ⟨b9, off, hAq, hbl, hcs⟩ := HQ.out.cells (by omega)
      have hat := hcs i (by have := HQ.out.many; omega)
      have hok := HQ.out.ok _ (List.getElem_mem (h := (by have := HQ.out.many; omega : i < qs.length)))
      generalize qs[i]'(by have := HQ.out.many; omega) = q at hat hok
      subst hAq
      clear hcs
      obtain ⟨kd, who, kc, kf, ks, sd, ac, ep, nn⟩ := q
      have HSA : Hid (∀ V, Below W.heap.size W V → OqAt V b9 off i (Oq.mk kd who kc kf ks sd ac ep nn)) := Lib.hid fun V hb => hat.keep (hb.block b9 hbl)
      have HOK := Lib.hid hok
      clear hat hok hbl
      have hsa := HSA.out _ HS.out.bel
      have q0 : wr.cell? ⟨b9, off + i * 9, none⟩ = some (.int .i64 kd) := hsa 0 (by decide)
      have q1 : wr.cell? ⟨b9, off + i * 9 + 1, none⟩ = some (.int .i64 who) := hsa 1 (by decide)
      have q2 : wr.cell? ⟨b9, off + i * 9 + 2, none⟩ = some (.int .i64 kc) := hsa 2 (by decide)
      have q3 : wr.cell? ⟨b9, off + i * 9 + 3, none⟩ = some (.int .i64 kf) := hsa 3 (by decide)
      have q4 : wr.cell? ⟨b9, off + i * 9 + 4, none⟩ = some (.int .u64 ks) := hsa 4 (by decide)
      have q5 : wr.cell? ⟨b9, off + i * 9 + 5, none⟩ = some (.int .i64 sd) := hsa 5 (by decide)
      have q6 : wr.cell? ⟨b9, off + i * 9 + 6, none⟩ = some (.int .i64 ac) := hsa 6 (by decide)
      have q7 : wr.cell? ⟨b9, off + i * 9 + 7, none⟩ = some (.int .u64 ep) := hsa 7 (by decide)
      have q8 : wr.cell? ⟨b9, off + i * 9 + 8, none⟩ = some (.int .u64 nn) := hsa 8 (by decide)
      clear hsa
      have hqok := Lib.hid (inv_ok HM.out.2.1 HM.out.1)
      obtain ⟨h1, x1⟩ := HS.out.box TOp #[.int .i64 kd, .int .i64 who, .int .i64 kc, .int .i64 kf, .int .u64 ks, .int .i64 sd, .int .i64 ac, .int .u64 ep, .int .u64 nn]
      obtain ⟨P, hP⟩ : ∃ P, P = wr.heap.size := ⟨_, rfl⟩
      obtain ⟨w1, hw1⟩ : ∃ X, X = wr.alloc (.cells #[.int .i64 kd, .int .i64 who, .int .i64 kc, .int .i64 kf, .int .u64 ks, .int .i64 sd, .int .i64 ac, .int .u64 ep, .int .u64 nn] TOp) := ⟨_, rfl⟩
      rw [← hP, ← hw1] at x1
      rw [← hw1] at h1
      have H1 := Lib.hid (And.intro h1 x1)
      clear h1 x1 HS
      go_upto_region 11 with fail
      rw [← hw1, ← hP]
      clear hw1 hP q0 q1 q2 q3 q4 q5 q6 q7 q8 HSA
      have p := fun j => cell_of_row w1 P j _ _ (0, 0) H1.out.2.at_
      have p0 := p 0
      clear p
      go_upto_if 46 with fail
      go_cut [7] from 34 to 124 (fun s7 wx => ∃ (As m cps : _), s7 = .slice As m cps ∧ Ow W wx base z0 z1 y v s As m cps (once1 y.A (Oq.mk kd who kc kf ks sd ac ep nn) s L) ∧ Bo wx y v As m cps P TOp #[.int .i64 kd, .int .i64 who, .int .i64 kc, .int .i64 kf, .int .u64 ks, .int .i64 sd, .int .i64 ac, .int .u64 ep, .int .u64 nn])
      case first =>
        by_cases hk : kd = 10
        · subst hk
          have HLn := Lib.hid (held_len (A := y.A) (who := who) (sd := sd) (ac := ac) HM.out.1 (by omega))
          obtain ⟨ns, hns⟩ : ∃ ns, ns = heldL s who (idx y.A sd ac) := ⟨_, rfl⟩
          have HO1 : Hid (once1 y.A (Oq.mk 10 who kc kf ks sd ac ep nn) s L = L.filter (stayO 10 sd ac ns)) := Lib.hid (by unfold once1; rw [if_pos rfl, ← hns])
          rw [← hns] at HLn
          have HNS := Lib.hid hns.symm
          clear hns p0
          go_upto_region 12 with fail
          refine wp_region_held_drew (S := (fun V => V.heap[P]? = some (.cells #[.int .i64 10, .int .i64 who, .int .i64 kc, .int .i64 kf, .int .u64 ks, .int .i64 sd, .int .i64 ac, .int .u64 ep, .int .u64 nn] TOp (0, 0)))) (by kernel_rfl) H1.out.2.at_ (fun hHeld => ?_)
          have H1d : Hid (Ow W w1.drew base z0 z1 y v s As m cps L ∧ Bo w1.drew y v As m cps P TOp #[.int .i64 10, .int .i64 who, .int .i64 kc, .int .i64 kf, .int .u64 ks, .int .i64 sd, .int .i64 ac, .int .u64 ep, .int .u64 nn]) := Lib.hid ⟨H1.out.1.drew, H1.out.2.at_, H1.out.2.fr, H1.out.2.ne⟩
          have HD := Lib.hid (H1d.out.1.held sd ac who HM.out.1 (by omega))
          rw [show heldL s who (idx y.A sd ac) = ns from HNS.out] at HD
          refine wpAnyH_take (i := 0) (oi := _) (v := ?_) rfl (by kernel_rfl) (by kernel_rfl) (by kernel_rfl) (fun _ _ _ h => h) (Or.inl ⟨by rfl, ?_⟩) (by assumption) ?_
          rotate_left
          · (intro V hSw; clear hSw; go_simp; try with_reducible rfl)
          try simp only [Act.put, List.getElem_toArray, List.getElem_cons_succ, List.getElem_cons_zero, List.setIfInBounds_toArray, List.set_cons_zero, List.set_cons_succ]
          refine wpAnyH_take (i := 1) (oi := _) (v := ?_) rfl (by kernel_rfl) (by kernel_rfl) (by kernel_rfl) (fun _ _ _ h => h) (Or.inl ⟨by rfl, ?_⟩) (by assumption) ?_
          rotate_left
          · (intro V hSw; have q0 := cell_of_row V P 0 _ _ (0, 0) hSw; have q1 := cell_of_row V P 1 _ _ (0, 0) hSw; have q2 := cell_of_row V P 2 _ _ (0, 0) hSw; have q3 := cell_of_row V P 3 _ _ (0, 0) hSw; have q4 := cell_of_row V P 4 _ _ (0, 0) hSw; have q5 := cell_of_row V P 5 _ _ (0, 0) hSw; have q6 := cell_of_row V P 6 _ _ (0, 0) hSw; have q7 := cell_of_row V P 7 _ _ (0, 0) hSw; have q8 := cell_of_row V P 8 _ _ (0, 0) hSw; clear hSw; go_simp; try with_reducible rfl)
          try simp only [Act.put, List.getElem_toArray, List.getElem_cons_succ, List.getElem_cons_zero, List.setIfInBounds_toArray, List.set_cons_zero, List.set_cons_succ]
          refine wpAnyH_take (i := 2) (oi := _) (v := ?_) rfl (by kernel_rfl) (by kernel_rfl) (by kernel_rfl) (fun _ _ _ h => h) (Or.inl ⟨by rfl, ?_⟩) (by assumption) ?_
          rotate_left
          · (intro V hSw; clear hSw; go_simp; try with_reducible rfl)
          try simp only [Act.put, List.getElem_toArray, List.getElem_cons_succ, List.getElem_cons_zero, List.setIfInBounds_toArray, List.set_cons_zero, List.set_cons_succ]
          refine wpAnyH_take (i := 3) (oi := _) (v := ?_) rfl (by kernel_rfl) (by kernel_rfl) (by kernel_rfl) (fun _ _ _ h => h) (Or.inl ⟨by rfl, ?_⟩) (by assumption) ?_
          rotate_left
          · (intro V hSw; clear hSw; go_simp; try with_reducible rfl)
          try simp only [Act.put, List.getElem_toArray, List.getElem_cons_succ, List.getElem_cons_zero, List.setIfInBounds_toArray, List.set_cons_zero, List.set_cons_succ]
          refine wpAnyH_take (i := 4) (oi := _) (v := ?_) rfl (by kernel_rfl) (by kernel_rfl) (by kernel_rfl) (fun _ _ _ h => h) (Or.inl ⟨by rfl, ?_⟩) (by assumption) ?_
          rotate_left
          · (intro V hSw; have q0 := cell_of_row V P 0 _ _ (0, 0) hSw; have q1 := cell_of_row V P 1 _ _ (0, 0) hSw; have q2 := cell_of_row V P 2 _ _ (0, 0) hSw; have q3 := cell_of_row V P 3 _ _ (0, 0) hSw; have q4 := cell_of_row V P 4 _ _ (0, 0) hSw; have q5 := cell_of_row V P 5 _ _ (0, 0) hSw; have q6 := cell_of_row V P 6 _ _ (0, 0) hSw; have q7 := cell_of_row V P 7 _ _ (0, 0) hSw; have q8 := cell_of_row V P 8 _ _ (0, 0) hSw; clear hSw; go_simp; try with_reducible rfl)
          try simp only [Act.put, List.getElem_toArray, List.getElem_cons_succ, List.getElem_cons_zero, List.setIfInBounds_toArray, List.set_cons_zero, List.set_cons_succ]
          refine wpAnyH_take (i := 5) (oi := _) (v := ?_) rfl (by kernel_rfl) (by kernel_rfl) (by kernel_rfl) (fun _ _ _ h => h) (Or.inl ⟨by rfl, ?_⟩) (by assumption) ?_
          rotate_left
          · (intro V hSw; clear hSw; go_simp; try with_reducible rfl)
          try simp only [Act.put, List.getElem_toArray, List.getElem_cons_succ, List.getElem_cons_zero, List.setIfInBounds_toArray, List.set_cons_zero, List.set_cons_succ]
          refine wpAnyH_take (i := 6) (oi := _) (v := ?_) rfl (by kernel_rfl) (by kernel_rfl) (by kernel_rfl) (fun _ _ _ h => h) (Or.inl ⟨by rfl, ?_⟩) (by assumption) ?_
          rotate_left
          · (intro V hSw; have q0 := cell_of_row V P 0 _ _ (0, 0) hSw; have q1 := cell_of_row V P 1 _ _ (0, 0) hSw; have q2 := cell_of_row V P 2 _ _ (0, 0) hSw; have q3 := cell_of_row V P 3 _ _ (0, 0) hSw; have q4 := cell_of_row V P 4 _ _ (0, 0) hSw; have q5 := cell_of_row V P 5 _ _ (0, 0) hSw; have q6 := cell_of_row V P 6 _ _ (0, 0) hSw; have q7 := cell_of_row V P 7 _ _ (0, 0) hSw; have q8 := cell_of_row V P 8 _ _ (0, 0) hSw; clear hSw; go_simp; try with_reducible rfl)
          try simp only [Act.put, List.getElem_toArray, List.getElem_cons_succ, List.getElem_cons_zero, List.setIfInBounds_toArray, List.set_cons_zero, List.set_cons_succ]
          refine wpAnyH_take (i := 7) (oi := _) (v := ?_) rfl (by kernel_rfl) (by kernel_rfl) (by kernel_rfl) (fun _ _ _ h => h) (Or.inl ⟨by rfl, ?_⟩) (by assumption) ?_
          rotate_left
          · (intro V hSw; clear hSw; go_simp; try with_reducible rfl)
          try simp only [Act.put, List.getElem_toArray, List.getElem_cons_succ, List.getElem_cons_zero, List.setIfInBounds_toArray, List.set_cons_zero, List.set_cons_succ]
          refine wpAnyH_take (i := 8) (oi := _) (v := ?_) rfl (by kernel_rfl) (by kernel_rfl) (by kernel_rfl) (fun _ _ _ h => h) (Or.inl ⟨by rfl, ?_⟩) (by assumption) ?_
          rotate_left
          · (intro V hSw; have q0 := cell_of_row V P 0 _ _ (0, 0) hSw; have q1 := cell_of_row V P 1 _ _ (0, 0) hSw; have q2 := cell_of_row V P 2 _ _ (0, 0) hSw; have q3 := cell_of_row V P 3 _ _ (0, 0) hSw; have q4 := cell_of_row V P 4 _ _ (0, 0) hSw; have q5 := cell_of_row V P 5 _ _ (0, 0) hSw; have q6 := cell_of_row V P 6 _ _ (0, 0) hSw; have q7 := cell_of_row V P 7 _ _ (0, 0) hSw; have q8 := cell_of_row V P 8 _ _ (0, 0) hSw; clear hSw; go_simp; try with_reducible rfl)
          try simp only [Act.put, List.getElem_toArray, List.getElem_cons_succ, List.getElem_cons_zero, List.setIfInBounds_toArray, List.set_cons_zero, List.set_cons_succ]
          refine wpAnyH_ready (rs := [9]) (by kernel_rfl) (by simp) ?_
          refine AllReadyH.cons rfl (fun K hK => ?_) AllReadyH.nil
          simp only [List.getElem_toArray, List.getElem_cons_succ, List.getElem_cons_zero]
          rw [if_pos (by rfl)]
          go_simp
          refine HD.out.mono ?_
          rintro _ w2 ⟨A2, c2, rfl, hrn, h2, f2⟩
          have H2 := Lib.hid (And.intro h2 (H1d.out.2.turn f2))
          have HW := Lib.hid (h2.wo hqok.out (Oq.mk 10 who kc kf ks sd ac ep nn) (c2 := c2) hrn (by have := HM.out.2.2; omega) HLn.out)
          clear hrn h2 f2 H1d H1 HD
          go_wp2_with fail
          refine hK.out _ _ H2.out.2.at_ (fun hHeld => ?_)
          clear hK K
          try simp only [Act.put, List.getElem_toArray, List.getElem_cons_succ, List.getElem_cons_zero, List.setIfInBounds_toArray, List.set_cons_zero, List.set_cons_succ]
          refine wpAnyH_ready (rs := [10]) (by kernel_rfl) (by simp) ?_
          refine AllReadyH.cons rfl (fun K hK => ?_) AllReadyH.nil
          simp only [List.getElem_toArray, List.getElem_cons_succ, List.getElem_cons_zero]
          rw [if_pos (by rfl)]
          go_simp
          have hw := HW.out
          unfold Oq.val Oq.cells at hw
          dsimp only at hw
          refine hw.mono ?_
          rintro _ w3 ⟨As', m', cps', rfl, h3, x3, -⟩
          have H3 := Lib.hid (And.intro h3 (x3 H2.out.2))
          clear h3 x3 hw HW H2
          go_wp2_with fail
          refine hK.out _ _ H3.out.2.at_ (fun hHeld => ?_)
          clear hK K
          try simp only [Act.put, List.getElem_toArray, List.getElem_cons_succ, List.getElem_cons_zero, List.setIfInBounds_toArray, List.set_cons_zero, List.set_cons_succ]
          refine wpAnyH_take (i := 11) (oi := _) (v := ?_) rfl (by kernel_rfl) (by kernel_rfl) (by kernel_rfl) (fun _ _ _ h => h) (Or.inl ⟨by rfl, ?_⟩) (by assumption) ?_
          rotate_left
          · (intro V hSw; clear hSw; go_simp; try with_reducible rfl)
          try simp only [Act.put, List.getElem_toArray, List.getElem_cons_succ, List.getElem_cons_zero, List.setIfInBounds_toArray, List.set_cons_zero, List.set_cons_succ]
          refine wpAnyH_done (by kernel_rfl) ?_ _
          go_wp2
          go_meet
          exact ⟨As', m', cps', rfl, by rw [HO1.out]; exact H3.out.1, H3.out.2⟩
        · have hk10 : (kd == 10) = false := by simpa using hk
          go_wp2
          go_meet
          exact ⟨As, m, cps, rfl, by unfold once1; rw [if_neg hk]; exact H1.out.1, H1.out.2⟩
      case rest =>
        obtain ⟨As, m, cps, rfl, h2, x2⟩ := hcut
        have H2 := Lib.hid (And.intro h2 x2)
        have p := fun j => cell_of_row wc P j _ _ (0, 0) x2.at_
        have p0 := p 0; have p1 := p 1; have p2 := p 2; have p3 := p 3; have p4 := p 4; have p5 := p 5; have p6 := p 6; have p7 := p 7; have p8 := p 8
        clear p
        clear p0 h2 x2 H1
        have p0 := cell_of_row wc P 0 _ _ (0, 0) H2.out.2.at_
        obtain ⟨ra, rb, rc, rd, hr⟩ : ∃ a b c d, doR y.A (Oq.mk kd who kc kf ks sd ac ep nn) s = (a, b, c, d) := ⟨_, _, _, _, rfl⟩
        have hd := H2.out.1.doo (Oq.mk kd who kc kf ks sd ac ep nn) HM.out.1 (by omega) HOK.out.nn hr
        unfold Oq.val Oq.cells at hd
        dsimp only at hd
        have HM1 := Lib.hid (all_ok (A := y.A) (o := (Oq.mk kd who kc kf ks sd ac ep nn)) HM.out.1 (by omega) HOK.out.nn)
        have HER : Hid (ra ≠ 0 → Inv y.A (doS y.A (Oq.mk kd who kc kf ks sd ac ep nn) s) (once1 y.A (Oq.mk kd who kc kf ks sd ac ep nn) s L)) := Lib.hid fun h => by rw [do_err (by rw [hr]; exact h)]; exact once1_inv HM.out.2.1
        have HRS : Hid (kd = 6 → ra = 0 → ∃ m : Nat, rd = (m : Int) ∧ Gave y.A (Oq.mk kd who kc kf ks sd ac ep nn) s L rc m) := Lib.hid fun h h0 => inv_res HM.out.2.1 HM.out.1 h (by rw [hr, h0])
        have HOT : Hid (kd ≠ 6 → kd ≠ 8 → kd ≠ 9 → Inv y.A (doS y.A (Oq.mk kd who kc kf ks sd ac ep nn) s) (once1 y.A (Oq.mk kd who kc kf ks sd ac ep nn) s L)) := Lib.hid fun h6 h8 h9 => once1_other HM.out.2.1 HM.out.1 h6 h8 h9
        have HBK : Hid (kd = 8 → Inv y.A (doS y.A (Oq.mk kd who kc kf ks sd ac ep nn) s) (L.filter (stayO 8 sd ac [nn]))) := Lib.hid fun h => inv_ret (o := (Oq.mk kd who kc kf ks sd ac ep nn)) HM.out.2.1 HM.out.1 h
        have HSY : Hid (kd = 9 → Inv y.A (doS y.A (Oq.mk kd who kc kf ks sd ac ep nn) s) (L.filter (stayO 9 sd ac []))) := Lib.hid fun h => inv_sync (o := (Oq.mk kd who kc kf ks sd ac ep nn)) HM.out.2.1 h []
        have HL1 : Hid ((once1 y.A (Oq.mk kd who kc kf ks sd ac ep nn) s L).length ≤ 8 * i) := Lib.hid (Nat.le_trans once1_len HM.out.2.2)
        have hqok1 : Hid (∀ q ∈ (once1 y.A (Oq.mk kd who kc kf ks sd ac ep nn) s L).map Ot.q, q.ok) := Lib.hid (inv_ok (once1_inv HM.out.2.1) HM.out.1)
        have hO1 : kd ≠ 10 → once1 y.A (Oq.mk kd who kc kf ks sd ac ep nn) s L = L := fun h => by unfold once1; rw [if_neg h]
        have HO1 := Lib.hid hO1
        have HGI : Hid (∀ F m, Gave y.A (Oq.mk kd who kc kf ks sd ac ep nn) s L F m → 0 ≤ F ∧ F + (m : Int) ≤ 18446744073709551615 ∧ 1 ≤ m ∧ m ≤ 8 ∧ (m : Int) ≤ nn ∧ (∀ j, j < m → ((sd, ac, F + (j : Int)) : Ot) ∉ L ++ giv sd ac F j) ∧ Inv y.A (doS y.A (Oq.mk kd who kc kf ks sd ac ep nn) s) (L ++ giv sd ac F m)) := Lib.hid fun F m g => ⟨g.f0, g.fm, g.m1, g.m8, g.mn, g.new, g.inv⟩
        generalize once1 y.A (Oq.mk kd who kc kf ks sd ac ep nn) s L = L1 at H2 hd HER HOT HL1 hqok1 HO1
        generalize hs1 : doS y.A (Oq.mk kd who kc kf ks sd ac ep nn) s = s1 at hd HM1 HER HOT HBK HSY HGI
        have HD := Lib.hid hd
        clear hd hr hO1 hqok hs1
        go_wp2_with fail
        refine HD.out.mono ?_
        rintro _ w4 ⟨rfl, v1, h4, f4⟩
        have x4 := H2.out.2.turn f4
        obtain ⟨h5, y5⟩ := h4.box TRt #[.int .i64 ra, .int .u64 rb, .int .u64 rc, .int .u64 rd]
        have x5 := x4.below ((Below.refl w4.heap.size w4).alloc (Nat.le_refl _) (.cells #[.int .i64 ra, .int .u64 rb, .int .u64 rc, .int .u64 rd] TRt))
        obtain ⟨Q, hQ⟩ : ∃ Q, Q = w4.heap.size := ⟨_, rfl⟩
        obtain ⟨w5, hw5⟩ : ∃ X, X = w4.alloc (.cells #[.int .i64 ra, .int .u64 rb, .int .u64 rc, .int .u64 rd] TRt) := ⟨_, rfl⟩
        rw [← hQ, ← hw5] at y5
        rw [← hw5] at h5 x5
        have H5 := Lib.hid (And.intro h5 (And.intro x5 y5))
        clear h4 f4 x4 h5 x5 y5 HD H2 p0 p1 p2 p3 p4 p5 p6 p7 p8
        go_upto_region 14 with fail
        rw [← hw5, ← hQ]
        clear hw5 hQ
        obtain ⟨r0, r1, r2, r3, -⟩ := get4 H5.out.2.2.at_
        have p := fun j => cell_of_row w5 P j _ _ (0, 0) H5.out.2.1.at_
        have p0 := p 0; have p1 := p 1; have p2 := p 2; have p3 := p 3; have p4 := p 4; have p5 := p 5; have p6 := p 6; have p7 := p 7; have p8 := p 8
        clear p
        by_cases hra : ra = 0
        · subst hra
          by_cases hk6 : kd = 6
          · subst hk6
            obtain ⟨m0, rfl, hg⟩ := HRS.out rfl rfl
            obtain ⟨g0, gm, g1, g8, gn, gnew, ginv⟩ := HGI.out _ _ hg
            obtain rfl := HO1.out (by decide)
            have HG := Lib.hid (And.intro gnew ginv)
            have d1 : ((m0 : Int) < 1) = False := by simp; omega
            have d2 : (nn < (m0 : Int)) = False := by simp; omega
            clear gnew ginv hg HER HOT HBK HSY HO1 HGI HRS
            go_wp2_with fail
            clear p0 p1 p2 p3 p4 p5 p6 p7 p8 r0 r1 r2 r3 d1 d2
            go_loopw [7, 11] (fun s7 vk wx => ∃ (k : Nat) (As : Option Addr) (m cps : Nat), s7 = .slice As m cps ∧ vk = .int .u64 (k : Int) ∧ k ≤ m0 ∧ Ow W wx base z0 z1 y v1 s1 As m cps (L1 ++ giv sd ac rc k) ∧ Bo wx y v1 As m cps P TOp #[.int .i64 6, .int .i64 who, .int .i64 kc, .int .i64 kf, .int .u64 ks, .int .i64 sd, .int .i64 ac, .int .u64 ep, .int .u64 nn] ∧ Bo wx y v1 As m cps Q TRt #[.int .i64 0, .int .u64 rb, .int .u64 rc, .int .u64 (m0 : Int)]) (fun _ vk _ => m0 - (intOf vk).toNat)
            case atStart => exact ⟨0, As, m, cps, rfl, rfl, Nat.zero_le _, by simpa [giv] using H5.out.1, H5.out.2.1, H5.out.2.2⟩
            case round =>
              clear H5
              obtain ⟨k, As, m, cps, rfl, rfl, hkm, h6, x6, y6⟩ := hrel
              obtain ⟨r0, r1, r2, r3, -⟩ := get4 y6.at_
              have p := fun j => cell_of_row wr P j _ _ (0, 0) x6.at_
              have p0 := p 0; have p1 := p 1; have p2 := p 2; have p3 := p 3; have p4 := p 4; have p5 := p 5; have p6 := p 6; have p7 := p 7; have p8 := p 8
              clear p
              have H6 := Lib.hid (And.intro h6 (And.intro x6 y6))
              clear h6 x6 y6
              by_cases hk2 : k < m0
              · have hkz : (k : Int) < (m0 : Int) := by omega
                have wrF : IntKind.u64.wrap (rc + (k : Int)) = rc + (k : Int) := by simp [IntKind.wrap, IntKind.bits, IntKind.signed]; omega
                have wrK : IntKind.u64.wrap ((k : Int) + 1) = ((k + 1 : Nat) : Int) := by simp [IntKind.wrap, IntKind.bits, IntKind.signed]; omega
                obtain ⟨xn, hxn⟩ : ∃ xn, xn = rc + (k : Int) := ⟨_, rfl⟩
                have hnotin := HG.out.1 k hk2
                rw [← hxn] at hnotin
                have wrF2 : IntKind.u64.wrap (rc + (k : Int)) = xn := wrF.trans hxn.symm
                clear wrF
                have e1 : (xn == 18446744073709551615) = false := by simp; omega
                have e2 : ¬ xn < rc := by omega
                have HXN := Lib.hid hxn
                have XC : Hid True := Lib.hid trivial
                obtain ⟨h7, z7⟩ := H6.out.1.box TOp #[.int .i64 0, .int .i64 0, .int .i64 0, .int .i64 0, .int .u64 0, .int .i64 sd, .int .i64 ac, .int .u64 0, .int .u64 xn]
                have bl := (Below.refl wr.heap.size wr).alloc (Nat.le_refl _) (.cells #[.int .i64 0, .int .i64 0, .int .i64 0, .int .i64 0, .int .u64 0, .int .i64 sd, .int .i64 ac, .int .u64 0, .int .u64 xn] TOp)
                have x7 := H6.out.2.1.below bl
                have y7 := H6.out.2.2.below bl
                obtain ⟨R, hR⟩ : ∃ R, R = wr.heap.size := ⟨_, rfl⟩
                obtain ⟨w7, hw7⟩ : ∃ X, X = wr.alloc (.cells #[.int .i64 0, .int .i64 0, .int .i64 0, .int .i64 0, .int .u64 0, .int .i64 sd, .int .i64 ac, .int .u64 0, .int .u64 xn] TOp) := ⟨_, rfl⟩
                rw [← hR, ← hw7] at z7
                rw [← hw7] at h7 x7 y7
                have H7 := Lib.hid (And.intro h7 (And.intro x7 (And.intro y7 z7)))
                have hInvk : Inv y.A s1 (L1 ++ giv sd ac rc k) := HG.out.2.sub fun x hx => by
                  rcases List.mem_append.1 hx with q | q
                  · exact List.mem_append.2 (Or.inl q)
                  · obtain ⟨j, hj, e⟩ := giv_mem.1 q
                    exact List.mem_append.2 (Or.inr (giv_mem.2 ⟨j, by omega, e⟩))
                have HRD := Lib.hid (h7.rd (inv_ok hInvk HM1.out))
                have hlk : (L1 ++ giv sd ac rc k).length ≤ 1000000 := by rw [List.length_append]; have h1 := HL1.out; have h2 : (giv sd ac rc k).length = k := (by simp [giv]); omega
                have hmm := h7.ml
                have hm9 : m ≤ 1000000 := by omega
                have HMM := Lib.hid hmm
                clear hmm
                have hh := has_no As m cps (L1 ++ giv sd ac rc k) (sd, ac, xn) hnotin w7 HRD.out hm9
                dsimp only at hh
                have HH := Lib.hid hh
                clear hh
                clear h7 x7 y7 z7 bl H6 hnotin hInvk hlk hxn HRD
                go_upto_region 23 with fail
                rw [← hw7, ← hR]
                clear hw7 hR r0 r1 r2 r3 p0 p1 p2 p3 p4 p5 p6 p7 p8
                obtain ⟨r0, r1, r2, r3, -⟩ := get4 H7.out.2.2.1.at_
                have t := fun j => cell_of_row w7 R j _ _ (0, 0) H7.out.2.2.2.at_
                have t0 := t 0; have t1 := t 1; have t2 := t 2; have t3 := t 3; have t4 := t 4; have t5 := t 5; have t6 := t 6; have t7 := t 7; have t8 := t 8
                clear t
                go_wp2_with fail
                refine HH.out.mono ?_
                rintro _ w8 ⟨rfl, b8⟩
                have h8 := H7.out.1.below b8
                have x8 := H7.out.2.1.below b8
                have y8 := H7.out.2.2.1.below b8
                have z8 := H7.out.2.2.2.below b8
                clear r0 r1 r2 r3 t0 t1 t2 t3 t4 t5 t6 t7 t8 b8 H7 HH
                obtain ⟨r0, r1, r2, r3, -⟩ := get4 y8.at_
                have t := fun j => cell_of_row w8 R j _ _ (0, 0) z8.at_
                have t0 := t 0; have t1 := t 1; have t2 := t 2; have t3 := t 3; have t4 := t 4; have t5 := t 5; have t6 := t 6; have t7 := t 7; have t8 := t 8
                have bl := (Below.refl w8.heap.size w8).alloc (Nat.le_refl _) (.cells #[.int .i64 0, .int .i64 0, .int .i64 0, .int .i64 0, .int .u64 0, .int .i64 sd, .int .i64 ac, .int .u64 0, .int .u64 xn] TOp)
                have H9 := Lib.hid (And.intro (h8.below bl) (And.intro (x8.below bl) (y8.below bl)))
                have hrow := H9.out.1.row
                rw [← HMM.out] at hrow
                have HRW := Lib.hid hrow
                clear hrow
                have HC := Lib.hid (news_op w8 0 0 0 0 0 sd ac 0 xn)
                have H1 := Lib.hid (ones_op 0 0 0 0 0 sd ac 0 xn)
                have HBd := Lib.hid hm9
                have hsz : W.heap.size ≤ (w8.alloc (.cells #[.int .i64 0, .int .i64 0, .int .i64 0, .int .i64 0, .int .u64 0, .int .i64 sd, .int .i64 ac, .int .u64 0, .int .u64 xn] TOp)).heap.size := H9.out.1.bel.size
                have HSZ := Lib.hid hsz
                obtain ⟨i0, hinf, hz0, hz1, hz2⟩ := info_partsU infoOp
                clear t h8 x8 y8 z8 bl hsz
                go_wp2_with (at_builtin; refine wpList_append_lies _ rfl _ _ 26 rfl W.heap.size TOp i0 (.agg #[.int .i64 0, .int .i64 0, .int .i64 0, .int .i64 0, .int .u64 0, .int .i64 0, .int .i64 0, .int .u64 0, .int .u64 0]) 9 72 Try.underlying26 hinf hz0 hz1 hz2 rfl (by decide) _ _ _ rfl HRW.out ⟨w8.heap.size, 0, none⟩ 1 1 (#[.int .i64 0, .int .i64 0, .int .i64 0, .int .i64 0, .int .u64 0, .int .i64 sd, .int .i64 ac, .int .u64 0, .int .u64 xn] : Array Value).toList rfl rfl HC.out H1.out (by decide) (by have := HBd.out; unfold maxLen; omega) (by have := HBd.out; omega) HSZ.out _ rfl ?_)
                intro g cap1 w9 hown hgr hat _
                rw [HMM.out, ← List.map_append] at hown
                have h10 := H9.out.1.push (sd, ac, xn) hown hgr (hat.imp id fun e => e.trans (by simp))
                have x10 := H9.out.2.1.push (n := m + 1) (cap := cap1) hgr (hat.imp id fun e => e.trans (by simp))
                have y10 := H9.out.2.2.push (n := m + 1) (cap := cap1) hgr (hat.imp id fun e => e.trans (by simp))
                have H10 := Lib.hid (And.intro h10 (And.intro x10 y10))
                clear hown hgr hat h10 x10 y10 H9 HC H1 r0 r1 r2 r3 t0 t1 t2 t3 t4 t5 t6 t7 t8
                go_wp2
                go_roundw
                case rel => exact ⟨k + 1, _, _, _, rfl, rfl, hk2, by rw [giv_succ, ← List.append_assoc, ← HXN.out, HMM.out]; exact H10.out.1, H10.out.2⟩
                case measure => simp [intOf]; omega
              · obtain rfl : k = m0 := by omega
                have hii : ¬ ((k : Int) < (k : Int)) := by omega
                go_wp2
                go_roundw
                case rel =>
                  refine ⟨i + 1, v1, s1, _, As, m, cps, rfl, by go_num, hlt, H6.out.1, Lib.hid ⟨fun j => (HM1.out j).more (by omega), HG.out.2, ?_⟩⟩
                  rw [List.length_append]
                  have h1 := HL1.out
                  have h2 : (giv sd ac rc k).length = k := by simp [giv]
                  omega
                case measure => simp [intOf]; omega
          · have e6 : (kd == 6) = false := by simpa using hk6
            by_cases hk8 : kd = 8
            · subst hk8
              obtain rfl := HO1.out (by decide)
              have hI := HBK.out rfl
              have HI := Lib.hid hI
              have bl := (Below.refl w5.heap.size w5).alloc (Nat.le_refl _) (.cells #[.int .u64 nn] TU)
              have HW := Lib.hid ((H5.out.1.below bl).wo hqok1.out (Oq.mk 8 who kc kf ks sd ac ep nn) (c2 := 1) (RdN.one w5 nn) (by have := HL1.out; omega) (by decide))
              have hw := HW.out
              unfold Oq.val Oq.cells at hw
              dsimp only at hw
              have HW2 := Lib.hid hw
              clear hI bl hw HW HER HOT HBK HSY HO1 HGI HRS
              go_wp2_with fail
              refine HW2.out.mono ?_
              rintro _ w6 ⟨As', m', cps', rfl, h6, -, -⟩
              have H6 := Lib.hid h6
              clear h6 HW2 H5 p0 p1 p2 p3 p4 p5 p6 p7 p8 r0 r1 r2 r3
              go_wp2
              go_roundw
              case rel => exact ⟨i + 1, v1, s1, _, As', m', cps', rfl, by go_num, hlt, H6.out, Lib.hid ⟨fun j => (HM1.out j).more (by omega), HI.out, by have := HL1.out; exact Nat.le_trans (List.length_filter_le _ _) (by omega)⟩⟩
              case measure => simp [intOf]; omega
            · have e8 : (kd == 8) = false := by simpa using hk8
              by_cases hk9 : kd = 9
              · subst hk9
                obtain rfl := HO1.out (by decide)
                have HI := Lib.hid (HSY.out rfl)
                have hw := H5.out.1.wo hqok1.out (Oq.mk 9 who kc kf ks sd ac ep nn) (c2 := 0) (RdN.nil w5 none) (by have := HL1.out; omega) (by decide)
                unfold Oq.val Oq.cells at hw
                dsimp only at hw
                have HW2 := Lib.hid hw
                clear hw HER HOT HBK HSY HO1 HGI HRS
                go_wp2_with fail
                refine HW2.out.mono ?_
                rintro _ w6 ⟨As', m', cps', rfl, h6, -, -⟩
                have H6 := Lib.hid h6
                clear h6 HW2 H5 p0 p1 p2 p3 p4 p5 p6 p7 p8 r0 r1 r2 r3
                go_wp2
                go_roundw
                case rel => exact ⟨i + 1, v1, s1, _, As', m', cps', rfl, by go_num, hlt, H6.out, Lib.hid ⟨fun j => (HM1.out j).more (by omega), HI.out, by have := HL1.out; exact Nat.le_trans (List.length_filter_le _ _) (by omega)⟩⟩
                case measure => simp [intOf]; omega
              · have e9 : (kd == 9) = false := by simpa using hk9
                have HI := Lib.hid (HOT.out hk6 hk8 hk9)
                clear HER HOT HBK HSY HO1 HGI HRS
                go_wp2
                go_roundw
                case rel => exact ⟨i + 1, v1, s1, L1, As, m, cps, rfl, by go_num, hlt, H5.out.1, Lib.hid ⟨fun j => (HM1.out j).more (by omega), HI.out, by have := HL1.out; omega⟩⟩
                case measure => simp [intOf]; omega
        · have hra2 : (ra != 0) = true := by simpa using hra
          have HI := Lib.hid (HER.out hra)
          clear HER HOT HBK HSY HO1 HGI HRS
          go_wp2
          go_roundw
          case rel => exact ⟨i + 1, v1, s1, L1, As, m, cps, rfl, by go_num, hlt, H5.out.1, Lib.hid ⟨fun j => (HM1.out j).more (by omega), HI.out, by have := HL1.out; omega⟩⟩
          case measure => simp [intOf]; omega
    · obtain rfl : i = len := by omega
      have hii : ¬ ((i : Int) < (i : Int)) := by omega
      clear HQ
      go_wp2_with fail
      refine (awake_any _).mono ?_
      rintro _ w9 ⟨rfl, b9⟩
      have hbe := HS.out.bel.trans (b9.mono HS.out.bel.size)
      clear b9
      go_wp2
      go_ret
      exact ⟨rfl, hbe⟩
end Go.Proofs.Ytpkkomifenlkaaa.Au
/- 'AllocOnce' holds for every input: the walk over what came in. -/
namespace Go.Proofs.Ytpkkomifenlkaaa.Au
open Go Go.RowKit Go.ChangeShapes Go.WideShapes Go.Deep Conf

set_option maxRecDepth 100000 in
theorem walk {H : Type} {enc : TypeId × Value → H} {spare : Nat → Bool} {held : Bool} {w : World} {base : Nat} {v u : Value} {d d' : DataW H} {p p' : List MemPlace}
    (ok : Value.okWide Try.prog w .any base 25 v) (h : DataW.Trod enc Try.prog w 0 spare held 25 v d p)
    (ok' : Value.okWide Try.prog w .any base 26 u) (h' : DataW.Trod enc Try.prog w 0 spare held 26 u d' p') :
    Calls Try.prog 3 #[v, u] w fun e w' => e = .returned (.bool true) ∧ Below w.heap.size w w' := by
  obtain ⟨A, len, cap, qs, rfl, hl, hr⟩ := open_oqs ok' h'
  obtain ⟨c, rfl, hf0, hf1⟩ := open_config_f11 ok h
  by_cases hc : 20 < c.n
  · exact once_few c hc A len cap w
  by_cases hn : 100 < len
  · exact once_long c (by omega) A len cap hn w
  rcases wrong_or c with ⟨h1, h2, _, h4⟩ | ⟨_, h2⟩
  · exact once_main c (by omega) h1 h2 h4 ⟨hf0, hf1⟩ A len cap qs w hr (by omega)
  · exact once_wrong c (by omega) h2 A len cap (by omega) w
end Go.Proofs.Ytpkkomifenlkaaa.Au
