/- gap: runs and the numbers that they stand for. -/
import Derived.Test.YtlgbendncgboiaaGapHeapMath
namespace Go.Proofs.Ytlgbendncgboiaa.Gm
def Okr (x : R) : Prop := 0 ≤ x.1 ∧ 1 ≤ x.2 ∧ x.1 + x.2 ≤ 18446744073709551615
def Apart (x y : R) : Prop := x.1 + x.2 < y.1 ∨ y.1 + y.2 < x.1
def In (n : Int) (x : R) : Prop := x.1 ≤ n ∧ n < x.1 + x.2
structure Rep (l : List R) (L : List Int) : Prop where
  ok : ∀ x ∈ l, Okr x
  apart : l.Pairwise Apart
  sorted : L.Pairwise (· < ·)
  mem : ∀ n, n ∈ L ↔ ∃ x ∈ l, In n x
theorem apart_symm {x y : R} (h : Apart x y) : Apart y x := Or.symm h
theorem Rep.perm {l l' : List R} {L : List Int} (h : Rep l L) (p : l.Perm l') : Rep l' L :=
  ⟨fun x hx => h.ok x (p.mem_iff.2 hx), (p.pairwise_iff (fun h => apart_symm h)).1 h.apart, h.sorted, fun n => (h.mem n).trans ⟨fun ⟨x, hx, i⟩ => ⟨x, p.mem_iff.1 hx, i⟩, fun ⟨x, hx, i⟩ => ⟨x, p.mem_iff.2 hx, i⟩⟩⟩
theorem Rep.nil : Rep [] [] := by
  refine ⟨fun _ h => ?_, List.Pairwise.nil, List.Pairwise.nil, fun n => ⟨fun h => ?_, fun h => ?_⟩⟩
  · cases h
  · cases h
  · obtain ⟨x, h, _⟩ := h
    cases h
/-- strictly rising lists with the same members are one -/
theorem rise_eq : ∀ {a b : List Int}, a.Pairwise (· < ·) → b.Pairwise (· < ·) → (∀ n, n ∈ a ↔ n ∈ b) → a = b
  | [], [], _, _, _ => rfl
  | [], y :: b, _, _, h => by have := (h y).2 (by simp); cases this
  | x :: a, [], _, _, h => by have := (h x).1 (by simp); cases this
  | x :: a, y :: b, ha, hb, h => by
    have ha' := List.pairwise_cons.1 ha
    have hb' := List.pairwise_cons.1 hb
    have e : x = y := by
      have h1 := (h x).1 (by simp)
      have h2 := (h y).2 (by simp)
      rw [List.mem_cons] at h1 h2
      rcases h1 with h1 | h1
      · exact h1
      · rcases h2 with h2 | h2
        · exact h2.symm
        · have := ha'.1 y h2; have := hb'.1 x h1; omega
    subst e
    rw [rise_eq ha'.2 hb'.2 fun n => ?_]
    have := h n
    rw [List.mem_cons, List.mem_cons] at this
    constructor
    · intro hn
      rcases this.1 (Or.inr hn) with e | e
      · have := ha'.1 n hn; omega
      · exact e
    · intro hn
      rcases this.2 (Or.inr hn) with e | e
      · have := hb'.1 n hn; omega
      · exact e
/-- rising runs -/
structure Srt (ls : List R) : Prop where
  ok : ∀ x ∈ ls, Okr x
  rise : ls.Pairwise fun x y => x.1 + x.2 < y.1
def runL (x : R) : List Int := (List.range x.2.toNat).map fun (i : Nat) => x.1 + (i : Int)
def expd (ls : List R) : List Int := ls.flatMap runL
theorem mem_run {x : R} {n : Int} : n ∈ runL x ↔ In n x := by
  unfold runL In
  simp only [List.mem_map, List.mem_range]
  constructor
  · rintro ⟨i, hi, rfl⟩; omega
  · rintro ⟨h1, h2⟩; exact ⟨(n - x.1).toNat, by omega, by omega⟩
theorem mem_exp {ls : List R} {n : Int} : n ∈ expd ls ↔ ∃ x ∈ ls, In n x := by
  unfold expd
  simp only [List.mem_flatMap, mem_run]
theorem run_rise (x : R) : (runL x).Pairwise (· < ·) := by
  unfold runL
  rw [List.pairwise_map]
  exact List.pairwise_lt_range.imp (fun h => by omega)
theorem exp_cons (x : R) (ls : List R) : expd (x :: ls) = runL x ++ expd ls := rfl
theorem exp_rise : ∀ {ls : List R}, Srt ls → (expd ls).Pairwise (· < ·)
  | [], _ => List.Pairwise.nil
  | x :: ls, h => by
    have h' := List.pairwise_cons.1 h.rise
    rw [exp_cons, List.pairwise_append]
    refine ⟨run_rise x, exp_rise ⟨fun y hy => h.ok y (by simp [hy]), h'.2⟩, fun a ha b hb => ?_⟩
    rw [mem_run] at ha
    rw [mem_exp] at hb
    obtain ⟨y, hy, hb⟩ := hb
    have := h'.1 y hy
    unfold In at ha hb
    omega
/-- the rising runs of a heap -/
theorem Rep.srt {l ls : List R} {L : List Int} (h : Rep l L) (p : ls.Perm l) (hs : ls.Pairwise fun x y => x.1 ≤ y.1) : Srt ls ∧ L = expd ls := by
  have h' := h.perm p.symm
  have s : Srt ls := ⟨h'.ok, (List.Pairwise.and hs h'.apart).imp_of_mem (fun {x y} hx hy hxy => by
    have a := h'.ok x hx
    have b := h'.ok y hy
    obtain ⟨c, d⟩ := hxy
    unfold Apart at d
    unfold Okr at a b
    omega)⟩
  exact ⟨s, rise_eq h'.sorted (exp_rise s) fun n => (h'.mem n).trans mem_exp.symm⟩
theorem Rep.sort {l : List R} {L : List Int} (h : Rep l L) : ∃ ls, ls.Perm l ∧ Srt ls ∧ L = expd ls := by
  have p := List.mergeSort_perm l (fun x y => decide (x.1 ≤ y.1))
  have s := List.pairwise_mergeSort (le := fun (x y : R) => decide (x.1 ≤ y.1)) (fun a b c h1 h2 => by simp at *; omega) (fun a b => by simp; omega) l
  have := h.srt p (s.imp (fun h => by simpa using h))
  exact ⟨_, p, this⟩
theorem run_len {x : R} (h : Okr x) : ((runL x).length : Int) = x.2 := by
  unfold runL
  unfold Okr at h
  simp
  omega
def sum2 (l : List R) : Int := (l.map (·.2)).sum
theorem sum2_perm {l l' : List R} (h : l.Perm l') : sum2 l = sum2 l' := by
  unfold sum2
  induction h with
  | nil => rfl
  | cons x _ ih => simp [ih]
  | swap x y _ => simp; omega
  | trans _ _ a b => exact a.trans b
theorem exp_len : ∀ {ls : List R}, (∀ x ∈ ls, Okr x) → ((expd ls).length : Int) = sum2 ls
  | [], _ => rfl
  | x :: ls, h => by
    have a := run_len (h x (by simp))
    have b := exp_len (ls := ls) (fun y hy => h y (by simp [hy]))
    rw [exp_cons, List.length_append]
    show _ = sum2 (x :: ls)
    unfold sum2 at *
    simp
    omega
theorem Rep.len {l : List R} {L : List Int} (h : Rep l L) : (L.length : Int) = sum2 l := by
  obtain ⟨ls, p, s, e⟩ := h.sort
  rw [e, exp_len s.ok, sum2_perm p]
theorem Rep.bound {l : List R} {L : List Int} (h : Rep l L) {n : Int} (hn : n ∈ L) : 0 ≤ n ∧ n < 18446744073709551615 := by
  obtain ⟨x, hx, i⟩ := (h.mem n).1 hn
  have := h.ok x hx
  unfold Okr at this
  unfold In at i
  omega
/-- a number more -/
theorem Rep.put {l rest l' : List R} {L L' : List Int} {n : Int} (h : Rep l L) (h0 : 0 ≤ n) (h1 : n < 18446744073709551615) (hn : n ∉ L) (hs : L'.Pairwise (· < ·)) (hm : ∀ m, m ∈ L' ↔ m = n ∨ m ∈ L)
    (a b : List R) (ha : a = [] ∧ (∀ x ∈ l, x.1 + x.2 ≠ n) ∨ ∃ x, a = [x] ∧ x.1 + x.2 = n) (hb : b = [] ∧ (∀ x ∈ l, x.1 ≠ n + 1) ∨ ∃ x, b = [x] ∧ x.1 = n + 1)
    (hl : l.Perm (a ++ b ++ rest)) (hl' : l'.Perm ((n - sum2 a, sum2 a + 1 + sum2 b) :: rest)) : Rep l' L' := by
  have hr := h.perm hl
  have hnot : ∀ x ∈ a ++ b ++ rest, ¬ In n x := fun x hx i => hn ((hr.mem n).2 ⟨x, hx, i⟩)
  have hno1 : a = [] → ∀ x ∈ a ++ b ++ rest, x.1 + x.2 ≠ n := fun e x hx => by
    rcases ha with ⟨_, h2⟩ | ⟨y, e2, _⟩
    · exact h2 x (hl.mem_iff.2 hx)
    · rw [e] at e2; cases e2
  have hno2 : b = [] → ∀ x ∈ a ++ b ++ rest, x.1 ≠ n + 1 := fun e x hx => by
    rcases hb with ⟨_, h2⟩ | ⟨y, e2, _⟩
    · exact h2 x (hl.mem_iff.2 hx)
    · rw [e] at e2; cases e2
  refine Rep.perm (l := (n - sum2 a, sum2 a + 1 + sum2 b) :: rest) ?_ hl'.symm
  have ha' : a = [] ∨ ∃ x, a = [x] ∧ x.1 + x.2 = n := ha.elim (fun h => Or.inl h.1) Or.inr
  have hb' : b = [] ∨ ∃ x, b = [x] ∧ x.1 = n + 1 := hb.elim (fun h => Or.inl h.1) Or.inr
  clear ha hb hl hl' h
  have hok := hr.ok
  have hap := hr.apart
  have hmem := hr.mem
  have core : Okr (n - sum2 a, sum2 a + 1 + sum2 b) ∧ (∀ y ∈ rest, Apart (n - sum2 a, sum2 a + 1 + sum2 b) y) ∧ rest.Pairwise Apart ∧ (∀ m, In m (n - sum2 a, sum2 a + 1 + sum2 b) ↔ m = n ∨ ∃ x ∈ a ++ b, In m x) := by
    rcases ha' with rfl | ⟨x, rfl, hx⟩
    · rcases hb' with rfl | ⟨y, rfl, hy⟩
      · have e1 := hno1 rfl
        have e2 := hno2 rfl
        simp only [List.nil_append] at *
        refine ⟨by unfold Okr sum2; simp; omega, fun y hy => ?_, hap, fun m => by unfold In sum2; simp; omega⟩
        have a1 := hnot y hy
        have a2 := e1 y hy
        have a3 := e2 y hy
        have a4 := hok y hy
        unfold Apart sum2
        unfold In at a1
        unfold Okr at a4
        simp
        omega
      · have e1 := hno1 rfl
        simp only [List.nil_append, List.cons_append] at *
        have hy' := hok y (by simp)
        have hp := List.pairwise_cons.1 hap
        unfold Okr at hy'
        refine ⟨by unfold Okr sum2; simp; omega, fun z hz => ?_, hp.2, fun m => by unfold In sum2; simp; omega⟩
        have a1 := hnot z (by simp [hz])
        have a2 := e1 z (by simp [hz])
        have a4 := hok z (by simp [hz])
        have a5 := hp.1 z hz
        unfold Apart sum2
        unfold Apart at a5
        unfold In at a1
        unfold Okr at a4
        simp
        omega
    · have hx' := hok x (by simp)
      unfold Okr at hx'
      rcases hb' with rfl | ⟨y, rfl, hy⟩
      · have e2 := hno2 rfl
        simp only [List.append_nil, List.cons_append, List.nil_append] at *
        have hp := List.pairwise_cons.1 hap
        refine ⟨by unfold Okr sum2; simp; omega, fun z hz => ?_, hp.2, fun m => by unfold In sum2; simp; omega⟩
        have a1 := hnot z (by simp [hz])
        have a3 := e2 z (by simp [hz])
        have a4 := hok z (by simp [hz])
        have a5 := hp.1 z hz
        unfold Apart sum2
        unfold Apart at a5
        unfold In at a1
        unfold Okr at a4
        simp
        omega
      · simp only [List.cons_append, List.nil_append] at *
        have hp := List.pairwise_cons.1 hap
        have hp2 := List.pairwise_cons.1 hp.2
        have hy' := hok y (by simp)
        unfold Okr at hy'
        refine ⟨by unfold Okr sum2; simp; omega, fun z hz => ?_, hp2.2, fun m => by unfold In sum2; simp; omega⟩
        have a1 := hnot z (by simp [hz])
        have a4 := hok z (by simp [hz])
        have a5 := hp.1 z (by simp [hz])
        have a6 := hp2.1 z hz
        unfold Apart sum2
        unfold Apart at a5 a6
        unfold In at a1
        unfold Okr at a4
        simp
        omega
  obtain ⟨c1, c2, c3, c4⟩ := core
  refine ⟨fun x hx => ?_, List.pairwise_cons.2 ⟨c2, c3⟩, hs, fun m => ?_⟩
  · rcases List.mem_cons.1 hx with rfl | hx
    · exact c1
    · exact hok x (by simp [hx])
  · rw [hm m, hmem m]
    constructor
    · rintro (e | ⟨x, hx, i⟩)
      · exact ⟨_, by simp, (c4 m).2 (Or.inl e)⟩
      · rw [List.mem_append] at hx
        rcases hx with hx | hx
        · exact ⟨_, by simp, (c4 m).2 (Or.inr ⟨x, hx, i⟩)⟩
        · exact ⟨x, by simp [hx], i⟩
    · rintro ⟨x, hx, i⟩
      rcases List.mem_cons.1 hx with rfl | hx
      · rcases (c4 m).1 i with e | ⟨y, hy, i⟩
        · exact Or.inl e
        · exact Or.inr ⟨y, by simp only [List.mem_append] at hy ⊢; exact Or.inl hy, i⟩
      · exact Or.inr ⟨x, by simp [hx], i⟩
end Go.Proofs.Ytlgbendncgboiaa.Gm
