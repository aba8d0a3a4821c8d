import Derived.Test.YtpkkomifenlkaaaGreatGapM
/- gap: how many runs there are. -/
namespace Go.Proofs.YtpkkomifenlkaaaGreat.Gm

theorem putS_len (n : Int) (L : List Int) : (putS n L).length ≤ L.length + 1 := by
  unfold putS
  split
  · omega
  · rw [putL_len]; omega
theorem mem_putS {n : Int} {L : List Int} (hn : n ≠ 18446744073709551615) (m : Int) : m ∈ putS n L ↔ m = n ∨ m ∈ L := by
  unfold putS
  split
  · rename_i h
    rcases h with h | h
    · exact absurd h hn
    · exact ⟨Or.inr, fun h2 => h2.elim (fun e => e ▸ h) id⟩
  · exact mem_putL n m L
def cnt (p : Nat → Bool) (k : Nat) : Nat := ((List.range k).filter p).length
theorem cnt_succ (p : Nat → Bool) (k : Nat) : cnt p (k + 1) = cnt p k + if p k then 1 else 0 := by
  unfold cnt
  rw [List.range_succ, List.filter_append, List.length_append]
  congr 1
  cases h : p k <;> simp [h]
theorem cnt_le (p : Nat → Bool) (k : Nat) : cnt p k ≤ k := by
  unfold cnt
  have := List.length_filter_le p (List.range k)
  simpa using this
/-- one run for each number whose predecessor is missing -/
theorem starts_len : ∀ {ls : List R}, Srt ls → ((expd ls).filter (fun n => decide (n - 1 ∉ expd ls))).length = ls.length
  | [], _ => rfl
  | x :: ls, h => by
    have hr := List.pairwise_cons.1 h.rise
    have hs : Srt ls := ⟨fun y hy => h.ok y (by simp [hy]), hr.2⟩
    have hx := h.ok x (by simp)
    have hlow : ∀ m ∈ expd ls, x.1 + x.2 < m := fun m hm => by
      obtain ⟨y, hy, hi⟩ := mem_exp.1 hm
      have := hr.1 y hy
      unfold In at hi
      omega
    have ih := starts_len hs
    rw [exp_cons, List.filter_append, List.length_append]
    have e1 : ((expd ls).filter (fun n => decide (n - 1 ∉ runL x ++ expd ls))) = (expd ls).filter (fun n => decide (n - 1 ∉ expd ls)) := by
      apply List.filter_congr
      intro m hm
      have h1 := hlow m hm
      rw [decide_eq_decide, List.mem_append]
      constructor
      · intro h2 h3; exact h2 (Or.inr h3)
      · rintro h2 (h3 | h3)
        · rw [mem_run] at h3; unfold In at h3; omega
        · exact h2 h3
    rw [e1, ih]
    have e2 : (runL x).filter (fun n => decide (n - 1 ∉ runL x ++ expd ls)) = [x.1] := by
      obtain ⟨a, k⟩ := x
      unfold Okr at hx
      dsimp only at *
      have hc : ∃ t, runL (a, k) = a :: t ∧ ∀ m ∈ t, m - 1 ∈ runL (a, k) := by
        by_cases e : k = 1
        · subst e; exact ⟨[], run_one a, fun m hm => by cases hm⟩
        · refine ⟨_, run_cons (by omega), fun m hm => ?_⟩
          rw [mem_run] at hm ⊢
          unfold In at *
          dsimp only at *
          omega
      obtain ⟨t, ht, htm⟩ := hc
      have hp : decide (a - 1 ∉ runL (a, k) ++ expd ls) = true := by
        rw [decide_eq_true_iff, List.mem_append]
        rintro (h3 | h3)
        · rw [mem_run] at h3; unfold In at h3; dsimp only at h3; omega
        · have := hlow _ h3; omega
      conv => lhs; arg 2; rw [ht]
      rw [List.filter_cons, if_pos hp]
      congr 1
      rw [List.filter_eq_nil_iff]
      intro m hm
      simp only [decide_eq_true_eq, Classical.not_not]
      exact List.mem_append_left _ (htm m hm)
    rw [e2]
    simp
    omega
/-- the numbers of a row of places -/
theorem all_eq {f : Int} {S : Nat → Bool} {L : List Int} {n : Nat} (hs : L.Pairwise (· < ·)) (hm : ∀ m, m ∈ L ↔ ∃ j, j < n ∧ S j = true ∧ m = f + (j : Int)) : L = ((List.range n).filter S).map (fun (j : Nat) => f + (j : Int)) := by
  refine rise_eq hs ?_ fun m => ?_
  · rw [List.pairwise_map]
    exact (List.Pairwise.filter _ List.pairwise_lt_range).imp (fun h => by omega)
  · rw [hm]
    simp only [List.mem_map, List.mem_filter, List.mem_range]
    constructor
    · rintro ⟨j, h1, h2, h3⟩; exact ⟨j, ⟨h1, h2⟩, h3.symm⟩
    · rintro ⟨j, ⟨h1, h2⟩, h3⟩; exact ⟨j, h1, h2, h3.symm⟩
theorem all_len {f : Int} {S : Nat → Bool} {L : List Int} {n : Nat} (hs : L.Pairwise (· < ·)) (hm : ∀ m, m ∈ L ↔ ∃ j, j < n ∧ S j = true ∧ m = f + (j : Int)) : L.length = cnt S n := by
  rw [all_eq hs hm]
  simp [cnt]
def startB (S : Nat → Bool) (j : Nat) : Bool := S j && !(decide (0 < j) && S (j - 1))
theorem all_runs {f : Int} {S : Nat → Bool} {ls : List R} {n : Nat} (h : Srt ls) (hm : ∀ m, m ∈ expd ls ↔ ∃ j, j < n ∧ S j = true ∧ m = f + (j : Int)) : ls.length = cnt (startB S) n := by
  rw [← starts_len h]
  have e := all_eq (exp_rise h) hm
  conv => lhs; arg 1; arg 2; rw [e]
  rw [List.filter_map, List.length_map, List.filter_filter]
  unfold cnt
  congr 1
  apply List.filter_congr
  intro j hj
  rw [List.mem_range] at hj
  unfold startB
  rw [Bool.and_comm]
  congr 1
  show decide (f + (j : Int) - 1 ∉ expd ls) = _
  rw [show (!(decide (0 < j) && S (j - 1))) = decide ((!(decide (0 < j) && S (j - 1))) = true) from Bool.decide_eq_true.symm, decide_eq_decide, hm]
  constructor
  · intro h2
    cases hS : S (j - 1) with
    | false => simp
    | true =>
      by_cases h0 : 0 < j
      · exact absurd ⟨j - 1, by omega, hS, by omega⟩ h2
      · simp [h0]
  · rintro h2 ⟨i, hi, hSi, he⟩
    have h3 : j - 1 = i := by omega
    have h4 : 0 < j := by omega
    rw [h3, hSi] at h2
    simp [h4] at h2
end Go.Proofs.YtpkkomifenlkaaaGreat.Gm
