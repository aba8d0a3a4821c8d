/- gap: two heaps of the same numbers; what is taken and put back. -/
import Derived.Test.YtlgbendncgboiaaGapAllMath
namespace Go.Proofs.Ytlgbendncgboiaa.Gm

theorem exp_inj : ∀ {a b : List R}, Srt a → Srt b → expd a = expd b → a = b
  | [], [], _, _, _ => rfl
  | [], y :: b, _, hb, h => by
    obtain ⟨t, ht⟩ := exp_head (ls := b) (hb.ok y (by simp))
    rw [ht] at h
    cases h
  | x :: a, [], ha, _, h => by
    obtain ⟨t, ht⟩ := exp_head (ls := a) (ha.ok x (by simp))
    rw [ht] at h
    cases h
  | x :: a, y :: b, ha, hb, h => by
    have h2 := lng_exp ha
    have h3 := lng_exp hb
    rw [h] at h2
    have e2 : x.2 = y.2 := h2.symm.trans h3
    obtain ⟨t, ht⟩ := exp_head (ls := a) (ha.ok x (by simp))
    obtain ⟨u, hu⟩ := exp_head (ls := b) (hb.ok y (by simp))
    have e1 : x.1 = y.1 := by
      have h4 := h
      rw [ht, hu] at h4
      injection h4
    have exy : x = y := Prod.ext e1 e2
    subst exy
    rw [exp_cons, exp_cons] at h
    have := List.append_cancel_left h
    rw [exp_inj ⟨fun z hz => ha.ok z (by simp [hz]), (List.pairwise_cons.1 ha.rise).2⟩ ⟨fun z hz => hb.ok z (by simp [hz]), (List.pairwise_cons.1 hb.rise).2⟩ this]
theorem exp_ne {x : R} {ls : List R} (h : Srt (x :: ls)) : expd (x :: ls) ≠ [] := by
  obtain ⟨t, ht⟩ := exp_head (ls := ls) (h.ok x (by simp))
  rw [ht]
  exact List.cons_ne_nil _ _
/-- what is left when some of the lowest run are taken -/
theorem mem_drop {x : R} {ls : List R} (h : Srt (x :: ls)) (m : Nat) (hm : (m : Int) ≤ x.2) (n : Int) : n ∈ (expd (x :: ls)).drop m ↔ n ∈ expd (x :: ls) ∧ x.1 + (m : Int) ≤ n := by
  have hok := h.ok x (by simp)
  have hl := run_len hok
  have hr := List.pairwise_cons.1 h.rise
  have hlow : ∀ k ∈ expd ls, x.1 + x.2 < k := fun k hk => by
    obtain ⟨y, hy, hi⟩ := mem_exp.1 hk
    have := hr.1 y hy
    unfold In at hi
    omega
  rw [exp_cons, List.drop_append_of_le_length (by omega), List.mem_append, List.mem_append, show x = (x.1, x.2) from rfl, run_drop m x.1 x.2 hm, mem_run, mem_run]
  unfold In
  dsimp only
  constructor
  · rintro (h1 | h1)
    · exact ⟨Or.inl ⟨by omega, by omega⟩, h1.1⟩
    · exact ⟨Or.inr h1, by have := hlow n h1; omega⟩
  · rintro ⟨h1 | h1, h2⟩
    · exact Or.inl ⟨h2, by omega⟩
    · exact Or.inr h1
/-- what lies in a row of numbers, but the greatest -/
def Of (zs : List Int) (n : Nat) (L : List Int) : Prop := ∀ m, m ∈ L ↔ m ≠ 18446744073709551615 ∧ ∃ j, j < n ∧ zs.getD j 0 = m
theorem of_zero (zs : List Int) : Of zs 0 [] := fun m => ⟨fun h => (by cases h), fun h => (by obtain ⟨_, j, hj, _⟩ := h; omega)⟩
theorem Of.put {zs : List Int} {n : Nat} {L : List Int} (h : Of zs n L) : Of zs (n + 1) (putS (zs.getD n 0) L) := fun m => by
  by_cases ht : zs.getD n 0 = 18446744073709551615
  · have e : putS (zs.getD n 0) L = L := by unfold putS; rw [if_pos (Or.inl ht)]
    rw [e, h m]
    constructor
    · rintro ⟨h1, j, h2, h3⟩; exact ⟨h1, j, by omega, h3⟩
    · rintro ⟨h1, j, h2, h3⟩
      refine ⟨h1, j, ?_, h3⟩
      by_cases e2 : j = n
      · subst e2; exact absurd (h3.symm.trans ht) h1
      · omega
  · rw [mem_putS ht, h m]
    constructor
    · rintro (e | ⟨h1, j, h2, h3⟩)
      · exact ⟨by rw [e]; exact ht, n, by omega, e.symm⟩
      · exact ⟨h1, j, by omega, h3⟩
    · rintro ⟨h1, j, h2, h3⟩
      by_cases e2 : j = n
      · subst e2; exact Or.inl h3.symm
      · exact Or.inr ⟨h1, j, by omega, h3⟩
/-- .. the other way round -/
def OfR (zs : List Int) (len n : Nat) (L : List Int) : Prop := ∀ m, m ∈ L ↔ m ≠ 18446744073709551615 ∧ ∃ j, j < n ∧ zs.getD (len - 1 - j) 0 = m
theorem ofR_zero (zs : List Int) (len : Nat) : OfR zs len 0 [] := fun m => ⟨fun h => (by cases h), fun h => (by obtain ⟨_, j, hj, _⟩ := h; omega)⟩
theorem OfR.put {zs : List Int} {len n : Nat} {L : List Int} (h : OfR zs len n L) : OfR zs len (n + 1) (putS (zs.getD (len - 1 - n) 0) L) := fun m => by
  by_cases ht : zs.getD (len - 1 - n) 0 = 18446744073709551615
  · have e : putS (zs.getD (len - 1 - n) 0) L = L := by unfold putS; rw [if_pos (Or.inl ht)]
    rw [e, h m]
    constructor
    · rintro ⟨h1, j, h2, h3⟩; exact ⟨h1, j, by omega, h3⟩
    · rintro ⟨h1, j, h2, h3⟩
      refine ⟨h1, j, ?_, h3⟩
      by_cases e2 : j = n
      · subst e2; exact absurd (h3.symm.trans ht) h1
      · omega
  · rw [mem_putS ht, h m]
    constructor
    · rintro (e | ⟨h1, j, h2, h3⟩)
      · exact ⟨by rw [e]; exact ht, n, by omega, e.symm⟩
      · exact ⟨h1, j, by omega, h3⟩
    · rintro ⟨h1, j, h2, h3⟩
      by_cases e2 : j = n
      · subst e2; exact Or.inl h3.symm
      · exact Or.inr ⟨h1, j, by omega, h3⟩
theorem of_same {zs : List Int} {len : Nat} {L M : List Int} (h : Of zs len L) (k : OfR zs len len M) (hL : L.Pairwise (· < ·)) (hM : M.Pairwise (· < ·)) : L = M := by
  refine rise_eq hL hM fun m => ?_
  rw [h m, k m]
  constructor
  · rintro ⟨h1, j, h2, h3⟩; exact ⟨h1, len - 1 - j, by omega, by rw [show len - 1 - (len - 1 - j) = j by omega]; exact h3⟩
  · rintro ⟨h1, j, h2, h3⟩; exact ⟨h1, len - 1 - j, by omega, h3⟩
/-- so many of the taken ones are back -/
structure Back (x : R) (L : List Int) (many i : Nat) (M : List Int) : Prop where
  rise : M.Pairwise (· < ·)
  mem : ∀ n, n ∈ M ↔ n ∈ L ∧ (x.1 + (many : Int) ≤ n ∨ n < x.1 + (i : Int))
theorem Back.start {x : R} {ls : List R} (h : Srt (x :: ls)) (m : Nat) (hm : (m : Int) ≤ x.2) : Back x (expd (x :: ls)) m 0 ((expd (x :: ls)).drop m) := by
  refine ⟨List.Pairwise.sublist (List.drop_sublist _ _) (exp_rise h), fun n => ?_⟩
  rw [mem_drop h m hm]
  constructor
  · rintro ⟨h1, h2⟩; exact ⟨h1, Or.inl h2⟩
  · rintro ⟨h1, h2 | h2⟩
    · exact ⟨h1, h2⟩
    · exfalso
      obtain ⟨y, hy, hi⟩ := mem_exp.1 h1
      have hr := List.pairwise_cons.1 h.rise
      have hok := h.ok x (by simp)
      unfold Okr at hok
      unfold In at hi
      rcases List.mem_cons.1 hy with rfl | hy
      · omega
      · have := hr.1 y hy; omega
theorem Back.in_ {x : R} {ls : List R} (i : Nat) (hi : (i : Int) < x.2) : x.1 + (i : Int) ∈ expd (x :: ls) := mem_exp.2 ⟨x, by simp, by unfold In; omega⟩
theorem Back.not {x : R} {L M : List Int} {m i : Nat} (b : Back x L m i M) (hi : i < m) : x.1 + (i : Int) ∉ M := fun h => by
  have := ((b.mem _).1 h).2
  omega
theorem Back.step {x : R} {L M : List Int} {m i : Nat} (b : Back x L m i M) (hi : i < m) (hL : x.1 + (i : Int) ∈ L) (ht : x.1 + (i : Int) ≠ 18446744073709551615) : putC (x.1 + (i : Int)) M = 0 ∧ Back x L m (i + 1) (putS (x.1 + (i : Int)) M) := by
  have hn := b.not hi
  refine ⟨by unfold putC; rw [if_neg ht, if_neg hn], ?_, fun n => ?_⟩
  · unfold putS
    rw [if_neg (by rintro (e | e); exact ht e; exact hn e)]
    exact putL_rise b.rise hn
  · rw [mem_putS ht, b.mem]
    constructor
    · rintro (rfl | ⟨h1, h2⟩)
      · exact ⟨hL, by omega⟩
      · exact ⟨h1, by omega⟩
    · rintro ⟨h1, h2⟩
      by_cases e : n = x.1 + (i : Int)
      · exact Or.inl e
      · exact Or.inr ⟨h1, by omega⟩
theorem Back.done {x : R} {L M : List Int} {m : Nat} (b : Back x L m m M) (hL : L.Pairwise (· < ·)) : M = L := rise_eq b.rise hL fun n => by
  rw [b.mem]
  constructor
  · rintro ⟨h1, _⟩; exact h1
  · intro h1; exact ⟨h1, by omega⟩
end Go.Proofs.Ytlgbendncgboiaa.Gm
