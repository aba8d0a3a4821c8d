/- gap: what a number more, what numbers taken leave. -/
import Derived.Test.YtlgbendncgboiaaGapRunMath
namespace Go.Proofs.Ytlgbendncgboiaa.Gm

def putL (n : Int) (L : List Int) : List Int := L.takeWhile (fun m => decide (m < n)) ++ n :: L.dropWhile (fun m => decide (m < n))
def putC (n : Int) (L : List Int) : Int := if n = 18446744073709551615 then 5 else if n ∈ L then 7 else 0
def putS (n : Int) (L : List Int) : List Int := if n = 18446744073709551615 ∨ n ∈ L then L else putL n L
theorem mem_putL (n m : Int) (L : List Int) : m ∈ putL n L ↔ m = n ∨ m ∈ L := by
  have e : m ∈ L ↔ m ∈ L.takeWhile (fun m => decide (m < n)) ∨ m ∈ L.dropWhile (fun m => decide (m < n)) := by
    rw [← List.mem_append, List.takeWhile_append_dropWhile]
  unfold putL
  rw [List.mem_append, List.mem_cons, e]
  constructor
  · rintro (h | h | h)
    · exact Or.inr (Or.inl h)
    · exact Or.inl h
    · exact Or.inr (Or.inr h)
  · rintro (h | h | h)
    · exact Or.inr (Or.inl h)
    · exact Or.inl h
    · exact Or.inr (Or.inr h)
theorem dropWhile_ge (n : Int) : ∀ {L : List Int}, L.Pairwise (· < ·) → ∀ m ∈ L.dropWhile (fun m => decide (m < n)), n ≤ m
  | [], _, m, h => by cases h
  | x :: L, hs, m, h => by
    have hs' := List.pairwise_cons.1 hs
    rw [List.dropWhile_cons] at h
    by_cases e : x < n
    · rw [if_pos (by simpa using e)] at h
      exact dropWhile_ge n hs'.2 m h
    · rw [if_neg (by simpa using e)] at h
      rcases List.mem_cons.1 h with rfl | h
      · omega
      · have := hs'.1 m h; omega
theorem takeWhile_lt (n : Int) : ∀ {L : List Int}, ∀ m ∈ L.takeWhile (fun m => decide (m < n)), m < n
  | [], m, h => by cases h
  | x :: L, m, h => by
    rw [List.takeWhile_cons] at h
    by_cases e : x < n
    · rw [if_pos (by simpa using e)] at h
      rcases List.mem_cons.1 h with rfl | h
      · exact e
      · exact takeWhile_lt n m h
    · rw [if_neg (by simpa using e)] at h
      cases h
theorem putL_rise {n : Int} {L : List Int} (hs : L.Pairwise (· < ·)) (hn : n ∉ L) : (putL n L).Pairwise (· < ·) := by
  unfold putL
  have e := List.takeWhile_append_dropWhile (p := fun m => decide (m < n)) (l := L)
  have h2 : (L.takeWhile (fun m => decide (m < n))).Pairwise (· < ·) ∧ (L.dropWhile (fun m => decide (m < n))).Pairwise (· < ·) := by
    rw [← e] at hs
    rw [List.pairwise_append] at hs
    exact ⟨hs.1, hs.2.1⟩
  have hlt : ∀ m ∈ L.dropWhile (fun m => decide (m < n)), n < m := fun m hm => by
    have h3 := dropWhile_ge n hs m hm
    have h4 : m ∈ L := by rw [← e]; exact List.mem_append_right _ hm
    have : m ≠ n := fun h => hn (h ▸ h4)
    omega
  rw [List.pairwise_append]
  refine ⟨h2.1, List.pairwise_cons.2 ⟨hlt, h2.2⟩, fun a ha b hb => ?_⟩
  have h5 := takeWhile_lt n a ha
  rcases List.mem_cons.1 hb with rfl | hb
  · exact h5
  · have := hlt b hb; omega
theorem putL_len (n : Int) (L : List Int) : (putL n L).length = L.length + 1 := by
  have e := congrArg List.length (List.takeWhile_append_dropWhile (p := fun m => decide (m < n)) (l := L))
  rw [List.length_append] at e
  unfold putL
  rw [List.length_append, List.length_cons]
  omega
theorem Rep.put_ok {l rest l' : List R} {L : List Int} {n : Int} (h : Rep l L) (h0 : 0 ≤ n) (h1 : n < 18446744073709551615) (hn : n ∉ L)
    (a b : List R) (ha : a = [] ∧ (∀ x ∈ l, x.1 + x.2 ≠ n) ∨ ∃ x, a = [x] ∧ x.1 + x.2 = n) (hb : b = [] ∧ (∀ x ∈ l, x.1 ≠ n + 1) ∨ ∃ x, b = [x] ∧ x.1 = n + 1)
    (hl : l.Perm (a ++ b ++ rest)) (hl' : l'.Perm ((n - sum2 a, sum2 a + 1 + sum2 b) :: rest)) : Rep l' (putL n L) :=
  h.put h0 h1 hn (putL_rise h.sorted hn) (fun m => mem_putL n m L) a b ha hb hl hl'
theorem Rep.few {l : List R} {L : List Int} (h : Rep l L) : l.length ≤ L.length := by
  have e := h.len
  have : ∀ (l : List R), (∀ x ∈ l, Okr x) → (l.length : Int) ≤ sum2 l := by
    intro l
    induction l with
    | nil => intro _; exact Int.le_refl _
    | cons x l ih =>
      intro h
      have a := ih (fun y hy => h y (by simp [hy]))
      have b := h x (by simp)
      unfold Okr at b
      unfold sum2 at *
      simp
      omega
  have := this l h.ok
  omega
/-- how many stand one behind the other, from the first one on -/
def lng : List Int → Nat
  | [] => 0
  | [_] => 1
  | a :: b :: r => if b - a = 1 then lng (b :: r) + 1 else 1
theorem run_cons {a k : Int} (hk : 2 ≤ k) : runL (a, k) = a :: runL (a + 1, k - 1) := by
  obtain ⟨n, rfl⟩ : ∃ n : Nat, k = (n : Int) + 1 := ⟨(k - 1).toNat, by omega⟩
  unfold runL
  have e1 : ((n : Int) + 1).toNat = n + 1 := by omega
  have e2 : ((n : Int) + 1 - 1).toNat = n := by omega
  simp only [e1, e2]
  rw [List.range_succ_eq_map, List.map_cons, List.map_map]
  congr 1
  · simp
  · apply List.map_congr_left
    intro i _
    simp
    omega
theorem run_one (a : Int) : runL (a, 1) = [a] := by simp [runL]
theorem lng_run : ∀ (k : Nat) (a : Int) (r : List Int), (∀ m ∈ r.head?, m ≠ a + (k : Int) + 1) → lng (runL (a, (k : Int) + 1) ++ r) = k + 1
  | 0, a, r, h => by
    rw [show ((0 : Nat) : Int) + 1 = 1 by omega, run_one]
    cases r with
    | nil => rfl
    | cons b r =>
      show (if b - a = 1 then _ else 1) = _
      have := h b (by simp)
      rw [if_neg (by omega)]
  | k + 1, a, r, h => by
    have ih := lng_run k (a + 1) r (fun m hm => by have := h m hm; omega)
    rw [run_cons (by omega), show ((k + 1 : Nat) : Int) + 1 - 1 = (k : Int) + 1 by omega]
    have e : ∃ t, runL (a + 1, (k : Int) + 1) ++ r = (a + 1) :: t := by
      by_cases hk : k = 0
      · subst hk; rw [show ((0 : Nat) : Int) + 1 = 1 by omega, run_one]; exact ⟨_, rfl⟩
      · rw [run_cons (by omega)]; exact ⟨_, rfl⟩
    obtain ⟨t, ht⟩ := e
    rw [List.cons_append, ht]
    rw [ht] at ih
    show (if a + 1 - a = 1 then lng ((a + 1) :: t) + 1 else 1) = _
    rw [if_pos (by omega), ih]
theorem exp_head {x : R} {ls : List R} (hx : Okr x) : ∃ t, expd (x :: ls) = x.1 :: t := by
  obtain ⟨a, k⟩ := x
  unfold Okr at hx
  dsimp only at *
  rw [exp_cons]
  by_cases hk : k = 1
  · subst hk; rw [run_one]; exact ⟨_, rfl⟩
  · rw [run_cons (by omega)]; exact ⟨_, rfl⟩
theorem lng_exp {x : R} {ls : List R} (h : Srt (x :: ls)) : (lng (expd (x :: ls)) : Int) = x.2 := by
  have hx := h.ok x (by simp)
  have hr := List.pairwise_cons.1 h.rise
  rw [exp_cons]
  obtain ⟨a, k⟩ := x
  unfold Okr at hx
  dsimp only at *
  obtain ⟨n, rfl⟩ : ∃ n : Nat, k = (n : Int) + 1 := ⟨(k - 1).toNat, by omega⟩
  rw [lng_run]
  · omega
  · intro m hm
    cases ls with
    | nil => cases hm
    | cons y ls =>
      obtain ⟨t, ht⟩ := exp_head (ls := ls) (h.ok y (by simp))
      rw [ht] at hm
      have := hr.1 y (by simp)
      simp at hm
      omega
/-- the first numbers of a run taken -/
theorem run_drop : ∀ (m : Nat) (a k : Int), (m : Int) ≤ k → (runL (a, k)).drop m = runL (a + m, k - m) := by
  intro m a k hm
  obtain ⟨n, rfl⟩ : ∃ n : Nat, k = (n : Int) + m := ⟨(k - m).toNat, by omega⟩
  unfold runL
  have e1 : ((n : Int) + (m : Int)).toNat = m + n := by omega
  have e2 : ((n : Int) + (m : Int) - (m : Int)).toNat = n := by omega
  simp only [e1, e2]
  rw [← List.map_drop, List.range_add, List.drop_left' (by simp), List.map_map]
  apply List.map_congr_left
  intro i _
  simp
  omega
theorem srt_sub {x y : R} {ls : List R} (h : Srt (x :: ls)) (h1 : Okr y) (h2 : y.1 + y.2 = x.1 + x.2) : Srt (y :: ls) := by
  have hr := List.pairwise_cons.1 h.rise
  refine ⟨fun z hz => ?_, List.pairwise_cons.2 ⟨fun z hz => by have := hr.1 z hz; omega, hr.2⟩⟩
  rcases List.mem_cons.1 hz with rfl | hz
  · exact h1
  · exact h.ok z (by simp [hz])
theorem Srt.rep {ls : List R} (h : Srt ls) : Rep ls (expd ls) :=
  ⟨h.ok, h.rise.imp (fun h => Or.inl h), exp_rise h, fun _ => mem_exp⟩
/-- the lowest run stands first among the rising ones -/
theorem Rep.first {l rest : List R} {x : R} {L : List Int} (h : Rep l L) (p : (x :: rest).Perm l) (hx : ∀ y ∈ l, x.1 ≤ y.1) : ∃ ls, ls.Perm rest ∧ Srt (x :: ls) ∧ L = expd (x :: ls) := by
  have q := List.mergeSort_perm rest (fun x y => decide (x.1 ≤ y.1))
  have s := List.pairwise_mergeSort (le := fun (x y : R) => decide (x.1 ≤ y.1)) (fun a b c h1 h2 => by simp at *; omega) (fun a b => by simp; omega) rest
  refine ⟨_, q, h.srt ((q.cons x).trans p) (List.pairwise_cons.2 ⟨fun y hy => hx y (p.mem_iff.1 (by simp [q.mem_iff.1 hy])), s.imp (fun h => by simpa using h)⟩)⟩
/-- a whole run taken -/
theorem Rep.take_all {l rest : List R} {x : R} {L : List Int} (h : Rep l L) (p : (x :: rest).Perm l) (hx : ∀ y ∈ l, x.1 ≤ y.1) : (lng L : Int) = x.2 ∧ L.head? = some x.1 ∧ Rep rest (L.drop x.2.toNat) := by
  obtain ⟨ls, q, s, rfl⟩ := h.first p hx
  have hok := s.ok x (by simp)
  refine ⟨lng_exp s, by obtain ⟨t, ht⟩ := exp_head (ls := ls) hok; rw [ht]; rfl, ?_⟩
  have e : (expd (x :: ls)).drop x.2.toNat = expd ls := by
    have := run_len hok
    rw [exp_cons]
    exact List.drop_left' (by omega)
  rw [e]
  exact (Srt.rep ⟨fun y hy => s.ok y (by simp [hy]), (List.pairwise_cons.1 s.rise).2⟩).perm q
/-- some of a run taken -/
theorem Rep.take_some {l rest : List R} {x : R} {L : List Int} (h : Rep l L) (p : (x :: rest).Perm l) (hx : ∀ y ∈ l, x.1 ≤ y.1) (m : Nat) (hm : (m : Int) < x.2) : Rep ((x.1 + m, x.2 - m) :: rest) (L.drop m) := by
  obtain ⟨ls, q, s, rfl⟩ := h.first p hx
  have hok := s.ok x (by simp)
  have e : (expd (x :: ls)).drop m = expd ((x.1 + m, x.2 - m) :: ls) := by
    have := run_len hok
    rw [exp_cons, List.drop_append_of_le_length (by omega), exp_cons]
    congr 1
    exact run_drop m x.1 x.2 (by omega)
  rw [e]
  unfold Okr at hok
  exact (srt_sub s (by unfold Okr; dsimp only; omega) (by dsimp only; omega)).rep.perm (q.cons _)
end Go.Proofs.Ytlgbendncgboiaa.Gm
