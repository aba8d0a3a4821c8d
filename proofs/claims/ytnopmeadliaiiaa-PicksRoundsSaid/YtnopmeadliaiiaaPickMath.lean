/- Orders of things, and their numbers: the arithmetic. -/
import Derived.Test.YtnopmeadliaiiaaPicks
namespace Go.Proofs.Ytnopmeadliaiiaa.Picks
open Go.RowKit

/-- The order of a number, of what is left. -/
def arr : Nat → List Int → Nat → List Int
  | 0, _, _ => []
  | n + 1, l, k => l.getD (k / fact n) 0 :: arr n (l.eraseIdx (k / fact n)) (k % fact n)
/-- Where a number stands first. -/
def ix : List Int → Int → Option Nat
  | [], _ => none
  | y :: l, x => if y = x then some 0 else (ix l x).map (· + 1)
/-- The number of an order, of what is left. -/
def num : List Int → List Int → Option Nat
  | _, [] => some 0
  | rest, x :: o => match ix rest x with
    | none => none
    | some k => (num (rest.eraseIdx k) o).map (k * fact o.length + ·)

theorem ix_hit : ∀ (l : List Int) (x : Int) (k : Nat), k < l.length → l.getD k 0 = x → (∀ j, j < k → l.getD j 0 ≠ x) → ix l x = some k
  | [], _, k, h, _, _ => absurd h (by simp)
  | y :: l, x, 0, _, h, _ => by
    have : y = x := by simpa using h
    simp [ix, this]
  | y :: l, x, k + 1, h, h1, h2 => by
    have hy : y ≠ x := by simpa using h2 0 (by omega)
    rw [ix, if_neg hy, ix_hit l x k (by simpa using h) (by simpa using h1) (fun j hj => by simpa using h2 (j + 1) (by omega))]
    rfl
theorem ix_none : ∀ (l : List Int) (x : Int), x ∉ l → ix l x = none
  | [], _, _ => rfl
  | y :: l, x, h => by
    simp at h
    rw [ix, if_neg (fun e => h.1 e.symm), ix_none l x h.2]
    rfl
theorem ix_some : ∀ (l : List Int) (x : Int) (k : Nat), ix l x = some k → ∃ h : k < l.length, l[k] = x
  | [], _, _, h => by simp [ix] at h
  | y :: l, x, k, h => by
    rw [ix] at h
    by_cases e : y = x
    · rw [if_pos e] at h
      injection h with h
      subst h
      exact ⟨by simp, by simpa using e⟩
    · rw [if_neg e] at h
      cases hx : ix l x with
      | none => rw [hx] at h; cases h
      | some j =>
        rw [hx] at h
        simp at h
        subst h
        obtain ⟨h1, h2⟩ := ix_some l x j hx
        exact ⟨by simp; omega, by simpa using h2⟩
theorem ix_mem {l : List Int} {x : Int} (h : x ∈ l) : ∃ k, ix l x = some k := by
  induction l with
  | nil => simp at h
  | cons y l ih =>
    rw [ix]
    by_cases e : y = x
    · exact ⟨0, by rw [if_pos e]⟩
    · obtain ⟨k, hk⟩ := ih (by simp at h; rcases h with h | h; exact absurd h.symm e; exact h)
      exact ⟨k + 1, by rw [if_neg e, hk]; rfl⟩

theorem div_lt {n k : Nat} (h : k < fact (n + 1)) : k / fact n < n + 1 := by
  rw [Nat.div_lt_iff_lt_mul (fact_pos n), Nat.mul_comm]
  exact h

/-- What is first in its row, of rows whose numbers are all others. -/
theorem ix_nodup {l : List Int} (hn : l.Nodup) (k : Nat) (h : k < l.length) : ix l (l.getD k 0) = some k := by
  refine ix_hit l _ k h rfl fun j hj e => ?_
  rw [List.getD_eq_getElem?_getD, List.getD_eq_getElem?_getD, List.getElem?_eq_getElem h, List.getElem?_eq_getElem (by omega)] at e
  have := (List.getElem_inj hn (i := j) (j := k)).1 (by simpa using e)
  omega

theorem arr_len : ∀ (n : Nat) (l : List Int) (k : Nat), (arr n l k).length = n
  | 0, _, _ => rfl
  | n + 1, l, k => by rw [arr, List.length_cons, arr_len n]
theorem num_arr : ∀ (n : Nat) (l : List Int) (k : Nat), l.Nodup → l.length = n → k < fact n → num l (arr n l k) = some k
  | 0, l, k, _, _, hk => by
    have : k = 0 := by simp [fact] at hk; exact hk
    subst this
    rfl
  | n + 1, l, k, hn, hl, hk => by
    have hd := div_lt hk
    rw [arr, num, ix_nodup hn _ (by omega)]
    simp only
    rw [num_arr n _ _ (hn.sublist (List.eraseIdx_sublist _ _)) (by rw [List.length_eraseIdx_of_lt (by omega)]; omega) (Nat.mod_lt _ (fact_pos n)), arr_len]
    simp only [Option.map_some]
    congr 1
    have := Nat.div_add_mod k (fact n)
    rw [Nat.mul_comm] at this
    exact this

theorem num_lt : ∀ (o l : List Int) (m : Nat), l.length = o.length → num l o = some m → m < fact o.length ∧ arr o.length l m = o
  | [], l, m, _, h => by
    simp [num] at h
    subst h
    exact ⟨by simp [fact], rfl⟩
  | x :: o, l, m, hl, h => by
    rw [num] at h
    cases hx : ix l x with
    | none => rw [hx] at h; cases h
    | some k =>
      rw [hx] at h
      simp only at h
      obtain ⟨hk, he⟩ := ix_some l x k hx
      cases hm : num (l.eraseIdx k) o with
      | none => rw [hm] at h; cases h
      | some m' =>
        rw [hm] at h
        simp only [Option.map_some, Option.some.injEq] at h
        simp only [List.length_cons] at hl
        obtain ⟨h1, h2⟩ := num_lt o (l.eraseIdx k) m' (by rw [List.length_eraseIdx_of_lt hk]; omega) hm
        have hdiv : m / fact o.length = k := by
          rw [← h, Nat.add_comm, Nat.add_mul_div_right _ _ (fact_pos _), Nat.div_eq_of_lt h1, Nat.zero_add]
        have hmod : m % fact o.length = m' := by
          rw [← h, Nat.add_comm, Nat.add_mul_mod_self_right, Nat.mod_eq_of_lt h1]
        refine ⟨?_, ?_⟩
        · rw [List.length_cons, fact, ← h]
          have : k * fact o.length + fact o.length ≤ fact o.length * (o.length + 1) := by
            rw [Nat.mul_comm k, ← Nat.mul_succ]
            exact Nat.mul_le_mul_left _ (by omega)
          omega
        · rw [List.length_cons, arr, hdiv, hmod, h2, List.getD_eq_getElem?_getD, List.getElem?_eq_getElem hk]
          simp [he]

/-- 0, 1, .. -/
def iota (n : Nat) : List Int := (List.range n).map fun (i : Nat) => (i : Int)
theorem iota_len (n : Nat) : (iota n).length = n := by simp [iota]
theorem iota_nodup (n : Nat) : (iota n).Nodup := by
  unfold iota
  refine List.Pairwise.map _ (fun a b h => ?_) List.nodup_range
  intro e
  exact h (by omega)
theorem iota_mem {n : Nat} {x : Int} : x ∈ iota n ↔ 0 ≤ x ∧ x < n := by
  simp only [iota, List.mem_map, List.mem_range]
  constructor
  · rintro ⟨i, hi, rfl⟩; omega
  · rintro ⟨h0, h1⟩; exact ⟨x.toNat, by omega, by omega⟩

theorem cons_erase : ∀ (l : List Int) (k : Nat) (h : k < l.length), (l[k] :: l.eraseIdx k).Perm l
  | [], _, h => absurd h (by simp)
  | y :: l, 0, _ => by simp
  | y :: l, k + 1, h => by
    have := cons_erase l k (by simpa using h)
    simp only [List.getElem_cons_succ, List.eraseIdx_cons_succ]
    exact (List.Perm.swap y _ _).trans (this.cons y)

theorem num_perm : ∀ (o l : List Int) (m : Nat), l.length = o.length → num l o = some m → l.Perm o
  | [], l, _, hl, _ => by
    have : l = [] := List.eq_nil_of_length_eq_zero (by simpa using hl)
    rw [this]
  | x :: o, l, m, hl, h => by
    rw [num] at h
    cases hx : ix l x with
    | none => rw [hx] at h; cases h
    | some k =>
      rw [hx] at h
      simp only at h
      obtain ⟨hk, he⟩ := ix_some l x k hx
      cases hm : num (l.eraseIdx k) o with
      | none => rw [hm] at h; cases h
      | some m' =>
        have h1 := num_perm o (l.eraseIdx k) m' (by rw [List.length_eraseIdx_of_lt hk]; simp at hl; omega) hm
        have h2 : (l[k] :: l.eraseIdx k).Perm l := cons_erase l k hk
        rw [he] at h2
        exact h2.symm.trans (h1.cons x)

theorem sub_len : ∀ (l o : List Int), l.Nodup → (∀ x ∈ l, x ∈ o) → l.length ≤ o.length
  | [], _, _, _ => by simp
  | a :: l, o, hn, hs => by
    have ha : a ∈ o := hs a (by simp)
    have hn' := List.nodup_cons.1 hn
    have := sub_len l (o.erase a) hn'.2 (fun x hx => (List.mem_erase_of_ne (show x ≠ a from fun e => hn'.1 (by rw [← e]; exact hx))).2 (hs x (by simp [hx])))
    rw [List.length_erase_of_mem ha] at this
    have := List.length_pos_of_mem ha
    simp only [List.length_cons]
    omega
theorem num_of : ∀ (o l : List Int), l.Nodup → l.length = o.length → (∀ x ∈ l, x ∈ o) → ∃ m, num l o = some m
  | [], _, _, _, _ => ⟨0, rfl⟩
  | x :: o, l, hn, hl, hs => by
    have hx : x ∈ l := by
      refine Classical.byContradiction fun hx => ?_
      have := sub_len l o hn (fun y hy => by
        have := hs y hy
        simp at this
        rcases this with h | h
        · exact absurd (h ▸ hy) hx
        · exact h)
      simp at hl
      omega
    obtain ⟨k, hk⟩ := ix_mem hx
    obtain ⟨hkl, he⟩ := ix_some l x k hk
    have h2 : (l[k] :: l.eraseIdx k).Perm l := cons_erase l k hkl
    have hnd := List.nodup_cons.1 (h2.nodup_iff.2 hn)
    obtain ⟨m, hm⟩ := num_of o (l.eraseIdx k) hnd.2 (by rw [List.length_eraseIdx_of_lt hkl]; simp at hl; omega) (fun y hy => by
      have hy' : y ∈ l := h2.subset (by simp [hy])
      have := hs y hy'
      simp at this
      rcases this with h | h
      · rw [he] at hnd
        exact absurd (h ▸ hy) hnd.1
      · exact h)
    exact ⟨_, by rw [num, hk]; simp only; rw [hm]; rfl⟩

/-- Is it an order of at most 12 things? -/
def isL (l : List Int) : Bool := decide (l.length ≤ 12 ∧ ∀ x ∈ iota l.length, l.count x = 1)
theorem isL_iff {l : List Int} (h : l.length ≤ 12) : isL l = true ↔ ∃ m, num (iota l.length) l = some m := by
  unfold isL
  rw [decide_eq_true_iff]
  constructor
  · rintro ⟨_, hc⟩
    exact num_of l _ (iota_nodup _) (iota_len _) (fun x hx => List.count_pos_iff.1 (by rw [hc x hx]; decide))
  · rintro ⟨m, hm⟩
    refine ⟨h, fun x hx => ?_⟩
    have hp := num_perm l _ m (iota_len _) hm
    rw [← hp.count_eq, (iota_nodup _).count, if_pos hx]
end Go.Proofs.Ytnopmeadliaiiaa.Picks
