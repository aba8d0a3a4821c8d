/- gap: what a heap of runs keeps. -/
import Derived.Test.YtlgbendncgboiaaCommon
namespace Go.Proofs.Ytlgbendncgboiaa.Gm

abbrev R := Int × Int
def key (l : List R) (k : Nat) : Int := (l.getD k (0, 0)).1
def sw (l : List R) (i j : Nat) : List R := (l.set i (l.getD j (0, 0))).set j (l.getD i (0, 0))
theorem sw_len (l : List R) (i j : Nat) : (sw l i j).length = l.length := by simp [sw]
theorem key_sw (l : List R) (i j k : Nat) (hi : i < l.length) (hj : j < l.length) : key (sw l i j) k = if k = j then key l i else if k = i then key l j else key l k := by
  unfold key sw
  simp only [List.getD_eq_getElem?_getD, List.getElem?_set]
  by_cases h1 : j = k
  · subst h1
    simp [hj, hi]
  · by_cases h2 : i = k
    · subst h2
      have h1' : ¬ i = j := fun e => h1 e.symm
      simp [h1, h1', hi]
    · have h1' : ¬ k = j := fun e => h1 e.symm
      have h2' : ¬ k = i := fun e => h2 e.symm
      simp [h1, h2, h1', h2']
theorem set_perm (l : List R) (i : Nat) (x y : R) (h : l[i]? = some y) : (y :: l.set i x).Perm (x :: l) := by
  induction l generalizing i with
  | nil => cases h
  | cons a l ih =>
    cases i with
    | zero =>
      have : a = y := by simpa using h
      subst this
      exact List.Perm.swap _ _ _
    | succ i =>
      have h' : l[i]? = some y := by simpa using h
      exact ((List.Perm.swap _ _ _).trans ((ih i h').cons a)).trans (List.Perm.swap _ _ _)
theorem sw_perm (l : List R) (i j : Nat) (hi : i < l.length) (hj : j < l.length) : (sw l i j).Perm l := by
  have e1 : l.getD i (0, 0) = l[i] := by simp [hi]
  have e2 : l.getD j (0, 0) = l[j] := by simp [hj]
  unfold sw
  rw [e1, e2]
  have p1 := set_perm l i l[j] l[i] (List.getElem?_eq_getElem hi)
  by_cases h : i = j
  · subst h
    have : (l.set i l[i]).set i l[i] = l := by simp
    rw [this]
  · have h2 : (l.set i l[j])[j]? = some l[j] := by rw [List.getElem?_set]; simp [h, hj]
    have p2 := set_perm (l.set i l[j]) j l[i] l[j] h2
    -- l[j] :: l' ~ l[i] :: l.set i l[j] ~ l[j] :: l
    exact (List.perm_cons _).1 (p2.trans p1)
def Hp (n : Nat) (l : List R) : Prop := ∀ k, 0 < k → k < n → key l ((k - 1) / 2) ≤ key l k
def UpI (n j : Nat) (l : List R) : Prop := (∀ k, 0 < k → k < n → k ≠ j → key l ((k - 1) / 2) ≤ key l k) ∧ (∀ k, 0 < k → k < n → (k - 1) / 2 = j → 0 < j → key l ((j - 1) / 2) ≤ key l k)
def DnI (n i : Nat) (l : List R) : Prop := (∀ k, 0 < k → k < n → k ≠ i → (k - 1) / 2 ≠ i → key l ((k - 1) / 2) ≤ key l k) ∧ (∀ k, 0 < k → k < n → (k - 1) / 2 = i → 0 < i → key l ((i - 1) / 2) ≤ key l k)
theorem up_zero {n : Nat} {l : List R} (h : UpI n 0 l) : Hp n l := fun k h0 hk => h.1 k h0 hk (by omega)
theorem up_stop {n j : Nat} {l : List R} (h : UpI n j l) (hj : ¬ key l j < key l ((j - 1) / 2)) : Hp n l := fun k h0 hk => by
  by_cases e : k = j
  · subst e; omega
  · exact h.1 k h0 hk e
theorem up_step {n j p : Nat} {l : List R} (h : UpI n j l) (ep : (j - 1) / 2 = p) (h0 : 0 < j) (hj : j < n) (hn : n ≤ l.length) (hlt : key l j < key l p) : UpI n p (sw l p j) := by
  have hp : p < j := by omega
  have K := fun k => key_sw l p j k (by omega) (by omega)
  generalize sw l p j = m at *
  have hpp : 0 < p → key l ((p - 1) / 2) ≤ key l p := fun p0 => h.1 p p0 (by omega) (by omega)
  refine ⟨fun k k0 kn kp => ?_, fun k k0 kn kp p0 => ?_⟩
  · rw [K k, K ((k - 1) / 2)]
    by_cases e : k = j
    · rw [if_pos e, if_neg (by omega : ¬ (k - 1) / 2 = j), if_pos (by omega : (k - 1) / 2 = p)]
      omega
    · rw [if_neg e, if_neg kp]
      have a := h.1 k k0 kn e
      by_cases e2 : (k - 1) / 2 = j
      · rw [if_pos e2]
        have := h.2 k k0 kn e2 h0
        rwa [ep] at this
      · rw [if_neg e2]
        by_cases e3 : (k - 1) / 2 = p
        · rw [if_pos e3]
          rw [e3] at a
          omega
        · rw [if_neg e3]
          exact a
  · rw [K k, K ((p - 1) / 2), if_neg (by omega), if_neg (by omega)]
    have := hpp p0
    by_cases e : k = j
    · rw [if_pos e]; exact this
    · rw [if_neg e, if_neg (by omega)]
      have a := h.1 k k0 kn e
      rw [kp] at a
      omega
theorem up_still {n i : Nat} {l : List R} (h : DnI n i l) (hc : ∀ k, 0 < k → k < n → (k - 1) / 2 = i → key l i ≤ key l k) : UpI n i l :=
  ⟨fun k k0 kn ki => by
    by_cases e : (k - 1) / 2 = i
    · rw [e]; exact hc k k0 kn e
    · exact h.1 k k0 kn ki e, h.2⟩
theorem dn_done {n i : Nat} {l : List R} (h : DnI n i l) (hc : ∀ k, 0 < k → k < n → (k - 1) / 2 = i → key l i ≤ key l k) (hp : 0 < i → i < n → key l ((i - 1) / 2) ≤ key l i) : Hp n l := fun k k0 kn => by
  by_cases e : k = i
  · subst e; exact hp k0 kn
  · exact (up_still h hc).1 k k0 kn e
theorem dn_step {n i j : Nat} {l : List R} (h : DnI n i l) (ep : (j - 1) / 2 = i) (h0 : 0 < j) (hj : j < n) (hn : n ≤ l.length) (hlt : key l j < key l i) (hs : ∀ k, 0 < k → k < n → (k - 1) / 2 = i → key l j ≤ key l k) :
    DnI n j (sw l i j) ∧ key (sw l i j) i ≤ key (sw l i j) j := by
  have K := fun k => key_sw l i j k (by omega) (by omega)
  generalize sw l i j = m at *
  have hij : i < j := by omega
  refine ⟨⟨fun k k0 kn kj kp => ?_, fun k k0 kn kp j0 => ?_⟩, ?_⟩
  · rw [K k, K ((k - 1) / 2), if_neg kj, if_neg kp]
    by_cases e : k = i
    · rw [if_pos e, if_neg (by omega)]
      have := h.2 j h0 hj ep (by omega)
      rw [e]
      exact this
    · rw [if_neg e]
      by_cases e2 : (k - 1) / 2 = i
      · rw [if_pos e2]; exact hs k k0 kn e2
      · rw [if_neg e2]; exact h.1 k k0 kn e e2
  · rw [K k, K ((j - 1) / 2), if_neg (by omega), if_pos (by omega), if_neg (by omega), if_neg (by omega)]
    have := h.1 k k0 kn (by omega) (by omega)
    rw [kp] at this
    exact this
  · rw [K i, K j, if_pos rfl, if_pos rfl, if_neg (by omega)]
    omega
/-- the last one to the place i, and the hole's below n -/
theorem dn_start {n i : Nat} {l : List R} (h : Hp (n + 1) l) (hi : i < n) (hn : l.length = n + 1) : DnI n i (sw l i n) := by
  have K := fun k => key_sw l i n k (by omega) (by omega)
  generalize sw l i n = m at *
  refine ⟨fun k k0 kn ki kp => ?_, fun k k0 kn kp i0 => ?_⟩
  · rw [K k, K ((k - 1) / 2), if_neg (by omega), if_neg kp, if_neg (by omega), if_neg ki]
    exact h k k0 (by omega)
  · rw [K k, K ((i - 1) / 2), if_neg (by omega), if_neg (by omega), if_neg (by omega), if_neg (by omega)]
    have a := h k k0 (by omega)
    have b := h i i0 (by omega)
    rw [kp] at a
    omega
theorem key_app (l : List R) (x : R) (k : Nat) (h : k < l.length) : key (l ++ [x]) k = key l k := by
  unfold key
  simp [List.getD_eq_getElem?_getD, List.getElem?_append_left h]
theorem hp_pop {l : List R} {x : R} (h : Hp l.length (l ++ [x])) : Hp l.length l := fun k k0 kn => by
  have := h k k0 kn
  rwa [key_app l x k kn, key_app l x _ (by omega)] at this
theorem hp_less {n m : Nat} {l : List R} (h : Hp n l) (hm : m ≤ n) : Hp m l := fun k k0 kn => h k k0 (by omega)
theorem up_push {l : List R} (x : R) (h : Hp l.length l) : UpI (l.length + 1) l.length (l ++ [x]) := by
  refine ⟨fun k k0 kn ki => ?_, fun k k0 kn kp i0 => by omega⟩
  rw [key_app l x k (by omega), key_app l x _ (by omega)]
  exact h k k0 (by omega)
theorem hp_low {l : List R} (h : Hp l.length l) : ∀ k, k < l.length → key l 0 ≤ key l k := by
  intro k
  induction k using Nat.strongRecOn with
  | _ k ih =>
    intro hk
    by_cases e : k = 0
    · subst e; omega
    · have a := h k (by omega) hk
      have b := ih ((k - 1) / 2) (by omega) (by omega)
      omega
theorem key_mem {l : List R} (h : Hp l.length l) : ∀ x ∈ l, key l 0 ≤ x.1 := fun x hx => by
  obtain ⟨k, hk, rfl⟩ := List.mem_iff_getElem.1 hx
  have := hp_low h k hk
  have e : key l k = l[k].1 := by unfold key; simp [List.getD_eq_getElem?_getD, hk]
  rwa [e] at this
/-- a list that ends -/
theorem last_of {l : List R} {n : Nat} (h : l.length = n + 1) : ∃ l' x, l = l' ++ [x] ∧ l'.length = n ∧ x = l.getD n (0, 0) := by
  have hne : l ≠ [] := by intro e; subst e; cases h
  refine ⟨l.dropLast, l.getLast hne, (List.dropLast_concat_getLast hne).symm, by simp [h], ?_⟩
  rw [List.getLast_eq_getElem, List.getD_eq_getElem?_getD]
  simp [h]
theorem sw_last {l : List R} {n i : Nat} (h : l.length = n + 1) : (sw l i n).getD n (0, 0) = l.getD i (0, 0) := by
  unfold sw
  simp [List.getD_eq_getElem?_getD, h]
end Go.Proofs.Ytlgbendncgboiaa.Gm
