import Derived.Test.YtpkkomifenlkaaaGreatCommon
/- gap: what a heap of runs keeps. -/
namespace Go.Proofs.YtpkkomifenlkaaaGreat.Gm

abbrev R := Int × Int
def key (l : List R) (k : Nat) : Int := (l.getD k (0, 0)).1
def sw (l : List R) (i j : Nat) : List R := (l.set i (l.getD j (0, 0))).set j (l.getD i (0, 0))
theorem sw_len (l : List R) (i j : Nat) : (sw l i j).length = l.length := by simp [sw]
theorem key_sw (l : List R) (i j k : Nat) (hi : i < l.length) (hj : j < l.length) : key (sw l i j) k = if k = j then key l i else if k = i then key l j else key l k := by
  unfold key sw
  simp only [List.getD_eq_getElem?_getD, List.getElem?_set]
  by_cases h1 : j = k
  · subst h1
    simp [hj, hi]
  · by_cases h2 : i = k
    · subst h2
      have h1' : ¬ i = j := fun e => h1 e.symm
      simp [h1, h1', hi]
    · have h1' : ¬ k = j := fun e => h1 e.symm
      have h2' : ¬ k = i := fun e => h2 e.symm
      simp [h1, h2, h1', h2']
theorem set_perm (l : List R) (i : Nat) (x y : R) (h : l[i]? = some y) : (y :: l.set i x).Perm (x :: l) := by
  induction l generalizing i with
  | nil => cases h
  | cons a l ih =>
    cases i with
    | zero =>
      have : a = y := by simpa using h
      subst this
      exact List.Perm.swap _ _ _
    | succ i =>
      have h' : l[i]? = some y := by simpa using h
      exact ((List.Perm.swap _ _ _).trans ((ih i h').cons a)).trans (List.Perm.swap _ _ _)
theorem sw_perm (l : List R) (i j : Nat) (hi : i < l.length) (hj : j < l.length) : (sw l i j).Perm l := by
  have e1 : l.getD i (0, 0) = l[i] := by simp [hi]
  have e2 : l.getD j (0, 0) = l[j] := by simp [hj]
  unfold sw
  rw [e1, e2]
  have p1 := set_perm l i l[j] l[i] (List.getElem?_eq_getElem hi)
  by_cases h : i = j
  · subst h
    have : (l.set i l[i]).set i l[i] = l := by simp
    rw [this]
  · have h2 : (l.set i l[j])[j]? = some l[j] := by rw [List.getElem?_set]; simp [h, hj]
    have p2 := set_perm (l.set i l[j]) j l[i] l[j] h2
    -- l[j] :: l' ~ l[i] :: l.set i l[j] ~ l[j] :: l
    exact (List.perm_cons _).1 (p2.trans p1)
def Hp (n : Nat) (l : List R) : Prop := ∀ k, 0 < k → k < n → key l ((k - 1) / 2) ≤ key l k
def UpI (n j : Nat) (l : List R) : Prop := (∀ k, 0 < k → k < n → k ≠ j → key l ((k - 1) / 2) ≤ key l k) ∧ (∀ k, 0 < k → k < n → (k - 1) / 2 = j → 0 < j → key l ((j - 1) / 2) ≤ key l k)
def DnI (n i : Nat) (l : List R) : Prop := (∀ k, 0 < k → k < n → k ≠ i → (k - 1) / 2 ≠ i → key l ((k - 1) / 2) ≤ key l k) ∧ (∀ k, 0 < k → k < n → (k - 1) / 2 = i → 0 < i → key l ((i - 1) / 2) ≤ key l k)
theorem up_zero {n : Nat} {l : List R} (h : UpI n 0 l) : Hp n l := fun k h0 hk => h.1 k h0 hk (by omega)
theorem up_stop {n j : Nat} {l : List R} (h : UpI n j l) (hj : ¬ key l j < key l ((j - 1) / 2)) : Hp n l := fun k h0 hk => by
  by_cases e : k = j
  · subst e; omega
  · exact h.1 k h0 hk e
theorem up_step {n j p : Nat} {l : List R} (h : UpI n j l) (ep : (j - 1) / 2 = p) (h0 : 0 < j) (hj : j < n) (hn : n ≤ l.length) (hlt : key l j < key l p) : UpI n p (sw l p j) := by
  have hp : p < j := by omega
  have K := fun k => key_sw l p j k (by omega) (by omega)
  generalize sw l p j = m at *
  have hpp : 0 < p → key l ((p - 1) / 2) ≤ key l p := fun p0 => h.1 p p0 (by omega) (by omega)
  refine ⟨fun k k0 kn kp => ?_, fun k k0 kn kp p0 => ?_⟩
  · rw [K k, K ((k - 1) / 2)]
    by_cases e : k = j
    · rw [if_pos e, if_neg (by omega : ¬ (k - 1) / 2 = j), if_pos (by omega : (k - 1) / 2 = p)]
      omega
    · rw [if_neg e, if_neg kp]
      have a := h.1 k k0 kn e
      by_cases e2 : (k - 1) / 2 = j
      · rw [if_pos e2]
        have := h.2 k k0 kn e2 h0
        rwa [ep] at this
      · rw [if_neg e2]
        by_cases e3 : (k - 1) / 2 = p
        · rw [if_pos e3]
          rw [e3] at a
          omega
        · rw [if_neg e3]
          exact a
  · rw [K k, K ((p - 1) / 2), if_neg (by omega), if_neg (by omega)]
    have := hpp p0
    by_cases e : k = j
    · rw [if_pos e]; exact this
    · rw [if_neg e, if_neg (by omega)]
      have a := h.1 k k0 kn e
      rw [kp] at a
      omega
theorem up_still {n i : Nat} {l : List R} (h : DnI n i l) (hc : ∀ k, 0 < k → k < n → (k - 1) / 2 = i → key l i ≤ key l k) : UpI n i l :=
  ⟨fun k k0 kn ki => by
    by_cases e : (k - 1) / 2 = i
    · rw [e]; exact hc k k0 kn e
    · exact h.1 k k0 kn ki e, h.2⟩
theorem dn_done {n i : Nat} {l : List R} (h : DnI n i l) (hc : ∀ k, 0 < k → k < n → (k - 1) / 2 = i → key l i ≤ key l k) (hp : 0 < i → i < n → key l ((i - 1) / 2) ≤ key l i) : Hp n l := fun k k0 kn => by
  by_cases e : k = i
  · subst e; exact hp k0 kn
  · exact (up_still h hc).1 k k0 kn e
theorem dn_step {n i j : Nat} {l : List R} (h : DnI n i l) (ep : (j - 1) / 2 = i) (h0 : 0 < j) (hj : j < n) (hn : n ≤ l.length) (hlt : key l j < key l i) (hs : ∀ k, 0 < k → k < n → (k - 1) / 2 = i → key l j ≤ key l k) :
    DnI n j (sw l i j) ∧ key (sw l i j) i ≤ key (sw l i j) j := by
  have K := fun k => key_sw l i j k (by omega) (by omega)
  generalize sw l i j = m at *
  have hij : i < j := by omega
  refine ⟨⟨fun k k0 kn kj kp => ?_, fun k k0 kn kp j0 => ?_⟩, ?_⟩
  · rw [K k, K ((k - 1) / 2), if_neg kj, if_neg kp]
    by_cases e : k = i
    · rw [if_pos e, if_neg (by omega)]
      have := h.2 j h0 hj ep (by omega)
      rw [e]
      exact this
    · rw [if_neg e]
      by_cases e2 : (k - 1) / 2 = i
      · rw [if_pos e2]; exact hs k k0 kn e2
      · rw [if_neg e2]; exact h.1 k k0 kn e e2
  · rw [K k, K ((j - 1) / 2), if_neg (by omega), if_pos (by omega), if_neg (by omega), if_neg (by omega)]
    have := h.1 k k0 kn (by omega) (by omega)
    rw [kp] at this
    exact this
  · rw [K i, K j, if_pos rfl, if_pos rfl, if_neg (by omega)]
    omega
/-- the last one to the place i, and the hole's below n -/
theorem dn_start {n i : Nat} {l : List R} (h : Hp (n + 1) l) (hi : i < n) (hn : l.length = n + 1) : DnI n i (sw l i n) := by
  have K := fun k => key_sw l i n k (by omega) (by omega)
  generalize sw l i n = m at *
  refine ⟨fun k k0 kn ki kp => ?_, fun k k0 kn kp i0 => ?_⟩
  · rw [K k, K ((k - 1) / 2), if_neg (by omega), if_neg kp, if_neg (by omega), if_neg ki]
    exact h k k0 (by omega)
  · rw [K k, K ((i - 1) / 2), if_neg (by omega), if_neg (by omega), if_neg (by omega), if_neg (by omega)]
    have a := h k k0 (by omega)
    have b := h i i0 (by omega)
    rw [kp] at a
    omega
theorem key_app (l : List R) (x : R) (k : Nat) (h : k < l.length) : key (l ++ [x]) k = key l k := by
  unfold key
  simp [List.getD_eq_getElem?_getD, List.getElem?_append_left h]
theorem hp_pop {l : List R} {x : R} (h : Hp l.length (l ++ [x])) : Hp l.length l := fun k k0 kn => by
  have := h k k0 kn
  rwa [key_app l x k kn, key_app l x _ (by omega)] at this
theorem hp_less {n m : Nat} {l : List R} (h : Hp n l) (hm : m ≤ n) : Hp m l := fun k k0 kn => h k k0 (by omega)
theorem up_push {l : List R} (x : R) (h : Hp l.length l) : UpI (l.length + 1) l.length (l ++ [x]) := by
  refine ⟨fun k k0 kn ki => ?_, fun k k0 kn kp i0 => by omega⟩
  rw [key_app l x k (by omega), key_app l x _ (by omega)]
  exact h k k0 (by omega)
theorem hp_low {l : List R} (h : Hp l.length l) : ∀ k, k < l.length → key l 0 ≤ key l k := by
  intro k
  induction k using Nat.strongRecOn with
  | _ k ih =>
    intro hk
    by_cases e : k = 0
    · subst e; omega
    · have a := h k (by omega) hk
      have b := ih ((k - 1) / 2) (by omega) (by omega)
      omega
theorem key_mem {l : List R} (h : Hp l.length l) : ∀ x ∈ l, key l 0 ≤ x.1 := fun x hx => by
  obtain ⟨k, hk, rfl⟩ := List.mem_iff_getElem.1 hx
  have := hp_low h k hk
  have e : key l k = l[k].1 := by unfold key; simp [List.getD_eq_getElem?_getD, hk]
  rwa [e] at this
/-- a list that ends -/
theorem last_of {l : List R} {n : Nat} (h : l.length = n + 1) : ∃ l' x, l = l' ++ [x] ∧ l'.length = n ∧ x = l.getD n (0, 0) := by
  have hne : l ≠ [] := by intro e; subst e; cases h
  refine ⟨l.dropLast, l.getLast hne, (List.dropLast_concat_getLast hne).symm, by simp [h], ?_⟩
  rw [List.getLast_eq_getElem, List.getD_eq_getElem?_getD]
  simp [h]
theorem sw_last {l : List R} {n i : Nat} (h : l.length = n + 1) : (sw l i n).getD n (0, 0) = l.getD i (0, 0) := by
  unfold sw
  simp [List.getD_eq_getElem?_getD, h]
end Go.Proofs.YtpkkomifenlkaaaGreat.Gm
/- gap: runs and the numbers that they stand for. -/
namespace Go.Proofs.YtpkkomifenlkaaaGreat.Gm
def Okr (x : R) : Prop := 0 ≤ x.1 ∧ 1 ≤ x.2 ∧ x.1 + x.2 ≤ 18446744073709551615
def Apart (x y : R) : Prop := x.1 + x.2 < y.1 ∨ y.1 + y.2 < x.1
def In (n : Int) (x : R) : Prop := x.1 ≤ n ∧ n < x.1 + x.2
structure Rep (l : List R) (L : List Int) : Prop where
  ok : ∀ x ∈ l, Okr x
  apart : l.Pairwise Apart
  sorted : L.Pairwise (· < ·)
  mem : ∀ n, n ∈ L ↔ ∃ x ∈ l, In n x
theorem apart_symm {x y : R} (h : Apart x y) : Apart y x := Or.symm h
theorem Rep.perm {l l' : List R} {L : List Int} (h : Rep l L) (p : l.Perm l') : Rep l' L :=
  ⟨fun x hx => h.ok x (p.mem_iff.2 hx), (p.pairwise_iff (fun h => apart_symm h)).1 h.apart, h.sorted, fun n => (h.mem n).trans ⟨fun ⟨x, hx, i⟩ => ⟨x, p.mem_iff.1 hx, i⟩, fun ⟨x, hx, i⟩ => ⟨x, p.mem_iff.2 hx, i⟩⟩⟩
theorem Rep.nil : Rep [] [] := by
  refine ⟨fun _ h => ?_, List.Pairwise.nil, List.Pairwise.nil, fun n => ⟨fun h => ?_, fun h => ?_⟩⟩
  · cases h
  · cases h
  · obtain ⟨x, h, _⟩ := h
    cases h
/-- strictly rising lists with the same members are one -/
theorem rise_eq : ∀ {a b : List Int}, a.Pairwise (· < ·) → b.Pairwise (· < ·) → (∀ n, n ∈ a ↔ n ∈ b) → a = b
  | [], [], _, _, _ => rfl
  | [], y :: b, _, _, h => by have := (h y).2 (by simp); cases this
  | x :: a, [], _, _, h => by have := (h x).1 (by simp); cases this
  | x :: a, y :: b, ha, hb, h => by
    have ha' := List.pairwise_cons.1 ha
    have hb' := List.pairwise_cons.1 hb
    have e : x = y := by
      have h1 := (h x).1 (by simp)
      have h2 := (h y).2 (by simp)
      rw [List.mem_cons] at h1 h2
      rcases h1 with h1 | h1
      · exact h1
      · rcases h2 with h2 | h2
        · exact h2.symm
        · have := ha'.1 y h2; have := hb'.1 x h1; omega
    subst e
    rw [rise_eq ha'.2 hb'.2 fun n => ?_]
    have := h n
    rw [List.mem_cons, List.mem_cons] at this
    constructor
    · intro hn
      rcases this.1 (Or.inr hn) with e | e
      · have := ha'.1 n hn; omega
      · exact e
    · intro hn
      rcases this.2 (Or.inr hn) with e | e
      · have := hb'.1 n hn; omega
      · exact e
/-- rising runs -/
structure Srt (ls : List R) : Prop where
  ok : ∀ x ∈ ls, Okr x
  rise : ls.Pairwise fun x y => x.1 + x.2 < y.1
def runL (x : R) : List Int := (List.range x.2.toNat).map fun (i : Nat) => x.1 + (i : Int)
def expd (ls : List R) : List Int := ls.flatMap runL
theorem mem_run {x : R} {n : Int} : n ∈ runL x ↔ In n x := by
  unfold runL In
  simp only [List.mem_map, List.mem_range]
  constructor
  · rintro ⟨i, hi, rfl⟩; omega
  · rintro ⟨h1, h2⟩; exact ⟨(n - x.1).toNat, by omega, by omega⟩
theorem mem_exp {ls : List R} {n : Int} : n ∈ expd ls ↔ ∃ x ∈ ls, In n x := by
  unfold expd
  simp only [List.mem_flatMap, mem_run]
theorem run_rise (x : R) : (runL x).Pairwise (· < ·) := by
  unfold runL
  rw [List.pairwise_map]
  exact List.pairwise_lt_range.imp (fun h => by omega)
theorem exp_cons (x : R) (ls : List R) : expd (x :: ls) = runL x ++ expd ls := rfl
theorem exp_rise : ∀ {ls : List R}, Srt ls → (expd ls).Pairwise (· < ·)
  | [], _ => List.Pairwise.nil
  | x :: ls, h => by
    have h' := List.pairwise_cons.1 h.rise
    rw [exp_cons, List.pairwise_append]
    refine ⟨run_rise x, exp_rise ⟨fun y hy => h.ok y (by simp [hy]), h'.2⟩, fun a ha b hb => ?_⟩
    rw [mem_run] at ha
    rw [mem_exp] at hb
    obtain ⟨y, hy, hb⟩ := hb
    have := h'.1 y hy
    unfold In at ha hb
    omega
/-- the rising runs of a heap -/
theorem Rep.srt {l ls : List R} {L : List Int} (h : Rep l L) (p : ls.Perm l) (hs : ls.Pairwise fun x y => x.1 ≤ y.1) : Srt ls ∧ L = expd ls := by
  have h' := h.perm p.symm
  have s : Srt ls := ⟨h'.ok, (List.Pairwise.and hs h'.apart).imp_of_mem (fun {x y} hx hy hxy => by
    have a := h'.ok x hx
    have b := h'.ok y hy
    obtain ⟨c, d⟩ := hxy
    unfold Apart at d
    unfold Okr at a b
    omega)⟩
  exact ⟨s, rise_eq h'.sorted (exp_rise s) fun n => (h'.mem n).trans mem_exp.symm⟩
theorem Rep.sort {l : List R} {L : List Int} (h : Rep l L) : ∃ ls, ls.Perm l ∧ Srt ls ∧ L = expd ls := by
  have p := List.mergeSort_perm l (fun x y => decide (x.1 ≤ y.1))
  have s := List.pairwise_mergeSort (le := fun (x y : R) => decide (x.1 ≤ y.1)) (fun a b c h1 h2 => by simp at *; omega) (fun a b => by simp; omega) l
  have := h.srt p (s.imp (fun h => by simpa using h))
  exact ⟨_, p, this⟩
theorem run_len {x : R} (h : Okr x) : ((runL x).length : Int) = x.2 := by
  unfold runL
  unfold Okr at h
  simp
  omega
def sum2 (l : List R) : Int := (l.map (·.2)).sum
theorem sum2_perm {l l' : List R} (h : l.Perm l') : sum2 l = sum2 l' := by
  unfold sum2
  induction h with
  | nil => rfl
  | cons x _ ih => simp [ih]
  | swap x y _ => simp; omega
  | trans _ _ a b => exact a.trans b
theorem exp_len : ∀ {ls : List R}, (∀ x ∈ ls, Okr x) → ((expd ls).length : Int) = sum2 ls
  | [], _ => rfl
  | x :: ls, h => by
    have a := run_len (h x (by simp))
    have b := exp_len (ls := ls) (fun y hy => h y (by simp [hy]))
    rw [exp_cons, List.length_append]
    show _ = sum2 (x :: ls)
    unfold sum2 at *
    simp
    omega
theorem Rep.len {l : List R} {L : List Int} (h : Rep l L) : (L.length : Int) = sum2 l := by
  obtain ⟨ls, p, s, e⟩ := h.sort
  rw [e, exp_len s.ok, sum2_perm p]
theorem Rep.bound {l : List R} {L : List Int} (h : Rep l L) {n : Int} (hn : n ∈ L) : 0 ≤ n ∧ n < 18446744073709551615 := by
  obtain ⟨x, hx, i⟩ := (h.mem n).1 hn
  have := h.ok x hx
  unfold Okr at this
  unfold In at i
  omega
/-- a number more -/
theorem Rep.put {l rest l' : List R} {L L' : List Int} {n : Int} (h : Rep l L) (h0 : 0 ≤ n) (h1 : n < 18446744073709551615) (hn : n ∉ L) (hs : L'.Pairwise (· < ·)) (hm : ∀ m, m ∈ L' ↔ m = n ∨ m ∈ L)
    (a b : List R) (ha : a = [] ∧ (∀ x ∈ l, x.1 + x.2 ≠ n) ∨ ∃ x, a = [x] ∧ x.1 + x.2 = n) (hb : b = [] ∧ (∀ x ∈ l, x.1 ≠ n + 1) ∨ ∃ x, b = [x] ∧ x.1 = n + 1)
    (hl : l.Perm (a ++ b ++ rest)) (hl' : l'.Perm ((n - sum2 a, sum2 a + 1 + sum2 b) :: rest)) : Rep l' L' := by
  have hr := h.perm hl
  have hnot : ∀ x ∈ a ++ b ++ rest, ¬ In n x := fun x hx i => hn ((hr.mem n).2 ⟨x, hx, i⟩)
  have hno1 : a = [] → ∀ x ∈ a ++ b ++ rest, x.1 + x.2 ≠ n := fun e x hx => by
    rcases ha with ⟨_, h2⟩ | ⟨y, e2, _⟩
    · exact h2 x (hl.mem_iff.2 hx)
    · rw [e] at e2; cases e2
  have hno2 : b = [] → ∀ x ∈ a ++ b ++ rest, x.1 ≠ n + 1 := fun e x hx => by
    rcases hb with ⟨_, h2⟩ | ⟨y, e2, _⟩
    · exact h2 x (hl.mem_iff.2 hx)
    · rw [e] at e2; cases e2
  refine Rep.perm (l := (n - sum2 a, sum2 a + 1 + sum2 b) :: rest) ?_ hl'.symm
  have ha' : a = [] ∨ ∃ x, a = [x] ∧ x.1 + x.2 = n := ha.elim (fun h => Or.inl h.1) Or.inr
  have hb' : b = [] ∨ ∃ x, b = [x] ∧ x.1 = n + 1 := hb.elim (fun h => Or.inl h.1) Or.inr
  clear ha hb hl hl' h
  have hok := hr.ok
  have hap := hr.apart
  have hmem := hr.mem
  have core : Okr (n - sum2 a, sum2 a + 1 + sum2 b) ∧ (∀ y ∈ rest, Apart (n - sum2 a, sum2 a + 1 + sum2 b) y) ∧ rest.Pairwise Apart ∧ (∀ m, In m (n - sum2 a, sum2 a + 1 + sum2 b) ↔ m = n ∨ ∃ x ∈ a ++ b, In m x) := by
    rcases ha' with rfl | ⟨x, rfl, hx⟩
    · rcases hb' with rfl | ⟨y, rfl, hy⟩
      · have e1 := hno1 rfl
        have e2 := hno2 rfl
        simp only [List.nil_append] at *
        refine ⟨by unfold Okr sum2; simp; omega, fun y hy => ?_, hap, fun m => by unfold In sum2; simp; omega⟩
        have a1 := hnot y hy
        have a2 := e1 y hy
        have a3 := e2 y hy
        have a4 := hok y hy
        unfold Apart sum2
        unfold In at a1
        unfold Okr at a4
        simp
        omega
      · have e1 := hno1 rfl
        simp only [List.nil_append, List.cons_append] at *
        have hy' := hok y (by simp)
        have hp := List.pairwise_cons.1 hap
        unfold Okr at hy'
        refine ⟨by unfold Okr sum2; simp; omega, fun z hz => ?_, hp.2, fun m => by unfold In sum2; simp; omega⟩
        have a1 := hnot z (by simp [hz])
        have a2 := e1 z (by simp [hz])
        have a4 := hok z (by simp [hz])
        have a5 := hp.1 z hz
        unfold Apart sum2
        unfold Apart at a5
        unfold In at a1
        unfold Okr at a4
        simp
        omega
    · have hx' := hok x (by simp)
      unfold Okr at hx'
      rcases hb' with rfl | ⟨y, rfl, hy⟩
      · have e2 := hno2 rfl
        simp only [List.append_nil, List.cons_append, List.nil_append] at *
        have hp := List.pairwise_cons.1 hap
        refine ⟨by unfold Okr sum2; simp; omega, fun z hz => ?_, hp.2, fun m => by unfold In sum2; simp; omega⟩
        have a1 := hnot z (by simp [hz])
        have a3 := e2 z (by simp [hz])
        have a4 := hok z (by simp [hz])
        have a5 := hp.1 z hz
        unfold Apart sum2
        unfold Apart at a5
        unfold In at a1
        unfold Okr at a4
        simp
        omega
      · simp only [List.cons_append, List.nil_append] at *
        have hp := List.pairwise_cons.1 hap
        have hp2 := List.pairwise_cons.1 hp.2
        have hy' := hok y (by simp)
        unfold Okr at hy'
        refine ⟨by unfold Okr sum2; simp; omega, fun z hz => ?_, hp2.2, fun m => by unfold In sum2; simp; omega⟩
        have a1 := hnot z (by simp [hz])
        have a4 := hok z (by simp [hz])
        have a5 := hp.1 z (by simp [hz])
        have a6 := hp2.1 z hz
        unfold Apart sum2
        unfold Apart at a5 a6
        unfold In at a1
        unfold Okr at a4
        simp
        omega
  obtain ⟨c1, c2, c3, c4⟩ := core
  refine ⟨fun x hx => ?_, List.pairwise_cons.2 ⟨c2, c3⟩, hs, fun m => ?_⟩
  · rcases List.mem_cons.1 hx with rfl | hx
    · exact c1
    · exact hok x (by simp [hx])
  · rw [hm m, hmem m]
    constructor
    · rintro (e | ⟨x, hx, i⟩)
      · exact ⟨_, by simp, (c4 m).2 (Or.inl e)⟩
      · rw [List.mem_append] at hx
        rcases hx with hx | hx
        · exact ⟨_, by simp, (c4 m).2 (Or.inr ⟨x, hx, i⟩)⟩
        · exact ⟨x, by simp [hx], i⟩
    · rintro ⟨x, hx, i⟩
      rcases List.mem_cons.1 hx with rfl | hx
      · rcases (c4 m).1 i with e | ⟨y, hy, i⟩
        · exact Or.inl e
        · exact Or.inr ⟨y, by simp only [List.mem_append] at hy ⊢; exact Or.inl hy, i⟩
      · exact Or.inr ⟨x, by simp [hx], i⟩
end Go.Proofs.YtpkkomifenlkaaaGreat.Gm
/- gap: what a number more, what numbers taken leave. -/
namespace Go.Proofs.YtpkkomifenlkaaaGreat.Gm

def putL (n : Int) (L : List Int) : List Int := L.takeWhile (fun m => decide (m < n)) ++ n :: L.dropWhile (fun m => decide (m < n))
def putC (n : Int) (L : List Int) : Int := if n = 18446744073709551615 then 5 else if n ∈ L then 7 else 0
def putS (n : Int) (L : List Int) : List Int := if n = 18446744073709551615 ∨ n ∈ L then L else putL n L
theorem mem_putL (n m : Int) (L : List Int) : m ∈ putL n L ↔ m = n ∨ m ∈ L := by
  have e : m ∈ L ↔ m ∈ L.takeWhile (fun m => decide (m < n)) ∨ m ∈ L.dropWhile (fun m => decide (m < n)) := by
    rw [← List.mem_append, List.takeWhile_append_dropWhile]
  unfold putL
  rw [List.mem_append, List.mem_cons, e]
  constructor
  · rintro (h | h | h)
    · exact Or.inr (Or.inl h)
    · exact Or.inl h
    · exact Or.inr (Or.inr h)
  · rintro (h | h | h)
    · exact Or.inr (Or.inl h)
    · exact Or.inl h
    · exact Or.inr (Or.inr h)
theorem dropWhile_ge (n : Int) : ∀ {L : List Int}, L.Pairwise (· < ·) → ∀ m ∈ L.dropWhile (fun m => decide (m < n)), n ≤ m
  | [], _, m, h => by cases h
  | x :: L, hs, m, h => by
    have hs' := List.pairwise_cons.1 hs
    rw [List.dropWhile_cons] at h
    by_cases e : x < n
    · rw [if_pos (by simpa using e)] at h
      exact dropWhile_ge n hs'.2 m h
    · rw [if_neg (by simpa using e)] at h
      rcases List.mem_cons.1 h with rfl | h
      · omega
      · have := hs'.1 m h; omega
theorem takeWhile_lt (n : Int) : ∀ {L : List Int}, ∀ m ∈ L.takeWhile (fun m => decide (m < n)), m < n
  | [], m, h => by cases h
  | x :: L, m, h => by
    rw [List.takeWhile_cons] at h
    by_cases e : x < n
    · rw [if_pos (by simpa using e)] at h
      rcases List.mem_cons.1 h with rfl | h
      · exact e
      · exact takeWhile_lt n m h
    · rw [if_neg (by simpa using e)] at h
      cases h
theorem putL_rise {n : Int} {L : List Int} (hs : L.Pairwise (· < ·)) (hn : n ∉ L) : (putL n L).Pairwise (· < ·) := by
  unfold putL
  have e := List.takeWhile_append_dropWhile (p := fun m => decide (m < n)) (l := L)
  have h2 : (L.takeWhile (fun m => decide (m < n))).Pairwise (· < ·) ∧ (L.dropWhile (fun m => decide (m < n))).Pairwise (· < ·) := by
    rw [← e] at hs
    rw [List.pairwise_append] at hs
    exact ⟨hs.1, hs.2.1⟩
  have hlt : ∀ m ∈ L.dropWhile (fun m => decide (m < n)), n < m := fun m hm => by
    have h3 := dropWhile_ge n hs m hm
    have h4 : m ∈ L := by rw [← e]; exact List.mem_append_right _ hm
    have : m ≠ n := fun h => hn (h ▸ h4)
    omega
  rw [List.pairwise_append]
  refine ⟨h2.1, List.pairwise_cons.2 ⟨hlt, h2.2⟩, fun a ha b hb => ?_⟩
  have h5 := takeWhile_lt n a ha
  rcases List.mem_cons.1 hb with rfl | hb
  · exact h5
  · have := hlt b hb; omega
theorem putL_len (n : Int) (L : List Int) : (putL n L).length = L.length + 1 := by
  have e := congrArg List.length (List.takeWhile_append_dropWhile (p := fun m => decide (m < n)) (l := L))
  rw [List.length_append] at e
  unfold putL
  rw [List.length_append, List.length_cons]
  omega
theorem Rep.put_ok {l rest l' : List R} {L : List Int} {n : Int} (h : Rep l L) (h0 : 0 ≤ n) (h1 : n < 18446744073709551615) (hn : n ∉ L)
    (a b : List R) (ha : a = [] ∧ (∀ x ∈ l, x.1 + x.2 ≠ n) ∨ ∃ x, a = [x] ∧ x.1 + x.2 = n) (hb : b = [] ∧ (∀ x ∈ l, x.1 ≠ n + 1) ∨ ∃ x, b = [x] ∧ x.1 = n + 1)
    (hl : l.Perm (a ++ b ++ rest)) (hl' : l'.Perm ((n - sum2 a, sum2 a + 1 + sum2 b) :: rest)) : Rep l' (putL n L) :=
  h.put h0 h1 hn (putL_rise h.sorted hn) (fun m => mem_putL n m L) a b ha hb hl hl'
theorem Rep.few {l : List R} {L : List Int} (h : Rep l L) : l.length ≤ L.length := by
  have e := h.len
  have : ∀ (l : List R), (∀ x ∈ l, Okr x) → (l.length : Int) ≤ sum2 l := by
    intro l
    induction l with
    | nil => intro _; exact Int.le_refl _
    | cons x l ih =>
      intro h
      have a := ih (fun y hy => h y (by simp [hy]))
      have b := h x (by simp)
      unfold Okr at b
      unfold sum2 at *
      simp
      omega
  have := this l h.ok
  omega
/-- how many stand one behind the other, from the first one on -/
def lng : List Int → Nat
  | [] => 0
  | [_] => 1
  | a :: b :: r => if b - a = 1 then lng (b :: r) + 1 else 1
theorem run_cons {a k : Int} (hk : 2 ≤ k) : runL (a, k) = a :: runL (a + 1, k - 1) := by
  obtain ⟨n, rfl⟩ : ∃ n : Nat, k = (n : Int) + 1 := ⟨(k - 1).toNat, by omega⟩
  unfold runL
  have e1 : ((n : Int) + 1).toNat = n + 1 := by omega
  have e2 : ((n : Int) + 1 - 1).toNat = n := by omega
  simp only [e1, e2]
  rw [List.range_succ_eq_map, List.map_cons, List.map_map]
  congr 1
  · simp
  · apply List.map_congr_left
    intro i _
    simp
    omega
theorem run_one (a : Int) : runL (a, 1) = [a] := by simp [runL]
theorem lng_run : ∀ (k : Nat) (a : Int) (r : List Int), (∀ m ∈ r.head?, m ≠ a + (k : Int) + 1) → lng (runL (a, (k : Int) + 1) ++ r) = k + 1
  | 0, a, r, h => by
    rw [show ((0 : Nat) : Int) + 1 = 1 by omega, run_one]
    cases r with
    | nil => rfl
    | cons b r =>
      show (if b - a = 1 then _ else 1) = _
      have := h b (by simp)
      rw [if_neg (by omega)]
  | k + 1, a, r, h => by
    have ih := lng_run k (a + 1) r (fun m hm => by have := h m hm; omega)
    rw [run_cons (by omega), show ((k + 1 : Nat) : Int) + 1 - 1 = (k : Int) + 1 by omega]
    have e : ∃ t, runL (a + 1, (k : Int) + 1) ++ r = (a + 1) :: t := by
      by_cases hk : k = 0
      · subst hk; rw [show ((0 : Nat) : Int) + 1 = 1 by omega, run_one]; exact ⟨_, rfl⟩
      · rw [run_cons (by omega)]; exact ⟨_, rfl⟩
    obtain ⟨t, ht⟩ := e
    rw [List.cons_append, ht]
    rw [ht] at ih
    show (if a + 1 - a = 1 then lng ((a + 1) :: t) + 1 else 1) = _
    rw [if_pos (by omega), ih]
theorem exp_head {x : R} {ls : List R} (hx : Okr x) : ∃ t, expd (x :: ls) = x.1 :: t := by
  obtain ⟨a, k⟩ := x
  unfold Okr at hx
  dsimp only at *
  rw [exp_cons]
  by_cases hk : k = 1
  · subst hk; rw [run_one]; exact ⟨_, rfl⟩
  · rw [run_cons (by omega)]; exact ⟨_, rfl⟩
theorem lng_exp {x : R} {ls : List R} (h : Srt (x :: ls)) : (lng (expd (x :: ls)) : Int) = x.2 := by
  have hx := h.ok x (by simp)
  have hr := List.pairwise_cons.1 h.rise
  rw [exp_cons]
  obtain ⟨a, k⟩ := x
  unfold Okr at hx
  dsimp only at *
  obtain ⟨n, rfl⟩ : ∃ n : Nat, k = (n : Int) + 1 := ⟨(k - 1).toNat, by omega⟩
  rw [lng_run]
  · omega
  · intro m hm
    cases ls with
    | nil => cases hm
    | cons y ls =>
      obtain ⟨t, ht⟩ := exp_head (ls := ls) (h.ok y (by simp))
      rw [ht] at hm
      have := hr.1 y (by simp)
      simp at hm
      omega
/-- the first numbers of a run taken -/
theorem run_drop : ∀ (m : Nat) (a k : Int), (m : Int) ≤ k → (runL (a, k)).drop m = runL (a + m, k - m) := by
  intro m a k hm
  obtain ⟨n, rfl⟩ : ∃ n : Nat, k = (n : Int) + m := ⟨(k - m).toNat, by omega⟩
  unfold runL
  have e1 : ((n : Int) + (m : Int)).toNat = m + n := by omega
  have e2 : ((n : Int) + (m : Int) - (m : Int)).toNat = n := by omega
  simp only [e1, e2]
  rw [← List.map_drop, List.range_add, List.drop_left' (by simp), List.map_map]
  apply List.map_congr_left
  intro i _
  simp
  omega
theorem srt_sub {x y : R} {ls : List R} (h : Srt (x :: ls)) (h1 : Okr y) (h2 : y.1 + y.2 = x.1 + x.2) : Srt (y :: ls) := by
  have hr := List.pairwise_cons.1 h.rise
  refine ⟨fun z hz => ?_, List.pairwise_cons.2 ⟨fun z hz => by have := hr.1 z hz; omega, hr.2⟩⟩
  rcases List.mem_cons.1 hz with rfl | hz
  · exact h1
  · exact h.ok z (by simp [hz])
theorem Srt.rep {ls : List R} (h : Srt ls) : Rep ls (expd ls) :=
  ⟨h.ok, h.rise.imp (fun h => Or.inl h), exp_rise h, fun _ => mem_exp⟩
/-- the lowest run stands first among the rising ones -/
theorem Rep.first {l rest : List R} {x : R} {L : List Int} (h : Rep l L) (p : (x :: rest).Perm l) (hx : ∀ y ∈ l, x.1 ≤ y.1) : ∃ ls, ls.Perm rest ∧ Srt (x :: ls) ∧ L = expd (x :: ls) := by
  have q := List.mergeSort_perm rest (fun x y => decide (x.1 ≤ y.1))
  have s := List.pairwise_mergeSort (le := fun (x y : R) => decide (x.1 ≤ y.1)) (fun a b c h1 h2 => by simp at *; omega) (fun a b => by simp; omega) rest
  refine ⟨_, q, h.srt ((q.cons x).trans p) (List.pairwise_cons.2 ⟨fun y hy => hx y (p.mem_iff.1 (by simp [q.mem_iff.1 hy])), s.imp (fun h => by simpa using h)⟩)⟩
/-- a whole run taken -/
theorem Rep.take_all {l rest : List R} {x : R} {L : List Int} (h : Rep l L) (p : (x :: rest).Perm l) (hx : ∀ y ∈ l, x.1 ≤ y.1) : (lng L : Int) = x.2 ∧ L.head? = some x.1 ∧ Rep rest (L.drop x.2.toNat) := by
  obtain ⟨ls, q, s, rfl⟩ := h.first p hx
  have hok := s.ok x (by simp)
  refine ⟨lng_exp s, by obtain ⟨t, ht⟩ := exp_head (ls := ls) hok; rw [ht]; rfl, ?_⟩
  have e : (expd (x :: ls)).drop x.2.toNat = expd ls := by
    have := run_len hok
    rw [exp_cons]
    exact List.drop_left' (by omega)
  rw [e]
  exact (Srt.rep ⟨fun y hy => s.ok y (by simp [hy]), (List.pairwise_cons.1 s.rise).2⟩).perm q
/-- some of a run taken -/
theorem Rep.take_some {l rest : List R} {x : R} {L : List Int} (h : Rep l L) (p : (x :: rest).Perm l) (hx : ∀ y ∈ l, x.1 ≤ y.1) (m : Nat) (hm : (m : Int) < x.2) : Rep ((x.1 + m, x.2 - m) :: rest) (L.drop m) := by
  obtain ⟨ls, q, s, rfl⟩ := h.first p hx
  have hok := s.ok x (by simp)
  have e : (expd (x :: ls)).drop m = expd ((x.1 + m, x.2 - m) :: ls) := by
    have := run_len hok
    rw [exp_cons, List.drop_append_of_le_length (by omega), exp_cons]
    congr 1
    exact run_drop m x.1 x.2 (by omega)
  rw [e]
  unfold Okr at hok
  exact (srt_sub s (by unfold Okr; dsimp only; omega) (by dsimp only; omega)).rep.perm (q.cons _)
end Go.Proofs.YtpkkomifenlkaaaGreat.Gm
