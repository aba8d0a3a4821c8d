import Derived.Test.YtlpnecmcncekcaaGreatShardOps
import Derived.Test.YtlpnecmcncekcaaGreatKeyLessM
import Derived.Sort.Statements
/- A shard's map as a list of entries: what its acts leave alone; its entries in the order of keys. -/
namespace Go.Proofs.YtlpnecmcncekcaaGreat.Mk
open Go Go.RowKit

/-- A map's list: each key once, each entry under its own key, each stamp once, none to come. -/
structure MOk (l : List Ms) (clock : Nat) : Prop where
  keys : (l.map (·.1)).Nodup
  own : ∀ x ∈ l, x.2.1.k = x.1
  born : (l.map (·.2.2)).Nodup
  old : ∀ x ∈ l, x.2.2 < clock
theorem MOk.nil : MOk [] 0 := ⟨by simp, by simp, by simp, by simp⟩
/-- the entries -/
def ens (l : List Ms) : List En := l.map (·.2.1)
theorem ent_mem {k : K3} {e : En} : ∀ {l : List Ms}, entM k l = some e → ∃ x ∈ l, x.1 = k ∧ x.2.1 = e
  | [], h => by cases h
  | x :: l, h => by
    unfold entM at h
    by_cases hk : k = x.1
    · rw [if_pos hk] at h
      injection h with h
      exact ⟨x, by simp, hk.symm, h⟩
    · rw [if_neg hk] at h
      obtain ⟨y, h1, h2⟩ := ent_mem h
      exact ⟨y, by simp [h1], h2⟩
theorem ent_of_mem : ∀ {l : List Ms}, (l.map (·.1)).Nodup → ∀ x ∈ l, entM x.1 l = some x.2.1
  | [], _, _, h => by cases h
  | y :: l, hn, x, hx => by
    have hn' := List.nodup_cons.1 hn
    unfold entM
    rcases List.mem_cons.1 hx with rfl | hm
    · rw [if_pos rfl]
    · rw [if_neg (fun e : x.1 = y.1 => hn'.1 (by show y.1 ∈ _; rw [← e]; exact List.mem_map.2 ⟨x, hm, rfl⟩))]
      exact ent_of_mem hn'.2 x hm
theorem ent_none {k : K3} : ∀ {l : List Ms}, entM k l = none ↔ ∀ x ∈ l, x.1 ≠ k
  | [] => by simp [entM]
  | x :: l => by
    unfold entM
    by_cases hk : k = x.1
    · rw [if_pos hk]; simp [hk]
    · rw [if_neg hk, ent_none (l := l)]
      simp only [List.mem_cons, forall_eq_or_imp]
      exact ⟨fun h => ⟨fun e => hk e.symm, h⟩, fun h => h.2⟩
theorem at_none {k : K3} (l : List Ms) (i : Nat) : at? k l i = none ↔ entM k l = none := by
  have h := at?_ent k l i
  cases h1 : at? k l i <;> cases h2 : entM k l <;> simp [h1, h2] at h ⊢
/-- .. where a key stands -/
theorem at_split {k : K3} : ∀ {l : List Ms} {i j : Nat} {v : Value}, at? k l i = some (j, v) → ∃ a x b, l = a ++ x :: b ∧ j = i + a.length ∧ x.1 = k ∧ (∀ y ∈ a, y.1 ≠ k)
  | [], _, _, _, h => by cases h
  | x :: l, i, j, v, h => by
    unfold at? at h
    by_cases hk : k = x.1
    · rw [if_pos hk] at h
      injection h with h
      injection h with h1 h2
      exact ⟨[], x, l, rfl, by simp [h1], hk.symm, fun _ hy => by cases hy⟩
    · rw [if_neg hk] at h
      obtain ⟨a, y, b, h1, h2, h3, h4⟩ := at_split h
      exact ⟨x :: a, y, b, by rw [h1]; rfl, by rw [h2, List.length_cons]; omega, h3, fun z hz => by rcases List.mem_cons.1 hz with rfl | hz; exact fun e => hk e.symm; exact h4 z hz⟩
theorem modify_mid {α : Type} (a : List α) (x : α) (b : List α) (f : α → α) : (a ++ x :: b).modify a.length f = a ++ f x :: b := by
  induction a with
  | nil => rfl
  | cons y a ih => simp [List.modify_succ_cons, ih]
theorem erase_mid {α : Type} (a : List α) (x : α) (b : List α) : (a ++ x :: b).eraseIdx a.length = a ++ b := by
  induction a with
  | nil => rfl
  | cons y a ih => simp [ih]
/-- 'm[k] = e', e an entry of k's. -/
theorem put_new_eq {k : K3} {e : En} {l : List Ms} {clock : Nat} (h : entM k l = none) : putM k e l clock = (l ++ [(k, e, clock)], clock + 1) := by
  unfold putM; rw [(at_none l 0).2 h]
theorem put_old_eq {k : K3} {e : En} {l : List Ms} {clock : Nat} (h : entM k l ≠ none) : ∃ a x b, l = a ++ x :: b ∧ x.1 = k ∧ (∀ y ∈ a, y.1 ≠ k) ∧ putM k e l clock = (a ++ (k, e, x.2.2) :: b, clock) := by
  cases h1 : at? k l 0 with
  | none => exact absurd ((at_none l 0).1 h1) h
  | some p =>
    obtain ⟨j, v⟩ := p
    obtain ⟨a, x, b, h2, h3, h4, h5⟩ := at_split h1
    refine ⟨a, x, b, h2, h4, h5, ?_⟩
    unfold putM
    rw [h1]
    simp only
    rw [h3, Nat.zero_add, h2, modify_mid]
theorem del_eq {k : K3} {l : List Ms} (h : entM k l ≠ none) : ∃ a x b, l = a ++ x :: b ∧ x.1 = k ∧ (∀ y ∈ a, y.1 ≠ k) ∧ delM k l = a ++ b := by
  cases h1 : at? k l 0 with
  | none => exact absurd ((at_none l 0).1 h1) h
  | some p =>
    obtain ⟨j, v⟩ := p
    obtain ⟨a, x, b, h2, h3, h4, h5⟩ := at_split h1
    refine ⟨a, x, b, h2, h4, h5, ?_⟩
    unfold delM
    rw [h1]
    simp only
    rw [h3, Nat.zero_add, h2, erase_mid]
theorem MOk.put {k : K3} {e : En} {l : List Ms} {clock : Nat} (h : MOk l clock) (he : e.k = k) : MOk (putM k e l clock).1 (putM k e l clock).2 := by
  by_cases hn : entM k l = none
  · rw [put_new_eq hn]
    have hk := ent_none.1 hn
    refine ⟨?_, fun x hx => ?_, ?_, fun x hx => ?_⟩
    · simp only [List.map_append, List.map_cons, List.map_nil]
      rw [List.nodup_append]
      exact ⟨h.keys, by simp, fun a ha b hb => by simp at hb; subst hb; obtain ⟨x, hx, rfl⟩ := List.mem_map.1 ha; exact hk x hx⟩
    · rcases List.mem_append.1 hx with hx | hx
      · exact h.own x hx
      · simp at hx; subst hx; exact he
    · simp only [List.map_append, List.map_cons, List.map_nil]
      rw [List.nodup_append]
      exact ⟨h.born, by simp, fun a ha b hb => by simp at hb; subst hb; obtain ⟨x, hx, rfl⟩ := List.mem_map.1 ha; exact Nat.ne_of_lt (h.old x hx)⟩
    · rcases List.mem_append.1 hx with hx | hx
      · exact Nat.lt_succ_of_lt (h.old x hx)
      · simp at hx; subst hx; exact Nat.lt_succ_self _
  · obtain ⟨a, x, b, h1, h2, h3, h4⟩ := put_old_eq (e := e) (clock := clock) hn
    rw [h4]
    subst h1
    obtain ⟨g1, g2, g3, g4⟩ := h
    refine ⟨?_, fun y hy => ?_, ?_, fun y hy => ?_⟩
    · simp only [List.map_append, List.map_cons] at g1 ⊢
      rw [← h2]; exact g1
    · rcases List.mem_append.1 hy with hy | hy
      · exact g2 y (by simp [hy])
      · rcases List.mem_cons.1 hy with rfl | hy
        · exact he
        · exact g2 y (by simp [hy])
    · simpa only [List.map_append, List.map_cons] using g3
    · rcases List.mem_append.1 hy with hy | hy
      · exact g4 y (by simp [hy])
      · rcases List.mem_cons.1 hy with rfl | hy
        · exact g4 x (by simp)
        · exact g4 y (by simp [hy])
theorem MOk.del {k : K3} {l : List Ms} {clock : Nat} (h : MOk l clock) (hn : entM k l ≠ none) : MOk (delM k l) clock := by
  obtain ⟨a, x, b, h1, h2, h3, h4⟩ := del_eq hn
  rw [h4]
  subst h1
  obtain ⟨g1, g2, g3, g4⟩ := h
  have hs : (a ++ b).Sublist (a ++ x :: b) := List.Sublist.append (List.Sublist.refl a) (List.sublist_cons_self x b)
  exact ⟨g1.sublist (hs.map _), fun y hy => g2 y (hs.subset hy), g3.sublist (hs.map _), fun y hy => g4 y (hs.subset hy)⟩
theorem ent_append_ne {k : K3} : ∀ {a b : List Ms}, (∀ y ∈ a, y.1 ≠ k) → entM k (a ++ b) = entM k b
  | [], _, _ => rfl
  | x :: a, b, h => by
    show (if k = x.1 then some x.2.1 else entM k (a ++ b)) = _
    rw [if_neg (fun e => h x (by simp) e.symm), ent_append_ne (fun y hy => h y (by simp [hy]))]
/-- What an act does to other keys: nothing; to its own: its entry. -/
theorem ent_append {k : K3} : ∀ (a b : List Ms), entM k (a ++ b) = (entM k a).or (entM k b)
  | [], _ => rfl
  | x :: a, b => by
    show (if k = x.1 then some x.2.1 else entM k (a ++ b)) = (if k = x.1 then some x.2.1 else entM k a).or (entM k b)
    by_cases h : k = x.1
    · rw [if_pos h, if_pos h]; rfl
    · rw [if_neg h, if_neg h, ent_append]
theorem ent_put_other {k k' : K3} {e : En} {l : List Ms} {clock : Nat} (hk : k' ≠ k) : entM k' (putM k e l clock).1 = entM k' l := by
  by_cases hn : entM k l = none
  · rw [put_new_eq hn, ent_append]
    simp [entM, hk]
  · obtain ⟨a, x, b, h1, h2, h3, h4⟩ := put_old_eq (e := e) (clock := clock) hn
    rw [h4]
    subst h1
    rw [ent_append, ent_append]
    simp [entM, h2, hk]
theorem ent_put_own {k : K3} {e : En} {l : List Ms} {clock : Nat} : entM k (putM k e l clock).1 = some e := by
  by_cases hn : entM k l = none
  · rw [put_new_eq hn, ent_append, hn]
    simp [entM]
  · obtain ⟨a, x, b, h1, h2, h3, h4⟩ := put_old_eq (e := e) (clock := clock) hn
    rw [h4, ent_append_ne h3]
    simp [entM]
theorem ent_del_other {k k' : K3} {l : List Ms} (hk : k' ≠ k) (hn : entM k l ≠ none) : entM k' (delM k l) = entM k' l := by
  obtain ⟨a, x, b, h1, h2, h3, h4⟩ := del_eq hn
  rw [h4]
  subst h1
  rw [ent_append, ent_append]
  simp [entM, h2, hk]
theorem ent_del_own {k : K3} {l : List Ms} {clock : Nat} (h : MOk l clock) (hn : entM k l ≠ none) : entM k (delM k l) = none := by
  obtain ⟨a, x, b, h1, h2, h3, h4⟩ := del_eq hn
  rw [h4]
  subst h1
  rw [ent_append_ne h3, ent_none]
  intro y hy e
  have hk := h.keys
  simp only [List.map_append, List.map_cons] at hk
  have := (List.nodup_cons.1 (List.nodup_append.1 hk).2.1).1
  exact this (by rw [h2, ← e]; exact List.mem_map.2 ⟨y, hy, rfl⟩)
theorem len_put {k : K3} {e : En} {l : List Ms} {clock : Nat} : (putM k e l clock).1.length ≤ l.length + 1 ∧ (entM k l ≠ none → (putM k e l clock).1.length = l.length) := by
  by_cases hn : entM k l = none
  · rw [put_new_eq hn]; exact ⟨by simp, fun h => absurd hn h⟩
  · obtain ⟨a, x, b, h1, h2, h3, h4⟩ := put_old_eq (e := e) (clock := clock) hn
    rw [h4, h1]; simp
theorem len_del {k : K3} {l : List Ms} : (delM k l).length ≤ l.length := by
  unfold delM
  cases at? k l 0 with
  | none => exact Nat.le_refl _
  | some p => exact List.length_eraseIdx_le _ _
end Go.Proofs.YtlpnecmcncekcaaGreat.Mk
/- What an act with a shard answers, and what its map is behind it. -/
namespace Go.Proofs.YtlpnecmcncekcaaGreat.Mk
open Go Go.RowKit Go.MuLone

set_option maxRecDepth 20000 in
theorem claim_few (S : Nat) (who : Int) (k : K3) (W : World) (hw : who < 1) : Calls Tryz.prog 52 #[.pointer (some ⟨S, 0, none⟩), k.val, .int .i64 who] W fun e w' => e = .returned (.int .i64 1) ∧ Below W.heap.size W w' := by
  obtain ⟨kc, kf, ks⟩ := k
  unfold K3.val
  have b2 := ((Below.refl W.heap.size W).alloc (Nat.le_refl _) (.cells #[.pointer (some ⟨S, 0, none⟩)] 68)).alloc (by simp) (.cells #[.int .i64 kc, .int .i64 kf, .int .u64 ks] 41)
  have b3 := b2.alloc (by simp; try omega) (.cells #[.int .i64 who] 3)
  go_enter Tryz.func52, Tryz.ntmps52
  go_wp2
  go_ret
  exact ⟨rfl, b3⟩
/-- what an act answers, and what the map is behind it; m: its kind, modulo 5 -/
def actRes (m room who : Int) (k : K3) (l : List Ms) (clock : Nat) : Int × List Ms × Nat :=
  if m = 1 then (insR room l k, insL room l clock k)
  else if m = 2 then (if who < 1 then (1, l, clock) else (chgR 1 who k l, chgL 1 who k l clock (putM k ⟨k, 2, who⟩ l clock)))
  else if m = 3 then (chgR 2 who k l, chgL 2 who k l clock (putM k ⟨k, 1, 0⟩ l clock))
  else if m = 4 then (chgR 2 who k l, chgL 2 who k l clock (putM k ⟨k, 3, 0⟩ l clock))
  else (chgR 3 0 k l, chgL 3 0 k l clock (delM k l, clock))
section
variable {m room who : Int} {k : K3} {l : List Ms} {clock : Nat}
theorem chg_found {st who : Int} (h : chgR st who k l = 0) : entM k l ≠ none := by
  intro e
  simp [chgR, e] at h
theorem chgL_cases (st who : Int) (P : List Ms × Nat) : (chgR st who k l = 0 ∧ chgL st who k l clock P = P) ∨ (chgR st who k l ≠ 0 ∧ chgL st who k l clock P = (l, clock)) := by
  unfold chgL
  by_cases h : chgR st who k l = 0
  · exact Or.inl ⟨h, if_pos h⟩
  · exact Or.inr ⟨h, if_neg h⟩
theorem insL_cases : (insR room l k = 0 ∧ entM k l = none ∧ (l.length : Int) < room ∧ insL room l clock k = putM k ⟨k, 1, 0⟩ l clock) ∨ (insR room l k ≠ 0 ∧ insL room l clock k = (l, clock)) := by
  unfold insL
  by_cases h : insR room l k = 0
  · refine Or.inl ⟨h, ?_, ?_, if_pos h⟩
    · unfold insR at h
      by_cases h1 : (at? k l 0).isSome
      · rw [if_pos h1] at h; cases h
      · exact (at_none l 0).1 (by simpa using h1)
    · unfold insR at h
      split at h
      · cases h
      · split at h
        · cases h
        · omega
  · exact Or.inr ⟨h, if_neg h⟩
/-- the four ways of an act: nothing turns; an entry is laid under a new key, or under an old one, or goes -/
theorem actRes_cases (m room who : Int) (k : K3) (l : List Ms) (clock : Nat) :
    ((actRes m room who k l clock).1 ≠ 0 ∧ (actRes m room who k l clock).2 = (l, clock)) ∨
    ((actRes m room who k l clock).1 = 0 ∧ m = 1 ∧ entM k l = none ∧ (l.length : Int) < room ∧ (actRes m room who k l clock).2 = putM k ⟨k, 1, 0⟩ l clock) ∨
    ((actRes m room who k l clock).1 = 0 ∧ (m = 2 ∨ m = 3 ∨ m = 4) ∧ entM k l ≠ none ∧ ∃ st ow, (actRes m room who k l clock).2 = putM k ⟨k, st, ow⟩ l clock) ∨
    ((actRes m room who k l clock).1 = 0 ∧ m ≠ 1 ∧ m ≠ 2 ∧ m ≠ 3 ∧ m ≠ 4 ∧ entM k l ≠ none ∧ (actRes m room who k l clock).2 = (delM k l, clock)) := by
  unfold actRes
  by_cases h1 : m = 1
  · rw [if_pos h1]
    rcases insL_cases (room := room) (k := k) (l := l) (clock := clock) with ⟨a, b, c, d⟩ | ⟨a, b⟩
    · exact Or.inr (Or.inl ⟨a, h1, b, c, d⟩)
    · exact Or.inl ⟨a, b⟩
  rw [if_neg h1]
  by_cases h2 : m = 2
  · rw [if_pos h2]
    by_cases hw : who < 1
    · rw [if_pos hw]; exact Or.inl ⟨by simp, rfl⟩
    · rw [if_neg hw]
      rcases chgL_cases (k := k) (l := l) (clock := clock) 1 who (putM k ⟨k, 2, who⟩ l clock) with ⟨a, b⟩ | ⟨a, b⟩
      · exact Or.inr (Or.inr (Or.inl ⟨a, Or.inl h2, chg_found a, _, _, b⟩))
      · exact Or.inl ⟨a, b⟩
  rw [if_neg h2]
  by_cases h3 : m = 3
  · rw [if_pos h3]
    rcases chgL_cases (k := k) (l := l) (clock := clock) 2 who (putM k ⟨k, 1, 0⟩ l clock) with ⟨a, b⟩ | ⟨a, b⟩
    · exact Or.inr (Or.inr (Or.inl ⟨a, Or.inr (Or.inl h3), chg_found a, _, _, b⟩))
    · exact Or.inl ⟨a, b⟩
  rw [if_neg h3]
  by_cases h4 : m = 4
  · rw [if_pos h4]
    rcases chgL_cases (k := k) (l := l) (clock := clock) 2 who (putM k ⟨k, 3, 0⟩ l clock) with ⟨a, b⟩ | ⟨a, b⟩
    · exact Or.inr (Or.inr (Or.inl ⟨a, Or.inr (Or.inr h4), chg_found a, _, _, b⟩))
    · exact Or.inl ⟨a, b⟩
  rw [if_neg h4]
  rcases chgL_cases (k := k) (l := l) (clock := clock) 3 0 (delM k l, clock) with ⟨a, b⟩ | ⟨a, b⟩
  · exact Or.inr (Or.inr (Or.inr ⟨a, h1, h2, h3, h4, chg_found a, b⟩))
  · exact Or.inl ⟨a, b⟩
theorem act_ok (h : MOk l clock) : MOk (actRes m room who k l clock).2.1 (actRes m room who k l clock).2.2 := by
  rcases actRes_cases m room who k l clock with ⟨_, e⟩ | ⟨_, _, _, _, e⟩ | ⟨_, _, _, st, ow, e⟩ | ⟨_, _, _, _, _, hn, e⟩
  · rw [e]; exact h
  · rw [e]; exact h.put rfl
  · rw [e]; exact h.put rfl
  · rw [e]; exact h.del hn
theorem act_len (h : (l.length : Int) ≤ room) : ((actRes m room who k l clock).2.1.length : Int) ≤ room := by
  rcases actRes_cases m room who k l clock with ⟨_, e⟩ | ⟨_, _, hn, hl, e⟩ | ⟨_, _, hn, st, ow, e⟩ | ⟨_, _, _, _, _, hn, e⟩
  · rw [e]; exact h
  · rw [e]; have := (len_put (k := k) (e := ⟨k, 1, 0⟩) (l := l) (clock := clock)).1; omega
  · rw [e, (len_put (k := k) (e := ⟨k, st, ow⟩) (l := l) (clock := clock)).2 hn]; exact h
  · rw [e]; have := len_del (k := k) (l := l); show ((delM k l).length : Int) ≤ room; omega
theorem act_none (h : (actRes m room who k l clock).1 ≠ 0) : (actRes m room who k l clock).2 = (l, clock) := by
  rcases actRes_cases m room who k l clock with ⟨_, e⟩ | ⟨a, _⟩ | ⟨a, _⟩ | ⟨a, _⟩
  · exact e
  · exact absurd a h
  · exact absurd a h
  · exact absurd a h
theorem act_other {k' : K3} (hk : k' ≠ k) : entM k' (actRes m room who k l clock).2.1 = entM k' l := by
  rcases actRes_cases m room who k l clock with ⟨_, e⟩ | ⟨_, _, _, _, e⟩ | ⟨_, _, _, st, ow, e⟩ | ⟨_, _, _, _, _, hn, e⟩
  · rw [e]
  · rw [e]; exact ent_put_other hk
  · rw [e]; exact ent_put_other hk
  · rw [e]; exact ent_del_other hk hn
theorem act_own (h : MOk l clock) (hn : entM k l ≠ none) : (entM k (actRes m room who k l clock).2.1).isSome = !(decide ((actRes m room who k l clock).1 = 0) && decide (m ≠ 1 ∧ m ≠ 2 ∧ m ≠ 3 ∧ m ≠ 4)) := by
  rcases actRes_cases m room who k l clock with ⟨a, e⟩ | ⟨_, _, hn', _⟩ | ⟨a, hm, _, st, ow, e⟩ | ⟨a, h1, h2, h3, h4, _, e⟩
  · rw [e, decide_eq_false a]
    cases hh : entM k l with
    | none => exact absurd hh hn
    | some _ => rfl
  · exact absurd hn' hn
  · rw [e, ent_put_own, decide_eq_false (show ¬ (m ≠ 1 ∧ m ≠ 2 ∧ m ≠ 3 ∧ m ≠ 4) by omega)]
    simp
  · rw [e, decide_eq_true a, decide_eq_true ⟨h1, h2, h3, h4⟩]
    show (entM k (delM k l)).isSome = _
    rw [ent_del_own h hn]
    rfl
end
end Go.Proofs.YtlpnecmcncekcaaGreat.Mk
