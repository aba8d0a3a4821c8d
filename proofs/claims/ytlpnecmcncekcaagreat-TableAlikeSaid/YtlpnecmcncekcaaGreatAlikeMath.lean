/- Two tables of the same entries, however many shards each has. -/
import Derived.Test.YtlpnecmcncekcaaGreatTabAll
namespace Go.Proofs.YtlpnecmcncekcaaGreat.Mk
open Go Go.RowKit Go.MuLone

section
variable {m room who : Int} {k : K3} {l l' : List Ms} {clock clock' : Nat}
/-- the entry under an act's key behind it -/
def entAct (m who r : Int) (k : K3) (e : Option En) : Option En :=
  if r = 0 then (if m = 1 then some ⟨k, 1, 0⟩ else if m = 2 then some ⟨k, 2, who⟩ else if m = 3 then some ⟨k, 1, 0⟩ else if m = 4 then some ⟨k, 3, 0⟩ else none) else e
theorem act_ent (hl : MOk l clock) : entM k (actRes m room who k l clock).2.1 = entAct m who (actRes m room who k l clock).1 k (entM k l) := by
  unfold entAct
  by_cases h0 : (actRes m room who k l clock).1 = 0
  · rw [if_pos h0]
    revert h0
    unfold actRes
    by_cases h1 : m = 1
    · rw [if_pos h1, if_pos h1]
      intro h0
      rcases insL_cases (room := room) (k := k) (l := l) (clock := clock) with ⟨_, _, _, e⟩ | ⟨e, _⟩
      · show entM k (insL room l clock k).1 = _
        rw [e, ent_put_own]
      · exact absurd h0 e
    rw [if_neg h1, if_neg h1]
    by_cases h2 : m = 2
    · rw [if_pos h2, if_pos h2]
      by_cases hw : who < 1
      · rw [if_pos hw]; intro h0; cases h0
      · rw [if_neg hw]
        intro h0
        rcases chgL_cases (k := k) (l := l) (clock := clock) 1 who (putM k ⟨k, 2, who⟩ l clock) with ⟨_, e⟩ | ⟨e, _⟩
        · show entM k (chgL 1 who k l clock _).1 = _
          rw [e, ent_put_own]
        · exact absurd h0 e
    rw [if_neg h2, if_neg h2]
    by_cases h3 : m = 3
    · rw [if_pos h3, if_pos h3]
      intro h0
      rcases chgL_cases (k := k) (l := l) (clock := clock) 2 who (putM k ⟨k, 1, 0⟩ l clock) with ⟨_, e⟩ | ⟨e, _⟩
      · show entM k (chgL 2 who k l clock _).1 = _
        rw [e, ent_put_own]
      · exact absurd h0 e
    rw [if_neg h3, if_neg h3]
    by_cases h4 : m = 4
    · rw [if_pos h4, if_pos h4]
      intro h0
      rcases chgL_cases (k := k) (l := l) (clock := clock) 2 who (putM k ⟨k, 3, 0⟩ l clock) with ⟨_, e⟩ | ⟨e, _⟩
      · show entM k (chgL 2 who k l clock _).1 = _
        rw [e, ent_put_own]
      · exact absurd h0 e
    rw [if_neg h4, if_neg h4]
    intro h0
    rcases chgL_cases (k := k) (l := l) (clock := clock) 3 0 (delM k l, clock) with ⟨a, e⟩ | ⟨e, _⟩
    · show entM k (chgL 3 0 k l clock _).1 = _
      rw [e]
      exact ent_del_own hl (chg_found a)
    · exact absurd h0 e
  · rw [if_neg h0, act_none h0]
theorem chg_same (he : entM k l = entM k l') (st w : Int) : chgR st w k l = chgR st w k l' := by unfold chgR; rw [he]
theorem act_ans (he : entM k l = entM k l') (h6 : (actRes m room who k l clock).1 ≠ 6) (h6' : (actRes m room who k l' clock').1 ≠ 6) : (actRes m room who k l clock).1 = (actRes m room who k l' clock').1 := by
  revert h6 h6'
  unfold actRes
  by_cases h1 : m = 1
  · rw [if_pos h1, if_pos h1]
    show insR room l k ≠ 6 → insR room l' k ≠ 6 → insR room l k = insR room l' k
    unfold insR
    have e : (at? k l 0).isSome = (at? k l' 0).isSome := by
      have a := at_none (k := k) l 0
      have b := at_none (k := k) l' 0
      rw [← he] at b
      cases h2 : at? k l 0 <;> cases h3 : at? k l' 0 <;> simp_all
    rw [e]
    intro a b
    split
    · rfl
    · rename_i hn
      rw [if_neg hn] at a b
      split at a
      · exact absurd rfl a
      · split at b
        · exact absurd rfl b
        · rw [if_neg (by assumption), if_neg (by assumption)]
  rw [if_neg h1, if_neg h1]
  by_cases h2 : m = 2
  · rw [if_pos h2, if_pos h2]
    by_cases hw : who < 1
    · rw [if_pos hw, if_pos hw]; intro _ _; rfl
    · rw [if_neg hw, if_neg hw]; intro _ _; exact chg_same he 1 who
  rw [if_neg h2, if_neg h2]
  by_cases h3 : m = 3
  · rw [if_pos h3, if_pos h3]; intro _ _; exact chg_same he 2 who
  rw [if_neg h3, if_neg h3]
  by_cases h4 : m = 4
  · rw [if_pos h4, if_pos h4]; intro _ _; exact chg_same he 2 who
  rw [if_neg h4, if_neg h4]; intro _ _; exact chg_same he 3 0
end
/-- the entry of a key in a table -/
def tEnt (n : Nat) (M : Maps) (k : K3) : Option En := entM k (M (own n k)).1
theorem tmaps_own (o : Op9) (n : Nat) (room : Int) (M : Maps) : tMaps o n room M (own n o.k) = (tRes o room (M (own n o.k))).2 := upd_at
theorem tent_other (o : Op9) (n : Nat) (room : Int) (M : Maps) (k : K3) (hk : k ≠ o.k) : tEnt n (tMaps o n room M) k = tEnt n M k := by
  unfold tEnt
  by_cases e : own n k = own n o.k
  · rw [e, tmaps_own]
    unfold tRes
    by_cases h : 1 ≤ o.kd ∧ o.kd ≤ 5
    · rw [if_pos h]; exact act_other hk
    · rw [if_neg h]
  · unfold tMaps
    rw [upd_off e]
theorem tent_own (o : Op9) {y : Lay} {M : Maps} (hy : y.ok) (hm : MapsOk y M) : tEnt y.n (tMaps o y.n y.room M) o.k = if 1 ≤ o.kd ∧ o.kd ≤ 5 then entAct (o.kd % 5) o.who (tAns o y.n y.room M) o.k (tEnt y.n M o.k) else tEnt y.n M o.k := by
  unfold tEnt tAns
  rw [tmaps_own]
  unfold tRes
  by_cases h : 1 ≤ o.kd ∧ o.kd ≤ 5
  · rw [if_pos h, if_pos h]
    exact act_ent (hm.ok _ (own_lt hy.n0 o.k))
  · rw [if_neg h, if_neg h]
/-- two tables have the same entries -/
def Ali (n : Nat) (M : Maps) (n' : Nat) (M' : Maps) : Prop := ∀ k, tEnt n M k = tEnt n' M' k
section
variable {y y' : Lay} {M M' : Maps}
theorem ali_ans (o : Op9) (hr : y.room = y'.room) (h : Ali y.n M y'.n M') (h6 : tAns o y.n y.room M ≠ 6) (h6' : tAns o y'.n y'.room M' ≠ 6) : tAns o y.n y.room M = tAns o y'.n y'.room M' := by
  have he := h o.k
  revert h6 h6'
  unfold tEnt at he
  unfold tAns tRes
  by_cases h : 1 ≤ o.kd ∧ o.kd ≤ 5
  · rw [if_pos h, if_pos h, hr]
    exact act_ans he
  · rw [if_neg h, if_neg h]
    intro _ _; rfl
theorem ali_step (o : Op9) (hy : y.ok) (hy' : y'.ok) (hm : MapsOk y M) (hm' : MapsOk y' M') (h : Ali y.n M y'.n M') (ha : tAns o y.n y.room M = tAns o y'.n y'.room M') : Ali y.n (tMaps o y.n y.room M) y'.n (tMaps o y'.n y'.room M') := by
  intro k
  by_cases hk : k = o.k
  · rw [hk, tent_own o hy hm, tent_own o hy' hm', ha, h o.k]
  · rw [tent_other o _ _ _ k hk, tent_other o _ _ _ k hk]
    exact h k
theorem own_of (hy : y.ok) (hm : MapsOk y M) {i : Nat} (hi : i < y.n) {x : Ms} (hx : x ∈ (M i).1) : own y.n x.1 = i := by
  have h1 := hm.key i hi x hx
  rw [own_eq hy.n0] at h1
  exact_mod_cast h1
theorem mem_all (hy : y.ok) (hm : MapsOk y M) : ∀ k, k ≤ y.n → ∀ e, e ∈ allE M k ↔ (own y.n e.k < k ∧ tEnt y.n M e.k = some e)
  | 0, _, e => by simp [allE]
  | k + 1, hk, e => by
    simp only [allE, List.mem_append]
    rw [mem_all hy hm k (by omega) e]
    constructor
    · rintro (⟨h1, h2⟩ | h)
      · exact ⟨by omega, h2⟩
      · obtain ⟨x, hx, rfl⟩ := List.mem_map.1 h
        have hown := (hm.ok k (by omega)).own x hx
        have h3 := own_of hy hm (by omega : k < y.n) hx
        rw [hown, h3]
        refine ⟨by omega, ?_⟩
        unfold tEnt
        rw [h3]
        exact ent_of_mem (hm.ok k (by omega)).keys x hx
    · rintro ⟨h1, h2⟩
      by_cases h3 : own y.n e.k < k
      · exact Or.inl ⟨h3, h2⟩
      · have h4 : own y.n e.k = k := by omega
        unfold tEnt at h2
        rw [h4] at h2
        obtain ⟨x, hx, _, h5⟩ := ent_mem h2
        exact Or.inr (List.mem_map.2 ⟨x, hx, h5⟩)
theorem nodup_all (hy : y.ok) (hm : MapsOk y M) : ∀ k, k ≤ y.n → (allE M k).Nodup
  | 0, _ => by simp [allE]
  | k + 1, hk => by
    simp only [allE]
    refine List.nodup_append.2 ⟨nodup_all hy hm k (by omega), ?_, fun a ha b hb e => ?_⟩
    · have h1 := (hm.ok k (by omega)).keys
      have h2 : ((ens (M k).1).map (·.k)).Nodup := by
        have : (ens (M k).1).map (·.k) = (M k).1.map (·.1) := by
          unfold ens
          rw [List.map_map]
          exact List.map_congr_left fun x hx => (hm.ok k (by omega)).own x hx
        rw [this]; exact h1
      exact List.Pairwise.of_map (fun x : En => x.k) (fun a b h e => h (by rw [e])) h2
    · subst e
      have h1 := ((mem_all hy hm k (by omega) a).1 ha).1
      obtain ⟨x, hx, rfl⟩ := List.mem_map.1 hb
      rw [(hm.ok k (by omega)).own x hx, own_of hy hm (by omega : k < y.n) hx] at h1
      omega
theorem ali_all (hy : y.ok) (hy' : y'.ok) (hm : MapsOk y M) (hm' : MapsOk y' M') (h : Ali y.n M y'.n M') : (allE M y.n).Perm (allE M' y'.n) := by
  refine (List.perm_ext_iff_of_nodup (nodup_all hy hm _ (Nat.le_refl _)) (nodup_all hy' hm' _ (Nat.le_refl _))).2 fun e => ?_
  rw [mem_all hy hm _ (Nat.le_refl _), mem_all hy' hm' _ (Nat.le_refl _), h e.k]
  have a := own_lt hy.n0 e.k
  have b := own_lt hy'.n0 e.k
  exact ⟨fun ⟨_, x⟩ => ⟨b, x⟩, fun ⟨_, x⟩ => ⟨a, x⟩⟩
theorem all_sorted (hy : y.ok) (hm : MapsOk y M) {a b : List En} (ha : a.Perm (allE M y.n)) (hb : b.Perm (allE M y.n)) (pa : a.Pairwise fun x y => ltE y x = false) (pb : b.Pairwise fun x y => ltE y x = false) : a = b := by
  refine List.Perm.eq_of_pairwise (le := fun x y => ltE y x = false) (fun p q hp hq h1 h2 => ?_) pa pb (ha.trans hb.symm)
  have hk : p.k = q.k := by
    have h3 := h1; have h4 := h2
    simp [ltE, ltK] at h3 h4
    obtain ⟨⟨a1, a2, a3⟩, _, _⟩ := p
    obtain ⟨⟨b1, b2, b3⟩, _, _⟩ := q
    simp at h3 h4
    have : a1 = b1 := by omega
    have : a2 = b2 := by omega
    have : a3 = b3 := by omega
    simp [*]
  have h3 := ((mem_all hy hm _ (Nat.le_refl _) p).1 (ha.subset hp)).2
  have h4 := ((mem_all hy hm _ (Nat.le_refl _) q).1 (hb.subset hq)).2
  rw [hk, h4] at h3
  injection h3 with h3
  exact h3.symm
end
end Go.Proofs.YtlpnecmcncekcaaGreat.Mk
