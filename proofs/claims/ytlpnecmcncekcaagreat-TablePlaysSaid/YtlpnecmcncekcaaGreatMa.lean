import Derived.Test.YtlpnecmcncekcaaGreatPgSi
import Derived.Test.YtlpnecmcncekcaaGreatTabAll
import Derived.Test.YtlpnecmcncekcaaGreatPgT
import Derived.Test.YtlpnecmcncekcaaGreatPgT
import Derived.Test.YtlpnecmcncekcaaGreatPgCO
import Derived.Test.YtlpnecmcncekcaaGreatPgCO
/- The page's row and the shard's map: the same entries, the row by rising keys; each act keeps that. -/
namespace Go.Proofs.YtlpnecmcncekcaaGreat.Mk
open Go Go.RowKit Go.MuLone

/-- the page's row of a map -/
structure QM (ls : List En) (l : List Ms) : Prop where
  perm : ls.Perm (ens l)
  pw : ls.Pairwise fun x y => ltE y x = false
theorem QM.nil : QM [] [] := ⟨List.Perm.refl _, List.Pairwise.nil⟩
theorem QM.len {ls : List En} {l : List Ms} (h : QM ls l) : ls.length = l.length := by have := h.perm.length_eq; simpa [ens] using this
/-- a key's entry is the same in both -/
theorem QM.ent {ls : List En} {l : List Ms} {clock : Nat} (h : QM ls l) (hok : MOk l clock) (k : K3) : qE k ls = entM k l := by
  rcases qf_cases k ls with ⟨-, hall⟩ | ⟨i, hi, -, hk, hb⟩
  · rw [qE_none hall]
    symm
    rw [ent_none]
    intro x hx e
    refine hall x.2.1 (h.perm.symm.subset (List.mem_map.2 ⟨x, hx, rfl⟩)) ?_
    rw [hok.own x hx, e]
  · rw [qE_some hi hk hb]
    have := ent_of_en hok (h.perm.subset (List.getElem_mem hi))
    rw [hk] at this
    exact this.symm
/-- .. with the entry of a key parted off -/
theorem QM.split {ls : List En} {l : List Ms} {clock : Nat} (h : QM ls l) (hok : MOk l clock) {k : K3} (hn : entM k l ≠ none) : ∃ a e b, ls = a ++ e :: b ∧ e.k = k ∧ (∀ x ∈ a, x.k ≠ k) ∧ (∀ x ∈ b, x.k ≠ k) ∧ (qf k ls).toNat = a.length ∧ entM k l = some e := by
  rcases qf_cases k ls with ⟨-, hall⟩ | ⟨i, hi, hq, hk, hb⟩
  · exfalso
    apply hn
    rw [← h.ent hok k, qE_none hall]
  · have e0 : ls = ls.take i ++ ls[i] :: ls.drop (i + 1) := by rw [← List.drop_eq_getElem_cons hi, List.take_append_drop]
    have hnd : (ls.map (·.k)).Nodup := by
      have h1 : ((ens l).map (·.k)).Nodup := by
        have h := hok.keys
        have e : l.map (·.1) = (ens l).map (·.k) := by
          unfold ens
          rw [List.map_map]
          exact (List.map_congr_left fun x hx => (hok.own x hx).symm)
        rwa [e] at h
      exact (h.perm.map _).nodup_iff.2 h1
    rw [e0, List.map_append, List.map_cons] at hnd
    have hnd2 := List.nodup_append.1 hnd
    refine ⟨ls.take i, ls[i], ls.drop (i + 1), e0, hk, fun x hx => ?_, fun x hx => ?_, by rw [hq, Int.toNat_natCast, List.length_take, Nat.min_eq_left (by omega)], by rw [← h.ent hok k]; exact qE_some hi hk hb⟩
    · exact fun e => hnd2.2.2 x.k (List.mem_map.2 ⟨x, hx, rfl⟩) ls[i].k (by simp) (by rw [e, hk])
    · exact fun e => (List.nodup_cons.1 hnd2.2.1).1 (by rw [hk, ← e]; exact List.mem_map.2 ⟨x, hx, rfl⟩)
theorem tw_take {α : Type} (p : α → Bool) : ∀ l : List α, l.take (l.takeWhile p).length = l.takeWhile p ∧ l.drop (l.takeWhile p).length = l.dropWhile p
  | [] => ⟨rfl, rfl⟩
  | x :: l => by
    have ih := tw_take p l
    by_cases h : p x = true
    · rw [List.takeWhile_cons, List.dropWhile_cons, h]
      simp only [if_true, List.length_cons, List.take_succ_cons, List.drop_succ_cons]
      exact ⟨by rw [ih.1], ih.2⟩
    · rw [List.takeWhile_cons, List.dropWhile_cons, if_neg h, if_neg h]
      exact ⟨rfl, rfl⟩
theorem tw_all {α : Type} (p : α → Bool) : ∀ (l : List α), ∀ x ∈ l.takeWhile p, p x = true
  | [], _, h => by cases h
  | y :: l, x, h => by
    by_cases hy : p y = true
    · rw [List.takeWhile_cons, if_pos hy] at h
      rcases List.mem_cons.1 h with rfl | h
      · exact hy
      · exact tw_all p l x h
    · rw [List.takeWhile_cons, if_neg hy] at h
      cases h
theorem dw_all {α : Type} (p : α → Bool) (R : α → α → Prop) (hR : ∀ x y, R x y → p x = false → p y = false) : ∀ (l : List α), l.Pairwise R → ∀ x ∈ l.dropWhile p, p x = false
  | [], _, _, h => by cases h
  | y :: l, hp, x, h => by
    have hp' := List.pairwise_cons.1 hp
    by_cases hy : p y = true
    · rw [List.dropWhile_cons, if_pos hy] at h
      exact dw_all p R hR l hp'.2 x h
    · have hy' : p y = false := by simpa using hy
      rw [List.dropWhile_cons, if_neg hy] at h
      rcases List.mem_cons.1 h with rfl | h
      · exact hy'
      · exact hR y x (hp'.1 x h) hy'
theorem QM.ins {ls : List En} {l : List Ms} {clock : Nat} (h : QM ls l) (k : K3) : QM (qIns k ls) (l ++ [(k, ⟨k, 1, 0⟩, clock)]) := by
  have ht := tw_take (fun e : En => ltK e.k k) ls
  have ha := tw_all (fun e : En => ltK e.k k) ls
  have hd := dw_all (fun e : En => ltK e.k k) _ (fun x y (h1 : ltE y x = false) (h2 : ltK x.k k = false) => (by simp [ltE, ltK] at *; omega : ltK y.k k = false)) ls h.pw
  have hs := h.pw
  have hp := h.perm
  unfold qIns qAt
  rw [ht.1, ht.2]
  have e0 : ls = ls.takeWhile (fun e => ltK e.k k) ++ ls.dropWhile (fun e => ltK e.k k) := (List.takeWhile_append_dropWhile ..).symm
  generalize ls.takeWhile (fun e : En => ltK e.k k) = a at ha e0 ⊢
  generalize ls.dropWhile (fun e : En => ltK e.k k) = b at hd e0 ⊢
  rw [e0] at hs hp
  have hs2 := List.pairwise_append.1 hs
  refine ⟨?_, ?_⟩
  · have e1 : ens (l ++ [(k, ⟨k, 1, 0⟩, clock)]) = ens l ++ [⟨k, 1, 0⟩] := by simp [ens]
    rw [e1]
    exact List.perm_middle.trans ((hp.cons _).trans (List.perm_append_comm (l₁ := [_]) (l₂ := ens l)))
  · rw [List.pairwise_append]
    refine ⟨hs2.1, List.pairwise_cons.2 ⟨fun y hy => hd y hy, hs2.2.1⟩, fun x hx y hy => ?_⟩
    rcases List.mem_cons.1 hy with rfl | hy
    · have := ha x hx
      simp [ltE, ltK] at *; omega
    · exact hs2.2.2 x hx y hy
theorem pw_key {a b : List En} (h : a.map (·.k) = b.map (·.k)) (hp : a.Pairwise fun x y => ltE y x = false) : b.Pairwise fun x y => ltE y x = false := by
  have h1 : (a.map (·.k)).Pairwise fun x y => ltK y x = false := List.pairwise_map.2 hp
  rw [h] at h1
  exact List.pairwise_map.1 h1
theorem QM.put {ls : List En} {l : List Ms} {clock : Nat} (h : QM ls l) (hok : MOk l clock) {k : K3} {e : En} (hn : entM k l ≠ none) (he : e.k = k) : QM (qS k e ls) (putM k e l clock).1 := by
  obtain ⟨a, e0, b, h1, h2, h3, h4, h5, h6⟩ := h.split hok hn
  obtain ⟨a', x, b', g1, g2, g3, g4⟩ := put_old_eq (e := e) (clock := clock) hn
  have hx : x.2.1 = e0 := by
    rw [g1, ent_append_ne g3] at h6
    simp only [entM, g2, if_true] at h6
    injection h6
  unfold qS
  rw [h5, g4]
  have hp := h.perm
  have hs := h.pw
  subst h1 g1
  have hset : (a ++ e0 :: b).set a.length e = a ++ e :: b := by rw [List.set_append_right _ _ (Nat.le_refl _), Nat.sub_self]; rfl
  rw [hset]
  refine ⟨?_, pw_key (by rw [List.map_append, List.map_append, List.map_cons, List.map_cons, h2, he]) hs⟩
  have e1 : ens (a' ++ x :: b') = ens a' ++ e0 :: ens b' := by simp [ens, hx]
  have e2 : ens (a' ++ (k, e, x.2.2) :: b') = ens a' ++ e :: ens b' := by simp [ens]
  rw [e1] at hp
  rw [e2]
  have h7 : (a ++ b).Perm (ens a' ++ ens b') := (List.perm_middle.symm.trans (hp.trans List.perm_middle)).cons_inv
  exact List.perm_middle.trans ((h7.cons e).trans List.perm_middle.symm)
theorem QM.del {ls : List En} {l : List Ms} {clock : Nat} (h : QM ls l) (hok : MOk l clock) {k : K3} (hn : entM k l ≠ none) : QM (ls.eraseIdx (qf k ls).toNat) (delM k l) := by
  obtain ⟨a, e0, b, h1, h2, h3, h4, h5, h6⟩ := h.split hok hn
  obtain ⟨a', x, b', g1, g2, g3, g4⟩ := del_eq hn
  have hx : x.2.1 = e0 := by
    rw [g1, ent_append_ne g3] at h6
    simp only [entM, g2, if_true] at h6
    injection h6
  rw [h5, g4]
  have hp := h.perm
  have hs := h.pw
  subst h1 g1
  rw [erase_mid]
  refine ⟨?_, hs.sublist (List.Sublist.append (List.Sublist.refl a) (List.sublist_cons_self e0 b))⟩
  have e1 : ens (a' ++ x :: b') = ens a' ++ e0 :: ens b' := by simp [ens, hx]
  have e2 : ens (a' ++ b') = ens a' ++ ens b' := by simp [ens]
  rw [e1] at hp
  rw [e2]
  exact (List.perm_middle.symm.trans (hp.trans List.perm_middle)).cons_inv
theorem QM.chg {ls : List En} {l : List Ms} {clock : Nat} (h : QM ls l) (hok : MOk l clock) (st who : Int) (k : K3) : qR st who k ls = chgR st who k l := by
  unfold qR chgR
  rw [h.ent hok k]
  cases entM k l <;> rfl
/-- each act -/
theorem QM.act {ls : List En} {l : List Ms} {clock : Nat} (h : QM ls l) (hok : MOk l clock) (m room who : Int) (k : K3) :
    (qAct (kindOf m) room who k ls).1 = (actRes m room who k l clock).1 ∧ QM (qAct (kindOf m) room who k ls).2 (actRes m room who k l clock).2.1 := by
  have hput : ∀ st who' e, e.k = k → QM (qC st who' k ls (qS k e ls)) (chgL st who' k l clock (putM k e l clock)).1 := fun st who' e he => by
    unfold qC chgL
    rw [h.chg hok]
    by_cases hz : chgR st who' k l = 0
    · rw [if_pos hz, if_pos hz]; exact h.put hok (chg_found hz) he
    · rw [if_neg hz, if_neg hz]; exact h
  unfold qAct actRes kindOf
  by_cases h0 : m = 0
  · subst h0
    simp only [if_true, Int.reduceEq, if_false]
    refine ⟨h.chg hok _ _ _, ?_⟩
    unfold qC chgL
    rw [h.chg hok]
    by_cases hz : chgR 3 0 k l = 0
    · rw [if_pos hz, if_pos hz]; exact h.del hok (chg_found hz)
    · rw [if_neg hz, if_neg hz]; exact h
  rw [if_neg h0]
  by_cases h1 : m = 1
  · rw [if_pos h1, if_pos h1]
    have hr : qiR room k ls = insR room l k := by
      unfold qiR insR
      rw [h.ent hok k, h.len]
      have : (entM k l).isSome = (at? k l 0).isSome := by
        cases h2 : entM k l with
        | none => rw [(at_none l 0).2 h2]; rfl
        | some e =>
          cases h3 : at? k l 0 with
          | none => rw [(at_none l 0).1 h3] at h2; cases h2
          | some _ => rfl
      rw [this]
    refine ⟨hr, ?_⟩
    unfold qiL
    rw [hr]
    rcases insL_cases (room := room) (k := k) (l := l) (clock := clock) with ⟨a, b, -, d⟩ | ⟨a, b⟩
    · rw [if_pos a]
      show QM _ (insL room l clock k).1
      rw [d, put_new_eq b]; exact h.ins k
    · rw [if_neg a]
      show QM _ (insL room l clock k).1
      rw [b]; exact h
  rw [if_neg h1, if_neg h1]
  by_cases h2 : m = 2
  · rw [if_pos h2, if_pos h2]
    by_cases hw : who < 1
    · rw [if_pos hw, if_pos hw]; exact ⟨rfl, h⟩
    · rw [if_neg hw, if_neg hw]; exact ⟨h.chg hok _ _ _, hput 1 who _ rfl⟩
  rw [if_neg h2, if_neg h2]
  by_cases h3 : m = 3
  · rw [if_pos h3, if_pos h3]; exact ⟨h.chg hok _ _ _, hput 2 who _ rfl⟩
  rw [if_neg h3, if_neg h3]
  by_cases h4 : m = 4
  · rw [if_pos h4, if_pos h4]; exact ⟨h.chg hok _ _ _, hput 2 who _ rfl⟩
  rw [if_neg h4, if_neg h4]
  refine ⟨h.chg hok _ _ _, ?_⟩
  unfold qC chgL
  rw [h.chg hok]
  by_cases hz : chgR 3 0 k l = 0
  · rw [if_pos hz, if_pos hz]; exact h.del hok (chg_found hz)
  · rw [if_neg hz, if_neg hz]; exact h
end Go.Proofs.YtlpnecmcncekcaaGreat.Mk
/- Two tables of the same entries, however many shards each has. -/
namespace Go.Proofs.YtlpnecmcncekcaaGreat.Mk
open Go Go.RowKit Go.MuLone

section
variable {m room who : Int} {k : K3} {l l' : List Ms} {clock clock' : Nat}
/-- the entry under an act's key behind it -/
def entAct (m who r : Int) (k : K3) (e : Option En) : Option En :=
  if r = 0 then (if m = 1 then some ⟨k, 1, 0⟩ else if m = 2 then some ⟨k, 2, who⟩ else if m = 3 then some ⟨k, 1, 0⟩ else if m = 4 then some ⟨k, 3, 0⟩ else none) else e
theorem act_ent (hl : MOk l clock) : entM k (actRes m room who k l clock).2.1 = entAct m who (actRes m room who k l clock).1 k (entM k l) := by
  unfold entAct
  by_cases h0 : (actRes m room who k l clock).1 = 0
  · rw [if_pos h0]
    revert h0
    unfold actRes
    by_cases h1 : m = 1
    · rw [if_pos h1, if_pos h1]
      intro h0
      rcases insL_cases (room := room) (k := k) (l := l) (clock := clock) with ⟨_, _, _, e⟩ | ⟨e, _⟩
      · show entM k (insL room l clock k).1 = _
        rw [e, ent_put_own]
      · exact absurd h0 e
    rw [if_neg h1, if_neg h1]
    by_cases h2 : m = 2
    · rw [if_pos h2, if_pos h2]
      by_cases hw : who < 1
      · rw [if_pos hw]; intro h0; cases h0
      · rw [if_neg hw]
        intro h0
        rcases chgL_cases (k := k) (l := l) (clock := clock) 1 who (putM k ⟨k, 2, who⟩ l clock) with ⟨_, e⟩ | ⟨e, _⟩
        · show entM k (chgL 1 who k l clock _).1 = _
          rw [e, ent_put_own]
        · exact absurd h0 e
    rw [if_neg h2, if_neg h2]
    by_cases h3 : m = 3
    · rw [if_pos h3, if_pos h3]
      intro h0
      rcases chgL_cases (k := k) (l := l) (clock := clock) 2 who (putM k ⟨k, 1, 0⟩ l clock) with ⟨_, e⟩ | ⟨e, _⟩
      · show entM k (chgL 2 who k l clock _).1 = _
        rw [e, ent_put_own]
      · exact absurd h0 e
    rw [if_neg h3, if_neg h3]
    by_cases h4 : m = 4
    · rw [if_pos h4, if_pos h4]
      intro h0
      rcases chgL_cases (k := k) (l := l) (clock := clock) 2 who (putM k ⟨k, 3, 0⟩ l clock) with ⟨_, e⟩ | ⟨e, _⟩
      · show entM k (chgL 2 who k l clock _).1 = _
        rw [e, ent_put_own]
      · exact absurd h0 e
    rw [if_neg h4, if_neg h4]
    intro h0
    rcases chgL_cases (k := k) (l := l) (clock := clock) 3 0 (delM k l, clock) with ⟨a, e⟩ | ⟨e, _⟩
    · show entM k (chgL 3 0 k l clock _).1 = _
      rw [e]
      exact ent_del_own hl (chg_found a)
    · exact absurd h0 e
  · rw [if_neg h0, act_none h0]
theorem chg_same (he : entM k l = entM k l') (st w : Int) : chgR st w k l = chgR st w k l' := by unfold chgR; rw [he]
theorem act_ans (he : entM k l = entM k l') (h6 : (actRes m room who k l clock).1 ≠ 6) (h6' : (actRes m room who k l' clock').1 ≠ 6) : (actRes m room who k l clock).1 = (actRes m room who k l' clock').1 := by
  revert h6 h6'
  unfold actRes
  by_cases h1 : m = 1
  · rw [if_pos h1, if_pos h1]
    show insR room l k ≠ 6 → insR room l' k ≠ 6 → insR room l k = insR room l' k
    unfold insR
    have e : (at? k l 0).isSome = (at? k l' 0).isSome := by
      have a := at_none (k := k) l 0
      have b := at_none (k := k) l' 0
      rw [← he] at b
      cases h2 : at? k l 0 <;> cases h3 : at? k l' 0 <;> simp_all
    rw [e]
    intro a b
    split
    · rfl
    · rename_i hn
      rw [if_neg hn] at a b
      split at a
      · exact absurd rfl a
      · split at b
        · exact absurd rfl b
        · rw [if_neg (by assumption), if_neg (by assumption)]
  rw [if_neg h1, if_neg h1]
  by_cases h2 : m = 2
  · rw [if_pos h2, if_pos h2]
    by_cases hw : who < 1
    · rw [if_pos hw, if_pos hw]; intro _ _; rfl
    · rw [if_neg hw, if_neg hw]; intro _ _; exact chg_same he 1 who
  rw [if_neg h2, if_neg h2]
  by_cases h3 : m = 3
  · rw [if_pos h3, if_pos h3]; intro _ _; exact chg_same he 2 who
  rw [if_neg h3, if_neg h3]
  by_cases h4 : m = 4
  · rw [if_pos h4, if_pos h4]; intro _ _; exact chg_same he 2 who
  rw [if_neg h4, if_neg h4]; intro _ _; exact chg_same he 3 0
end
/-- the entry of a key in a table -/
def tEnt (n : Nat) (M : Maps) (k : K3) : Option En := entM k (M (own n k)).1
theorem tmaps_own (o : Op9) (n : Nat) (room : Int) (M : Maps) : tMaps o n room M (own n o.k) = (tRes o room (M (own n o.k))).2 := upd_at
theorem tent_other (o : Op9) (n : Nat) (room : Int) (M : Maps) (k : K3) (hk : k ≠ o.k) : tEnt n (tMaps o n room M) k = tEnt n M k := by
  unfold tEnt
  by_cases e : own n k = own n o.k
  · rw [e, tmaps_own]
    unfold tRes
    by_cases h : 1 ≤ o.kd ∧ o.kd ≤ 5
    · rw [if_pos h]; exact act_other hk
    · rw [if_neg h]
  · unfold tMaps
    rw [upd_off e]
theorem tent_own (o : Op9) {y : Lay} {M : Maps} (hy : y.ok) (hm : MapsOk y M) : tEnt y.n (tMaps o y.n y.room M) o.k = if 1 ≤ o.kd ∧ o.kd ≤ 5 then entAct (o.kd % 5) o.who (tAns o y.n y.room M) o.k (tEnt y.n M o.k) else tEnt y.n M o.k := by
  unfold tEnt tAns
  rw [tmaps_own]
  unfold tRes
  by_cases h : 1 ≤ o.kd ∧ o.kd ≤ 5
  · rw [if_pos h, if_pos h]
    exact act_ent (hm.ok _ (own_lt hy.n0 o.k))
  · rw [if_neg h, if_neg h]
/-- two tables have the same entries -/
def Ali (n : Nat) (M : Maps) (n' : Nat) (M' : Maps) : Prop := ∀ k, tEnt n M k = tEnt n' M' k
section
variable {y y' : Lay} {M M' : Maps}
theorem ali_ans (o : Op9) (hr : y.room = y'.room) (h : Ali y.n M y'.n M') (h6 : tAns o y.n y.room M ≠ 6) (h6' : tAns o y'.n y'.room M' ≠ 6) : tAns o y.n y.room M = tAns o y'.n y'.room M' := by
  have he := h o.k
  revert h6 h6'
  unfold tEnt at he
  unfold tAns tRes
  by_cases h : 1 ≤ o.kd ∧ o.kd ≤ 5
  · rw [if_pos h, if_pos h, hr]
    exact act_ans he
  · rw [if_neg h, if_neg h]
    intro _ _; rfl
theorem ali_step (o : Op9) (hy : y.ok) (hy' : y'.ok) (hm : MapsOk y M) (hm' : MapsOk y' M') (h : Ali y.n M y'.n M') (ha : tAns o y.n y.room M = tAns o y'.n y'.room M') : Ali y.n (tMaps o y.n y.room M) y'.n (tMaps o y'.n y'.room M') := by
  intro k
  by_cases hk : k = o.k
  · rw [hk, tent_own o hy hm, tent_own o hy' hm', ha, h o.k]
  · rw [tent_other o _ _ _ k hk, tent_other o _ _ _ k hk]
    exact h k
theorem own_of (hy : y.ok) (hm : MapsOk y M) {i : Nat} (hi : i < y.n) {x : Ms} (hx : x ∈ (M i).1) : own y.n x.1 = i := by
  have h1 := hm.key i hi x hx
  rw [own_eq hy.n0] at h1
  exact_mod_cast h1
theorem mem_all (hy : y.ok) (hm : MapsOk y M) : ∀ k, k ≤ y.n → ∀ e, e ∈ allE M k ↔ (own y.n e.k < k ∧ tEnt y.n M e.k = some e)
  | 0, _, e => by simp [allE]
  | k + 1, hk, e => by
    simp only [allE, List.mem_append]
    rw [mem_all hy hm k (by omega) e]
    constructor
    · rintro (⟨h1, h2⟩ | h)
      · exact ⟨by omega, h2⟩
      · obtain ⟨x, hx, rfl⟩ := List.mem_map.1 h
        have hown := (hm.ok k (by omega)).own x hx
        have h3 := own_of hy hm (by omega : k < y.n) hx
        rw [hown, h3]
        refine ⟨by omega, ?_⟩
        unfold tEnt
        rw [h3]
        exact ent_of_mem (hm.ok k (by omega)).keys x hx
    · rintro ⟨h1, h2⟩
      by_cases h3 : own y.n e.k < k
      · exact Or.inl ⟨h3, h2⟩
      · have h4 : own y.n e.k = k := by omega
        unfold tEnt at h2
        rw [h4] at h2
        obtain ⟨x, hx, _, h5⟩ := ent_mem h2
        exact Or.inr (List.mem_map.2 ⟨x, hx, h5⟩)
theorem nodup_all (hy : y.ok) (hm : MapsOk y M) : ∀ k, k ≤ y.n → (allE M k).Nodup
  | 0, _ => by simp [allE]
  | k + 1, hk => by
    simp only [allE]
    refine List.nodup_append.2 ⟨nodup_all hy hm k (by omega), ?_, fun a ha b hb e => ?_⟩
    · have h1 := (hm.ok k (by omega)).keys
      have h2 : ((ens (M k).1).map (·.k)).Nodup := by
        have : (ens (M k).1).map (·.k) = (M k).1.map (·.1) := by
          unfold ens
          rw [List.map_map]
          exact List.map_congr_left fun x hx => (hm.ok k (by omega)).own x hx
        rw [this]; exact h1
      exact List.Pairwise.of_map (fun x : En => x.k) (fun a b h e => h (by rw [e])) h2
    · subst e
      have h1 := ((mem_all hy hm k (by omega) a).1 ha).1
      obtain ⟨x, hx, rfl⟩ := List.mem_map.1 hb
      rw [(hm.ok k (by omega)).own x hx, own_of hy hm (by omega : k < y.n) hx] at h1
      omega
theorem ali_all (hy : y.ok) (hy' : y'.ok) (hm : MapsOk y M) (hm' : MapsOk y' M') (h : Ali y.n M y'.n M') : (allE M y.n).Perm (allE M' y'.n) := by
  refine (List.perm_ext_iff_of_nodup (nodup_all hy hm _ (Nat.le_refl _)) (nodup_all hy' hm' _ (Nat.le_refl _))).2 fun e => ?_
  rw [mem_all hy hm _ (Nat.le_refl _), mem_all hy' hm' _ (Nat.le_refl _), h e.k]
  have a := own_lt hy.n0 e.k
  have b := own_lt hy'.n0 e.k
  exact ⟨fun ⟨_, x⟩ => ⟨b, x⟩, fun ⟨_, x⟩ => ⟨a, x⟩⟩
theorem all_sorted (hy : y.ok) (hm : MapsOk y M) {a b : List En} (ha : a.Perm (allE M y.n)) (hb : b.Perm (allE M y.n)) (pa : a.Pairwise fun x y => ltE y x = false) (pb : b.Pairwise fun x y => ltE y x = false) : a = b := by
  refine List.Perm.eq_of_pairwise (le := fun x y => ltE y x = false) (fun p q hp hq h1 h2 => ?_) pa pb (ha.trans hb.symm)
  have hk : p.k = q.k := by
    have h3 := h1; have h4 := h2
    simp [ltE, ltK] at h3 h4
    obtain ⟨⟨a1, a2, a3⟩, _, _⟩ := p
    obtain ⟨⟨b1, b2, b3⟩, _, _⟩ := q
    simp at h3 h4
    have : a1 = b1 := by omega
    have : a2 = b2 := by omega
    have : a3 = b3 := by omega
    simp [*]
  have h3 := ((mem_all hy hm _ (Nat.le_refl _) p).1 (ha.subset hp)).2
  have h4 := ((mem_all hy hm _ (Nat.le_refl _) q).1 (hb.subset hq)).2
  rw [hk, h4] at h3
  injection h3 with h3
  exact h3.symm
end
end Go.Proofs.YtlpnecmcncekcaaGreat.Mk
/- TablePlays: the law's world: the program's table, the page's. -/
namespace Go.Proofs.YtlpnecmcncekcaaGreat.Mk
open Go Go.RowKit Go.MuLone Conf
set_option linter.unusedVariables false

/-- the first k of the page's shards' entries -/
def allL (ls : Nat → List En) : Nat → List En
  | 0 => []
  | k + 1 => allL ls k ++ ls k
theorem allL_perm {ls : Nat → List En} {M : Maps} : ∀ (n : Nat), (∀ i, i < n → (ls i).Perm (ens (M i).1)) → (allL ls n).Perm (allE M n)
  | 0, _ => List.Perm.refl _
  | n + 1, h => (allL_perm n fun i hi => h i (by omega)).append (h n (by omega))
/-- an entry is put where it belongs -/
theorem ins_ok {x : En} {L : List En} {j : Nat} (hj : (L.takeWhile fun e => ltK e.k x.k).length = j) (hp : L.Pairwise fun a b => ltE b a = false) :
    (L.take j ++ x :: L.drop j).Perm (L ++ [x]) ∧ (L.take j ++ x :: L.drop j).Pairwise (fun a b => ltE b a = false) := by
  have ht := tw_take (fun e : En => ltK e.k x.k) L
  have ha := tw_all (fun e : En => ltK e.k x.k) L
  have hd := dw_all (fun e : En => ltK e.k x.k) _ (fun a b (h1 : ltE b a = false) (h2 : ltK a.k x.k = false) => (by simp [ltE, ltK] at *; omega : ltK b.k x.k = false)) L hp
  rw [← hj, ht.1, ht.2]
  have e0 : L = L.takeWhile (fun e => ltK e.k x.k) ++ L.dropWhile (fun e => ltK e.k x.k) := (List.takeWhile_append_dropWhile ..).symm
  generalize L.takeWhile (fun e : En => ltK e.k x.k) = a at ha e0 ⊢
  generalize L.dropWhile (fun e : En => ltK e.k x.k) = b at hd e0 ⊢
  rw [e0] at hp ⊢
  have hs2 := List.pairwise_append.1 hp
  refine ⟨List.perm_middle.trans (List.perm_append_comm (l₁ := [x]) (l₂ := a ++ b)), ?_⟩
  rw [List.pairwise_append]
  refine ⟨hs2.1, List.pairwise_cons.2 ⟨fun y hy => hd y hy, hs2.2.1⟩, fun u hu y hy => ?_⟩
  rcases List.mem_cons.1 hy with rfl | hy
  · have := ha u hu
    simp [ltE, ltK] at *; omega
  · exact hs2.2.2 u hu y hy
/-- the law's world -/
structure TPW (W V : World) (y : Lay) (M : Maps) (T g cap lo : Nat) (q : Nat → Nat) (v : Nat → Value) (ls : Nat → List En) : Prop where
  wt : WT V y M
  pt : PT V T g cap y.n lo y.room q v ls
  hi : y.hi ≤ lo
  lo0 : W.heap.size ≤ y.lo
  qm : ∀ i, i < y.n → QM (ls i) (M i).1
  ok : MapsOk y M
  bel : Below W.heap.size W V
section
variable {W V X : World} {y : Lay} {M : Maps} {T g cap lo : Nat} {q : Nat → Nat} {v : Nat → Value} {ls : Nat → List En}
theorem TPW.loV (h : TPW W V y M T g cap lo q v ls) : lo ≤ V.heap.size := by have := h.pt.lo.1; have := h.pt.ltT; omega
theorem TPW.hiV (h : TPW W V y M T g cap lo q v ls) : y.hi ≤ V.heap.size := Nat.le_trans h.hi h.loV
theorem TPW.below (h : TPW W V y M T g cap lo q v ls) (hy : y.ok) (b : Below V.heap.size V X) : TPW W X y M T g cap lo q v ls :=
  ⟨h.wt.below hy b, h.pt.below b, h.hi, h.lo0, h.qm, h.ok, h.bel.trans (b.mono h.bel.size)⟩
theorem TPW.drew (h : TPW W V y M T g cap lo q v ls) : TPW W V.drew y M T g cap lo q v ls :=
  ⟨h.wt.drew, h.pt.drew, h.hi, h.lo0, h.qm, h.ok, h.bel.drew⟩
/-- the program's table is asked -/
theorem TPW.rng (h : TPW W V y M T g cap lo q v ls) (hy : y.ok) (hw : WT X y M) (r : Rng y.lo y.hi V X) : TPW W X y M T g cap lo q v ls :=
  ⟨hw, h.pt.keep fun k h1 h2 => r.block k h2 (Or.inr (Nat.le_trans h.hi h1)), h.hi, h.lo0, h.qm, h.ok, Rng.below h.bel r h.lo0 h.bel.size⟩
theorem TPW.only (h : TPW W V y M T g cap lo q v ls) (hy : y.ok) {j : Nat} (hj : j < y.n) (hw : WT X y M) (r : Only2 (y.sh j) (y.mp j) V X) : TPW W X y M T g cap lo q v ls :=
  h.rng hy hw (Rng.of_only r (hy.rs j hj).1 (hy.rs j hj).2)
theorem ls_len (hm : MapsOk y M) (hy : y.ok) (hq : ∀ i, i < y.n → QM (ls i) (M i).1) : ∀ i, i < y.n → (ls i).length ≤ 64 := fun i hi => by
  have := hm.len i hi
  have := (hq i hi).len
  have := hy.r64
  omega
theorem allL_len (hy : y.ok) (h : ∀ i, i < y.n → (ls i).length ≤ 64) : ∀ k, k ≤ y.n → (allL ls k).length ≤ k * 64
  | 0, _ => by simp [allL]
  | k + 1, hk => by
    have h1 := allL_len hy h k (by omega)
    have h2 := h k (by omega)
    simp only [allL, List.length_append]
    omega
/-- each operation: both tables answer alike, and stay alike -/
theorem act_alike (o : Op9) (hk : 1 ≤ o.kd ∧ o.kd ≤ 5) (hy : y.ok) (hm : MapsOk y M) (hq : ∀ i, i < y.n → QM (ls i) (M i).1) :
    (qAct o.kd y.room o.who o.k (ls (own y.n o.k))).1 = tAns o y.n y.room M ∧ ∀ i, i < y.n → QM (updL ls (own y.n o.k) (qAct o.kd y.room o.who o.k (ls (own y.n o.k))).2 i) (tMaps o y.n y.room M i).1 := by
  have hj := own_lt hy.n0 o.k
  have ha := (hq _ hj).act (hm.ok _ hj) (o.kd % 5) y.room o.who o.k
  have hkd : kindOf (o.kd % 5) = o.kd := by unfold kindOf; split <;> omega
  rw [hkd] at ha
  have hr : tRes o y.room (M (own y.n o.k)) = actRes (o.kd % 5) y.room o.who o.k (M (own y.n o.k)).1 (M (own y.n o.k)).2 := by unfold tRes; rw [if_pos hk]
  refine ⟨by unfold tAns; rw [hr]; exact ha.1, fun i hi => ?_⟩
  unfold tMaps updL upd
  by_cases e : i = own y.n o.k
  · rw [if_pos e, if_pos e, hr]; exact ha.2
  · rw [if_neg e, if_neg e]; exact hq i hi
theorem bad_alike (o : Op9) (hk : ¬ (1 ≤ o.kd ∧ o.kd ≤ 5)) : tAns o y.n y.room M = 1 ∧ tMaps o y.n y.room M = M := by
  have hr : tRes o y.room (M (own y.n o.k)) = (1, (M (own y.n o.k)).1, (M (own y.n o.k)).2) := by unfold tRes; rw [if_neg hk]
  exact ⟨by unfold tAns; rw [hr], by unfold tMaps; rw [hr]; exact upd_self⟩
end
end Go.Proofs.YtlpnecmcncekcaaGreat.Mk
