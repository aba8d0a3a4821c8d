/- The page's row and the shard's map: the same entries, the row by rising keys; each act keeps that. -/
import Derived.Test.YtmdjhcpafjgigaaPgShard5
namespace Go.Proofs.Ytmdjhcpafjgigaa.Mk
open Go Go.RowKit Go.MuLone

/-- the page's row of a map -/
structure QM (ls : List En) (l : List Ms) : Prop where
  perm : ls.Perm (ens l)
  pw : ls.Pairwise fun x y => ltE y x = false
theorem QM.nil : QM [] [] := ⟨List.Perm.refl _, List.Pairwise.nil⟩
theorem QM.len {ls : List En} {l : List Ms} (h : QM ls l) : ls.length = l.length := by have := h.perm.length_eq; simpa [ens] using this
/-- a key's entry is the same in both -/
theorem QM.ent {ls : List En} {l : List Ms} {clock : Nat} (h : QM ls l) (hok : MOk l clock) (k : K3) : qE k ls = entM k l := by
  rcases qf_cases k ls with ⟨-, hall⟩ | ⟨i, hi, -, hk, hb⟩
  · rw [qE_none hall]
    symm
    rw [ent_none]
    intro x hx e
    refine hall x.2.1 (h.perm.symm.subset (List.mem_map.2 ⟨x, hx, rfl⟩)) ?_
    rw [hok.own x hx, e]
  · rw [qE_some hi hk hb]
    have := ent_of_en hok (h.perm.subset (List.getElem_mem hi))
    rw [hk] at this
    exact this.symm
/-- .. with the entry of a key parted off -/
theorem QM.split {ls : List En} {l : List Ms} {clock : Nat} (h : QM ls l) (hok : MOk l clock) {k : K3} (hn : entM k l ≠ none) : ∃ a e b, ls = a ++ e :: b ∧ e.k = k ∧ (∀ x ∈ a, x.k ≠ k) ∧ (∀ x ∈ b, x.k ≠ k) ∧ (qf k ls).toNat = a.length ∧ entM k l = some e := by
  rcases qf_cases k ls with ⟨-, hall⟩ | ⟨i, hi, hq, hk, hb⟩
  · exfalso
    apply hn
    rw [← h.ent hok k, qE_none hall]
  · have e0 : ls = ls.take i ++ ls[i] :: ls.drop (i + 1) := by rw [← List.drop_eq_getElem_cons hi, List.take_append_drop]
    have hnd : (ls.map (·.k)).Nodup := by
      have h1 : ((ens l).map (·.k)).Nodup := by
        have h := hok.keys
        have e : l.map (·.1) = (ens l).map (·.k) := by
          unfold ens
          rw [List.map_map]
          exact (List.map_congr_left fun x hx => (hok.own x hx).symm)
        rwa [e] at h
      exact (h.perm.map _).nodup_iff.2 h1
    rw [e0, List.map_append, List.map_cons] at hnd
    have hnd2 := List.nodup_append.1 hnd
    refine ⟨ls.take i, ls[i], ls.drop (i + 1), e0, hk, fun x hx => ?_, fun x hx => ?_, by rw [hq, Int.toNat_natCast, List.length_take, Nat.min_eq_left (by omega)], by rw [← h.ent hok k]; exact qE_some hi hk hb⟩
    · exact fun e => hnd2.2.2 x.k (List.mem_map.2 ⟨x, hx, rfl⟩) ls[i].k (by simp) (by rw [e, hk])
    · exact fun e => (List.nodup_cons.1 hnd2.2.1).1 (by rw [hk, ← e]; exact List.mem_map.2 ⟨x, hx, rfl⟩)
theorem tw_take {α : Type} (p : α → Bool) : ∀ l : List α, l.take (l.takeWhile p).length = l.takeWhile p ∧ l.drop (l.takeWhile p).length = l.dropWhile p
  | [] => ⟨rfl, rfl⟩
  | x :: l => by
    have ih := tw_take p l
    by_cases h : p x = true
    · rw [List.takeWhile_cons, List.dropWhile_cons, h]
      simp only [if_true, List.length_cons, List.take_succ_cons, List.drop_succ_cons]
      exact ⟨by rw [ih.1], ih.2⟩
    · rw [List.takeWhile_cons, List.dropWhile_cons, if_neg h, if_neg h]
      exact ⟨rfl, rfl⟩
theorem tw_all {α : Type} (p : α → Bool) : ∀ (l : List α), ∀ x ∈ l.takeWhile p, p x = true
  | [], _, h => by cases h
  | y :: l, x, h => by
    by_cases hy : p y = true
    · rw [List.takeWhile_cons, if_pos hy] at h
      rcases List.mem_cons.1 h with rfl | h
      · exact hy
      · exact tw_all p l x h
    · rw [List.takeWhile_cons, if_neg hy] at h
      cases h
theorem dw_all {α : Type} (p : α → Bool) (R : α → α → Prop) (hR : ∀ x y, R x y → p x = false → p y = false) : ∀ (l : List α), l.Pairwise R → ∀ x ∈ l.dropWhile p, p x = false
  | [], _, _, h => by cases h
  | y :: l, hp, x, h => by
    have hp' := List.pairwise_cons.1 hp
    by_cases hy : p y = true
    · rw [List.dropWhile_cons, if_pos hy] at h
      exact dw_all p R hR l hp'.2 x h
    · have hy' : p y = false := by simpa using hy
      rw [List.dropWhile_cons, if_neg hy] at h
      rcases List.mem_cons.1 h with rfl | h
      · exact hy'
      · exact hR y x (hp'.1 x h) hy'
theorem QM.ins {ls : List En} {l : List Ms} {clock : Nat} (h : QM ls l) (k : K3) : QM (qIns k ls) (l ++ [(k, ⟨k, 1, 0⟩, clock)]) := by
  have ht := tw_take (fun e : En => ltK e.k k) ls
  have ha := tw_all (fun e : En => ltK e.k k) ls
  have hd := dw_all (fun e : En => ltK e.k k) _ (fun x y (h1 : ltE y x = false) (h2 : ltK x.k k = false) => (by simp [ltE, ltK] at *; omega : ltK y.k k = false)) ls h.pw
  have hs := h.pw
  have hp := h.perm
  unfold qIns qAt
  rw [ht.1, ht.2]
  have e0 : ls = ls.takeWhile (fun e => ltK e.k k) ++ ls.dropWhile (fun e => ltK e.k k) := (List.takeWhile_append_dropWhile ..).symm
  generalize ls.takeWhile (fun e : En => ltK e.k k) = a at ha e0 ⊢
  generalize ls.dropWhile (fun e : En => ltK e.k k) = b at hd e0 ⊢
  rw [e0] at hs hp
  have hs2 := List.pairwise_append.1 hs
  refine ⟨?_, ?_⟩
  · have e1 : ens (l ++ [(k, ⟨k, 1, 0⟩, clock)]) = ens l ++ [⟨k, 1, 0⟩] := by simp [ens]
    rw [e1]
    exact List.perm_middle.trans ((hp.cons _).trans (List.perm_append_comm (l₁ := [_]) (l₂ := ens l)))
  · rw [List.pairwise_append]
    refine ⟨hs2.1, List.pairwise_cons.2 ⟨fun y hy => hd y hy, hs2.2.1⟩, fun x hx y hy => ?_⟩
    rcases List.mem_cons.1 hy with rfl | hy
    · have := ha x hx
      simp [ltE, ltK] at *; omega
    · exact hs2.2.2 x hx y hy
theorem pw_key {a b : List En} (h : a.map (·.k) = b.map (·.k)) (hp : a.Pairwise fun x y => ltE y x = false) : b.Pairwise fun x y => ltE y x = false := by
  have h1 : (a.map (·.k)).Pairwise fun x y => ltK y x = false := List.pairwise_map.2 hp
  rw [h] at h1
  exact List.pairwise_map.1 h1
theorem QM.put {ls : List En} {l : List Ms} {clock : Nat} (h : QM ls l) (hok : MOk l clock) {k : K3} {e : En} (hn : entM k l ≠ none) (he : e.k = k) : QM (qS k e ls) (putM k e l clock).1 := by
  obtain ⟨a, e0, b, h1, h2, h3, h4, h5, h6⟩ := h.split hok hn
  obtain ⟨a', x, b', g1, g2, g3, g4⟩ := put_old_eq (e := e) (clock := clock) hn
  have hx : x.2.1 = e0 := by
    rw [g1, ent_append_ne g3] at h6
    simp only [entM, g2, if_true] at h6
    injection h6
  unfold qS
  rw [h5, g4]
  have hp := h.perm
  have hs := h.pw
  subst h1 g1
  have hset : (a ++ e0 :: b).set a.length e = a ++ e :: b := by rw [List.set_append_right _ _ (Nat.le_refl _), Nat.sub_self]; rfl
  rw [hset]
  refine ⟨?_, pw_key (by rw [List.map_append, List.map_append, List.map_cons, List.map_cons, h2, he]) hs⟩
  have e1 : ens (a' ++ x :: b') = ens a' ++ e0 :: ens b' := by simp [ens, hx]
  have e2 : ens (a' ++ (k, e, x.2.2) :: b') = ens a' ++ e :: ens b' := by simp [ens]
  rw [e1] at hp
  rw [e2]
  have h7 : (a ++ b).Perm (ens a' ++ ens b') := (List.perm_middle.symm.trans (hp.trans List.perm_middle)).cons_inv
  exact List.perm_middle.trans ((h7.cons e).trans List.perm_middle.symm)
theorem QM.del {ls : List En} {l : List Ms} {clock : Nat} (h : QM ls l) (hok : MOk l clock) {k : K3} (hn : entM k l ≠ none) : QM (ls.eraseIdx (qf k ls).toNat) (delM k l) := by
  obtain ⟨a, e0, b, h1, h2, h3, h4, h5, h6⟩ := h.split hok hn
  obtain ⟨a', x, b', g1, g2, g3, g4⟩ := del_eq hn
  have hx : x.2.1 = e0 := by
    rw [g1, ent_append_ne g3] at h6
    simp only [entM, g2, if_true] at h6
    injection h6
  rw [h5, g4]
  have hp := h.perm
  have hs := h.pw
  subst h1 g1
  rw [erase_mid]
  refine ⟨?_, hs.sublist (List.Sublist.append (List.Sublist.refl a) (List.sublist_cons_self e0 b))⟩
  have e1 : ens (a' ++ x :: b') = ens a' ++ e0 :: ens b' := by simp [ens, hx]
  have e2 : ens (a' ++ b') = ens a' ++ ens b' := by simp [ens]
  rw [e1] at hp
  rw [e2]
  exact (List.perm_middle.symm.trans (hp.trans List.perm_middle)).cons_inv
theorem QM.chg {ls : List En} {l : List Ms} {clock : Nat} (h : QM ls l) (hok : MOk l clock) (st who : Int) (k : K3) : qR st who k ls = chgR st who k l := by
  unfold qR chgR
  rw [h.ent hok k]
  cases entM k l <;> rfl
/-- each act -/
theorem QM.act {ls : List En} {l : List Ms} {clock : Nat} (h : QM ls l) (hok : MOk l clock) (m room who : Int) (k : K3) :
    (qAct (kindOf m) room who k ls).1 = (actRes m room who k l clock).1 ∧ QM (qAct (kindOf m) room who k ls).2 (actRes m room who k l clock).2.1 := by
  have hput : ∀ st who' e, e.k = k → QM (qC st who' k ls (qS k e ls)) (chgL st who' k l clock (putM k e l clock)).1 := fun st who' e he => by
    unfold qC chgL
    rw [h.chg hok]
    by_cases hz : chgR st who' k l = 0
    · rw [if_pos hz, if_pos hz]; exact h.put hok (chg_found hz) he
    · rw [if_neg hz, if_neg hz]; exact h
  unfold qAct actRes kindOf
  by_cases h0 : m = 0
  · subst h0
    simp only [if_true, Int.reduceEq, if_false]
    refine ⟨h.chg hok _ _ _, ?_⟩
    unfold qC chgL
    rw [h.chg hok]
    by_cases hz : chgR 3 0 k l = 0
    · rw [if_pos hz, if_pos hz]; exact h.del hok (chg_found hz)
    · rw [if_neg hz, if_neg hz]; exact h
  rw [if_neg h0]
  by_cases h1 : m = 1
  · rw [if_pos h1, if_pos h1]
    have hr : qiR room k ls = insR room l k := by
      unfold qiR insR
      rw [h.ent hok k, h.len]
      have : (entM k l).isSome = (at? k l 0).isSome := by
        cases h2 : entM k l with
        | none => rw [(at_none l 0).2 h2]; rfl
        | some e =>
          cases h3 : at? k l 0 with
          | none => rw [(at_none l 0).1 h3] at h2; cases h2
          | some _ => rfl
      rw [this]
    refine ⟨hr, ?_⟩
    unfold qiL
    rw [hr]
    rcases insL_cases (room := room) (k := k) (l := l) (clock := clock) with ⟨a, b, -, d⟩ | ⟨a, b⟩
    · rw [if_pos a]
      show QM _ (insL room l clock k).1
      rw [d, put_new_eq b]; exact h.ins k
    · rw [if_neg a]
      show QM _ (insL room l clock k).1
      rw [b]; exact h
  rw [if_neg h1, if_neg h1]
  by_cases h2 : m = 2
  · rw [if_pos h2, if_pos h2]
    by_cases hw : who < 1
    · rw [if_pos hw, if_pos hw]; exact ⟨rfl, h⟩
    · rw [if_neg hw, if_neg hw]; exact ⟨h.chg hok _ _ _, hput 1 who _ rfl⟩
  rw [if_neg h2, if_neg h2]
  by_cases h3 : m = 3
  · rw [if_pos h3, if_pos h3]; exact ⟨h.chg hok _ _ _, hput 2 who _ rfl⟩
  rw [if_neg h3, if_neg h3]
  by_cases h4 : m = 4
  · rw [if_pos h4, if_pos h4]; exact ⟨h.chg hok _ _ _, hput 2 who _ rfl⟩
  rw [if_neg h4, if_neg h4]
  refine ⟨h.chg hok _ _ _, ?_⟩
  unfold qC chgL
  rw [h.chg hok]
  by_cases hz : chgR 3 0 k l = 0
  · rw [if_pos hz, if_pos hz]; exact h.del hok (chg_found hz)
  · rw [if_neg hz, if_neg hz]; exact h
end Go.Proofs.Ytmdjhcpafjgigaa.Mk
