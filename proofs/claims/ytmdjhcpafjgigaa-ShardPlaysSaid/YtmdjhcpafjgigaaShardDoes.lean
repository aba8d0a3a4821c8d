/- What is done with a shard that New made: 'does'. -/
import Derived.Test.YtmdjhcpafjgigaaShardMath
import Derived.Test.YtmdjhcpafjgigaaShardAwake
namespace Go.Proofs.Ytmdjhcpafjgigaa.Mk
open Go Go.RowKit Go.MuLone

set_option maxRecDepth 20000 in
theorem claim_few (S : Nat) (who : Int) (k : K3) (W : World) (hw : who < 1) : Calls Try.prog 16 #[.pointer (some ⟨S, 0, none⟩), k.val, .int .i64 who] W fun e w' => e = .returned (.int .i64 1) ∧ Below W.heap.size W w' := by
  obtain ⟨kc, kf, ks⟩ := k
  unfold K3.val
  have b2 := ((Below.refl W.heap.size W).alloc (Nat.le_refl _) (.cells #[.pointer (some ⟨S, 0, none⟩)] 24)).alloc (by simp) (.cells #[.int .i64 kc, .int .i64 kf, .int .u64 ks] 35)
  have b3 := b2.alloc (by simp; try omega) (.cells #[.int .i64 who] 3)
  go_enter Try.func16, Try.ntmps16
  go_wp2
  go_ret
  exact ⟨rfl, b3⟩
/-- what an act answers, and what the map is behind it; m: its kind, modulo 5 -/
def actRes (m room who : Int) (k : K3) (l : List Ms) (clock : Nat) : Int × List Ms × Nat :=
  if m = 1 then (insR room l k, insL room l clock k)
  else if m = 2 then (if who < 1 then (1, l, clock) else (chgR 1 who k l, chgL 1 who k l clock (putM k ⟨k, 2, who⟩ l clock)))
  else if m = 3 then (chgR 2 who k l, chgL 2 who k l clock (putM k ⟨k, 1, 0⟩ l clock))
  else if m = 4 then (chgR 2 who k l, chgL 2 who k l clock (putM k ⟨k, 3, 0⟩ l clock))
  else (chgR 3 0 k l, chgL 3 0 k l clock (delM k l, clock))
section
variable {m room who : Int} {k : K3} {l : List Ms} {clock : Nat}
theorem chg_found {st who : Int} (h : chgR st who k l = 0) : entM k l ≠ none := by
  intro e
  simp [chgR, e] at h
theorem chgL_cases (st who : Int) (P : List Ms × Nat) : (chgR st who k l = 0 ∧ chgL st who k l clock P = P) ∨ (chgR st who k l ≠ 0 ∧ chgL st who k l clock P = (l, clock)) := by
  unfold chgL
  by_cases h : chgR st who k l = 0
  · exact Or.inl ⟨h, if_pos h⟩
  · exact Or.inr ⟨h, if_neg h⟩
theorem insL_cases : (insR room l k = 0 ∧ entM k l = none ∧ (l.length : Int) < room ∧ insL room l clock k = putM k ⟨k, 1, 0⟩ l clock) ∨ (insR room l k ≠ 0 ∧ insL room l clock k = (l, clock)) := by
  unfold insL
  by_cases h : insR room l k = 0
  · refine Or.inl ⟨h, ?_, ?_, if_pos h⟩
    · unfold insR at h
      by_cases h1 : (at? k l 0).isSome
      · rw [if_pos h1] at h; cases h
      · exact (at_none l 0).1 (by simpa using h1)
    · unfold insR at h
      split at h
      · cases h
      · split at h
        · cases h
        · omega
  · exact Or.inr ⟨h, if_neg h⟩
/-- the four ways of an act: nothing turns; an entry is laid under a new key, or under an old one, or goes -/
theorem actRes_cases (m room who : Int) (k : K3) (l : List Ms) (clock : Nat) :
    ((actRes m room who k l clock).1 ≠ 0 ∧ (actRes m room who k l clock).2 = (l, clock)) ∨
    ((actRes m room who k l clock).1 = 0 ∧ m = 1 ∧ entM k l = none ∧ (l.length : Int) < room ∧ (actRes m room who k l clock).2 = putM k ⟨k, 1, 0⟩ l clock) ∨
    ((actRes m room who k l clock).1 = 0 ∧ (m = 2 ∨ m = 3 ∨ m = 4) ∧ entM k l ≠ none ∧ ∃ st ow, (actRes m room who k l clock).2 = putM k ⟨k, st, ow⟩ l clock) ∨
    ((actRes m room who k l clock).1 = 0 ∧ m ≠ 1 ∧ m ≠ 2 ∧ m ≠ 3 ∧ m ≠ 4 ∧ entM k l ≠ none ∧ (actRes m room who k l clock).2 = (delM k l, clock)) := by
  unfold actRes
  by_cases h1 : m = 1
  · rw [if_pos h1]
    rcases insL_cases (room := room) (k := k) (l := l) (clock := clock) with ⟨a, b, c, d⟩ | ⟨a, b⟩
    · exact Or.inr (Or.inl ⟨a, h1, b, c, d⟩)
    · exact Or.inl ⟨a, b⟩
  rw [if_neg h1]
  by_cases h2 : m = 2
  · rw [if_pos h2]
    by_cases hw : who < 1
    · rw [if_pos hw]; exact Or.inl ⟨by simp, rfl⟩
    · rw [if_neg hw]
      rcases chgL_cases (k := k) (l := l) (clock := clock) 1 who (putM k ⟨k, 2, who⟩ l clock) with ⟨a, b⟩ | ⟨a, b⟩
      · exact Or.inr (Or.inr (Or.inl ⟨a, Or.inl h2, chg_found a, _, _, b⟩))
      · exact Or.inl ⟨a, b⟩
  rw [if_neg h2]
  by_cases h3 : m = 3
  · rw [if_pos h3]
    rcases chgL_cases (k := k) (l := l) (clock := clock) 2 who (putM k ⟨k, 1, 0⟩ l clock) with ⟨a, b⟩ | ⟨a, b⟩
    · exact Or.inr (Or.inr (Or.inl ⟨a, Or.inr (Or.inl h3), chg_found a, _, _, b⟩))
    · exact Or.inl ⟨a, b⟩
  rw [if_neg h3]
  by_cases h4 : m = 4
  · rw [if_pos h4]
    rcases chgL_cases (k := k) (l := l) (clock := clock) 2 who (putM k ⟨k, 3, 0⟩ l clock) with ⟨a, b⟩ | ⟨a, b⟩
    · exact Or.inr (Or.inr (Or.inl ⟨a, Or.inr (Or.inr h4), chg_found a, _, _, b⟩))
    · exact Or.inl ⟨a, b⟩
  rw [if_neg h4]
  rcases chgL_cases (k := k) (l := l) (clock := clock) 3 0 (delM k l, clock) with ⟨a, b⟩ | ⟨a, b⟩
  · exact Or.inr (Or.inr (Or.inr ⟨a, h1, h2, h3, h4, chg_found a, b⟩))
  · exact Or.inl ⟨a, b⟩
theorem act_ok (h : MOk l clock) : MOk (actRes m room who k l clock).2.1 (actRes m room who k l clock).2.2 := by
  rcases actRes_cases m room who k l clock with ⟨_, e⟩ | ⟨_, _, _, _, e⟩ | ⟨_, _, _, st, ow, e⟩ | ⟨_, _, _, _, _, hn, e⟩
  · rw [e]; exact h
  · rw [e]; exact h.put rfl
  · rw [e]; exact h.put rfl
  · rw [e]; exact h.del hn
theorem act_len (h : (l.length : Int) ≤ room) : ((actRes m room who k l clock).2.1.length : Int) ≤ room := by
  rcases actRes_cases m room who k l clock with ⟨_, e⟩ | ⟨_, _, hn, hl, e⟩ | ⟨_, _, hn, st, ow, e⟩ | ⟨_, _, _, _, _, hn, e⟩
  · rw [e]; exact h
  · rw [e]; have := (len_put (k := k) (e := ⟨k, 1, 0⟩) (l := l) (clock := clock)).1; omega
  · rw [e, (len_put (k := k) (e := ⟨k, st, ow⟩) (l := l) (clock := clock)).2 hn]; exact h
  · rw [e]; have := len_del (k := k) (l := l); show ((delM k l).length : Int) ≤ room; omega
theorem act_none (h : (actRes m room who k l clock).1 ≠ 0) : (actRes m room who k l clock).2 = (l, clock) := by
  rcases actRes_cases m room who k l clock with ⟨_, e⟩ | ⟨a, _⟩ | ⟨a, _⟩ | ⟨a, _⟩
  · exact e
  · exact absurd a h
  · exact absurd a h
  · exact absurd a h
theorem act_other {k' : K3} (hk : k' ≠ k) : entM k' (actRes m room who k l clock).2.1 = entM k' l := by
  rcases actRes_cases m room who k l clock with ⟨_, e⟩ | ⟨_, _, _, _, e⟩ | ⟨_, _, _, st, ow, e⟩ | ⟨_, _, _, _, _, hn, e⟩
  · rw [e]
  · rw [e]; exact ent_put_other hk
  · rw [e]; exact ent_put_other hk
  · rw [e]; exact ent_del_other hk hn
theorem act_own (h : MOk l clock) (hn : entM k l ≠ none) : (entM k (actRes m room who k l clock).2.1).isSome = !(decide ((actRes m room who k l clock).1 = 0) && decide (m ≠ 1 ∧ m ≠ 2 ∧ m ≠ 3 ∧ m ≠ 4)) := by
  rcases actRes_cases m room who k l clock with ⟨a, e⟩ | ⟨_, _, hn', _⟩ | ⟨a, hm, _, st, ow, e⟩ | ⟨a, h1, h2, h3, h4, _, e⟩
  · rw [e, decide_eq_false a]
    cases hh : entM k l with
    | none => exact absurd hh hn
    | some _ => rfl
  · exact absurd hn' hn
  · rw [e, ent_put_own, decide_eq_false (show ¬ (m ≠ 1 ∧ m ≠ 2 ∧ m ≠ 3 ∧ m ≠ 4) by omega)]
    simp
  · rw [e, decide_eq_true a, decide_eq_true ⟨h1, h2, h3, h4⟩]
    show (entM k (delM k l)).isSome = _
    rw [ent_del_own h hn]
    rfl
end
set_option maxRecDepth 20000 in
theorem does_any (S B : Nat) (room kd who : Int) (l : List Ms) (clock : Nat) (k : K3) (h0 : 0 ≤ kd) (W : World) (h : ShIs W S B room l clock 0) :
    Calls Try.prog 7 #[.pointer (some ⟨S, 0, none⟩), actV kd who k] W fun e w' => e = .returned (.int .i64 (actRes (kd.tmod 5) room who k l clock).1) ∧ ShIs w' S B room (actRes (kd.tmod 5) room who k l clock).2.1 (actRes (kd.tmod 5) room who k l clock).2.2 0 ∧ Only2 S B W w' := by
  have hA : ShIs (W.alloc (.cells #[.int .u8 kd, .int .i64 who, .int .i64 k.c, .int .i64 k.f, .int .u64 k.s] 37)) S B room l clock 0 := h.new _
  have bA : Only2 S B W (W.alloc (.cells #[.int .u8 kd, .int .i64 who, .int .i64 k.c, .int .i64 k.f, .int .u64 k.s] 37)) := (Only2.refl S B W).alloc _
  have hm : kd.tmod 5 = 0 ∨ kd.tmod 5 = 1 ∨ kd.tmod 5 = 2 ∨ kd.tmod 5 = 3 ∨ kd.tmod 5 = 4 := by
    rw [Int.tmod_eq_emod_of_nonneg h0]; omega
  have hw : (IntKind.u8).wrap (kd.tmod 5) = kd.tmod 5 := by rcases hm with h | h | h | h | h <;> rw [h] <;> rfl
  have h50 : ¬ (5 : Int) = 0 := by decide
  generalize hmm : kd.tmod 5 = m at hm hw
  clear h
  unfold actV
  rcases hm with h | h | h | h | h <;> subst h
  · skip
    have hc := expire_any S B room l clock k _ hA
    have HE : Hid _ := (show actRes 0 room who k l clock = (chgR 3 0 k l, chgL 3 0 k l clock (delM k l, clock)) from rfl)
    rw [HE.out]
    simp only []
    obtain ⟨kc, kf, ks⟩ := k
    unfold K3.val at hc
    dsimp only at hc hA bA ⊢
    have HC := Lib.hid hc
    have HB := Lib.hid bA
    clear hc hA bA HE
    go_enter Try.func7, Try.ntmps7
    go_wp2_with fail
    refine HC.out.mono ?_
    rintro _ w' ⟨rfl, hs, hO⟩
    have HF := Lib.hid (And.intro hs (HB.out.trans hO))
    clear hs hO HC HB
    go_wp2
    go_ret
    exact ⟨rfl, HF.out.1, HF.out.2⟩
  · skip
    have hc := sins_any S B room l clock k _ hA
    have HE : Hid _ := (show actRes 1 room who k l clock = (insR room l k, insL room l clock k) from rfl)
    rw [HE.out]
    simp only []
    obtain ⟨kc, kf, ks⟩ := k
    unfold K3.val at hc
    dsimp only at hc hA bA ⊢
    have HC := Lib.hid hc
    have HB := Lib.hid bA
    clear hc hA bA HE
    go_enter Try.func7, Try.ntmps7
    go_wp2_with fail
    refine HC.out.mono ?_
    rintro _ w' ⟨rfl, hs, hO⟩
    have HF := Lib.hid (And.intro hs (HB.out.trans hO))
    clear hs hO HC HB
    go_wp2
    go_ret
    exact ⟨rfl, HF.out.1, HF.out.2⟩
  · by_cases hwho : who < 1
    · have hc : Calls Try.prog 16 #[.pointer (some ⟨S, 0, none⟩), k.val, .int .i64 who] _ fun e w' => e = .returned (.int .i64 1) ∧ ShIs w' S B room l clock 0 ∧ Only2 S B _ w' := (claim_few S who k _ hwho).mono fun _ _ ⟨he, hb⟩ => ⟨he, hA.below hb, Only2.of_below hb⟩
      have HE : Hid _ := (show actRes 2 room who k l clock = (1, l, clock) by simp [actRes, hwho])
      rw [HE.out]
      simp only []
      obtain ⟨kc, kf, ks⟩ := k
      unfold K3.val at hc
      dsimp only at hc hA bA ⊢
      have HC := Lib.hid hc
      have HB := Lib.hid bA
      clear hc hA bA HE
      go_enter Try.func7, Try.ntmps7
      go_wp2_with fail
      refine HC.out.mono ?_
      rintro _ w' ⟨rfl, hs, hO⟩
      have HF := Lib.hid (And.intro hs (HB.out.trans hO))
      clear hs hO HC HB
      go_wp2
      go_ret
      exact ⟨rfl, HF.out.1, HF.out.2⟩
    · skip
      have hc := claim_any S B room who l clock k _ hA (by omega)
      have HE : Hid _ := (show actRes 2 room who k l clock = (chgR 1 who k l, chgL 1 who k l clock (putM k ⟨k, 2, who⟩ l clock)) by simp [actRes, hwho])
      rw [HE.out]
      simp only []
      obtain ⟨kc, kf, ks⟩ := k
      unfold K3.val at hc
      dsimp only at hc hA bA ⊢
      have HC := Lib.hid hc
      have HB := Lib.hid bA
      clear hc hA bA HE
      go_enter Try.func7, Try.ntmps7
      go_wp2_with fail
      refine HC.out.mono ?_
      rintro _ w' ⟨rfl, hs, hO⟩
      have HF := Lib.hid (And.intro hs (HB.out.trans hO))
      clear hs hO HC HB
      go_wp2
      go_ret
      exact ⟨rfl, HF.out.1, HF.out.2⟩
  · skip
    have hc := release_any S B room who l clock k _ hA
    have HE : Hid _ := (show actRes 3 room who k l clock = (chgR 2 who k l, chgL 2 who k l clock (putM k ⟨k, 1, 0⟩ l clock)) from rfl)
    rw [HE.out]
    simp only []
    obtain ⟨kc, kf, ks⟩ := k
    unfold K3.val at hc
    dsimp only at hc hA bA ⊢
    have HC := Lib.hid hc
    have HB := Lib.hid bA
    clear hc hA bA HE
    go_enter Try.func7, Try.ntmps7
    go_wp2_with fail
    refine HC.out.mono ?_
    rintro _ w' ⟨rfl, hs, hO⟩
    have HF := Lib.hid (And.intro hs (HB.out.trans hO))
    clear hs hO HC HB
    go_wp2
    go_ret
    exact ⟨rfl, HF.out.1, HF.out.2⟩
  · skip
    have hc := complete_any S B room who l clock k _ hA
    have HE : Hid _ := (show actRes 4 room who k l clock = (chgR 2 who k l, chgL 2 who k l clock (putM k ⟨k, 3, 0⟩ l clock)) from rfl)
    rw [HE.out]
    simp only []
    obtain ⟨kc, kf, ks⟩ := k
    unfold K3.val at hc
    dsimp only at hc hA bA ⊢
    have HC := Lib.hid hc
    have HB := Lib.hid bA
    clear hc hA bA HE
    go_enter Try.func7, Try.ntmps7
    go_wp2_with fail
    refine HC.out.mono ?_
    rintro _ w' ⟨rfl, hs, hO⟩
    have HF := Lib.hid (And.intro hs (HB.out.trans hO))
    clear hs hO HC HB
    go_wp2
    go_ret
    exact ⟨rfl, HF.out.1, HF.out.2⟩
end Go.Proofs.Ytmdjhcpafjgigaa.Mk
