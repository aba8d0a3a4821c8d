import Derived.Test.YtpkkomifenlkaaaGreatAlDo
import Derived.Test.YtpkkomifenlkaaaGreatNumB
/- An allocator: Do of whatever operation. -/
namespace Go.Proofs.YtpkkomifenlkaaaGreat.Au
open Go Go.RowKit Go.MuLone
set_option linter.unusedVariables false

def rtv (r : Int × Int × Int × Int) : Value := rt r.1 r.2.1 r.2.2.1 r.2.2.2
/-- what an operation answers, and what the numbers are behind it -/
def doR (A : Nat) (o : Oq) (s : Nat → Nu) : Int × Int × Int × Int := if o.kd < 6 ∨ 10 < o.kd ∨ o.who < 1 then (1, 0, 0, 0) else match idx A o.sd o.ac with
  | none => (24, 0, 0, 0)
  | some i => nuR o (s i)
def doS (A : Nat) (o : Oq) (s : Nat → Nu) : Nat → Nu := if o.kd < 6 ∨ 10 < o.kd ∨ o.who < 1 then s else match idx A o.sd o.ac with
  | none => s
  | some i => upd s i (nuS o (s i))
theorem doS_ok {A : Nat} {o : Oq} {s : Nat → Nu} {k : Nat} (h : ∀ i, Val A A A i → NOk (s i) k) (hk : k ≤ 1000) (hn : 0 ≤ o.nn ∧ o.nn ≤ 18446744073709551615) : ∀ i, Val A A A i → NOk (doS A o s i) (k + 8) := by
  intro i hi
  unfold doS
  split
  · exact (h i hi).more (by omega)
  · cases hj : idx A o.sd o.ac with
    | none => exact (h i hi).more (by omega)
    | some j =>
      show NOk (upd s j (nuS o (s j)) i) _
      by_cases e : i = j
      · subst e
        rw [upd_at]
        exact nuS_ok (h i hi) hk hn
      · rw [upd_off e]
        exact (h i hi).more (by omega)
section
variable {base : Nat} {y : Alo} {v0 v1 : Value} {v u : Nat → Value} {s : Nat → Nu} {W V X : World} {k : Nat}
theorem AIs.same (h : AIs base W y y.A y.A 0 v0 v1 v s) (i : Nat) : AIs base W y y.A y.A 0 v0 v1 v (upd s i (s i)) := by rw [upd_self]; exact h
theorem do_any (o : Oq) (h : AIs base W y y.A y.A 0 v0 v1 v s) (hA : y.A ≤ 1000000) (hok : ∀ i, Val y.A y.A y.A i → NOk (s i) k) (hk : k ≤ 892) (hS : o.kd = 10 → SortU k) (hn : 0 ≤ o.nn ∧ o.nn ≤ 18446744073709551615) :
    Calls Tryz.prog 8 #[.pointer (some ⟨y.S, 0, none⟩), o.val] W fun e w' => e = .returned (rtv (doR y.A o s)) ∧ ∃ v', AIs base w' y y.A y.A 0 v0 v1 v' (doS y.A o s) ∧ AF y y.A y.A v v' W w' := by
  have fin : ∀ (r : Int × Int × Int × Int) (s' : Nat → Nu), doR y.A o s = r → doS y.A o s = s' → Calls Tryz.prog 8 #[.pointer (some ⟨y.S, 0, none⟩), o.val] W (fun e w' => e = .returned (rtv r) ∧ ∃ v', AIs base w' y y.A y.A 0 v0 v1 v' s' ∧ AF y y.A y.A v v' W w') →
      Calls Tryz.prog 8 #[.pointer (some ⟨y.S, 0, none⟩), o.val] W fun e w' => e = .returned (rtv (doR y.A o s)) ∧ ∃ v', AIs base w' y y.A y.A 0 v0 v1 v' (doS y.A o s) ∧ AF y y.A y.A v v' W w' := fun r s' h1 h2 h3 => by rw [h1, h2]; exact h3
  obtain ⟨kd, who, kc, kf, ks, sd, ac, ep, nn⟩ := o
  by_cases hb : kd < 6 ∨ 10 < kd ∨ who < 1
  · refine fin (1, 0, 0, 0) s (by unfold doR; rw [if_pos hb]) (by unfold doS; rw [if_pos hb]) ?_
    exact (do_bad kd who kc kf ks sd ac ep nn hb h).mono fun e w' ⟨h1, h2, h3⟩ => ⟨h1, v, h2, h3⟩
  · cases hi : idx y.A sd ac with
    | none =>
      refine fin (24, 0, 0, 0) s (by unfold doR; rw [if_neg hb, hi]) (by unfold doS; rw [if_neg hb, hi]) ?_
      exact do_none kd who kc kf ks sd ac ep nn hA (by omega) (by omega) (by omega) hi h
    | some i =>
      have hv := idx_val hi
      have ok := hok i hv
      have hw : 1 ≤ who := by omega
      have step : ∀ (r : Int × Int × Int × Int) (s' : Nu), nuR ⟨kd, who, kc, kf, ks, sd, ac, ep, nn⟩ (s i) = r → nuS ⟨kd, who, kc, kf, ks, sd, ac, ep, nn⟩ (s i) = s' → _ := fun r s' h1 h2 =>
        fin r (upd s i s') (by unfold doR; rw [if_neg hb, hi]; exact h1) (by unfold doS; rw [if_neg hb, hi]; show upd s i _ = _; rw [h2])
      clear fin
      rcases (show kd = 6 ∨ kd = 7 ∨ kd = 8 ∨ kd = 9 ∨ kd = 10 by omega) with rfl | rfl | rfl | rfl | rfl
      · by_cases hm : nn < 1 ∨ 8 < nn
        · refine step (1, 0, 0, 0) (s i) (by unfold nuR; rw [if_pos rfl, if_pos hm]) (by unfold nuS; rw [if_pos rfl, if_pos hm]) ?_
          exact do_few who kc kf ks sd ac ep nn i hA hw hi hm h
        · cases he : rsE (s i) with
          | true =>
            refine step (11, 0, 0, 0) (s i) (by unfold nuR; rw [if_pos rfl, if_neg hm, if_pos he]) (by unfold nuS; rw [if_pos rfl, if_neg hm, if_pos he]) ?_
            unfold rsE at he
            simp only [Bool.and_eq_true, decide_eq_true_eq] at he
            exact do_end who kc kf ks sd ac ep nn i hA hw hi (by omega) (by omega) he.1 he.2 h
          | false =>
            have R := rs_ok ok (show 1 ≤ nn by omega) (show nn ≤ 8 by omega) he who
            refine step (0, (s i).ep, rsF nn (s i), (rsM nn (s i) : Int)) (rsS nn who (s i)) (by unfold nuR; rw [if_pos rfl, if_neg hm, if_neg (by rw [he]; decide)]) (by unfold nuS; rw [if_pos rfl, if_neg hm, if_neg (by rw [he]; decide)]) ?_
            exact do_res who kc kf ks sd ac ep nn i hA hw hi (by omega) (by omega) ok.nx.1 ok.nx.2 (rsF nn (s i)) (rsM nn (s i)) _ _ R.hc R.f0 R.fm R.m0 R.mm R.new h
      · refine step (lvC ⟨7, who, kc, kf, ks, sd, ac, ep, nn⟩ (s i), 0, 0, 0) (lvS ⟨7, who, kc, kf, ks, sd, ac, ep, nn⟩ (s i)) rfl rfl ?_
        exact do_com who kc kf ks sd ac ep nn i hA hw hi ok.nd hn.1 hn.2 (by have := ok.len; omega) h
      · refine step (lvC ⟨8, who, kc, kf, ks, sd, ac, ep, nn⟩ (s i), 0, 0, 0) (lvS ⟨8, who, kc, kf, ks, sd, ac, ep, nn⟩ (s i)) rfl rfl ?_
        exact do_ret who kc kf ks sd ac ep nn i hA hw hi ok.nd hn.1 hn.2 (by have := ok.len; omega) h
      · by_cases he : (s i).ep = 18446744073709551615
        · refine step (11, 0, 0, 0) (s i) (by show (if (s i).ep = 18446744073709551615 then _ else _) = _; rw [if_pos he]) (by show (if (s i).ep = 18446744073709551615 then _ else _) = _; rw [if_pos he]) ?_
          exact do_top who kc kf ks sd ac ep nn i hA hw hi he h
        · refine step (0, (s i).ep + 1, 0, 0) ⟨(s i).ep + 1, nn, [], []⟩ (by show (if (s i).ep = 18446744073709551615 then _ else _) = _; rw [if_neg he]) (by show (if (s i).ep = 18446744073709551615 then _ else _) = _; rw [if_neg he]) ?_
          exact do_syn who kc kf ks sd ac ep nn i hA hw hi he ok.ep.1 ok.ep.2 h
      · refine step (0, 0, ((hbs who (s i).M).length : Int), 0) (drS who (s i)) rfl rfl ?_
        exact do_drop who kc kf ks sd ac ep nn i hA hw hi k (hS rfl) (by have := ok.len; omega) (by omega) ok.nd (fun x hx => by have := ok.M x hx; have := ok.nx; omega) (by have := ok.len; omega) h
end
end Go.Proofs.YtpkkomifenlkaaaGreat.Au
