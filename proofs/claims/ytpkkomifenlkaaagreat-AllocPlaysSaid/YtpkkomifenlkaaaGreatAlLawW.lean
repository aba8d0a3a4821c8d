import Derived.Test.YtpkkomifenlkaaaGreatAlAwake
import Derived.Test.YtpkkomifenlkaaaGreatSo2
import Derived.Test.YtpkkomifenlkaaaGreatOqX
import Derived.Test.YtpkkomifenlkaaaGreatConfX
import Derived.Test.YtpkkomifenlkaaaGreatConfX
import Derived.Deep.CutBlock
/- The world of a law over an allocator. -/
namespace Go.Proofs.YtpkkomifenlkaaaGreat.Au
open Go Go.RowKit Go.MuLone Conf
set_option linter.unusedVariables false

/-- the law's world: the allocator -/
structure Fw (W V : World) (y : Alo) (v : Nat → Value) (s : Nat → Nu) : Prop where
  ex : ∃ base v0 v1, W.heap.size ≤ base ∧ AIs base V y y.A y.A 0 v0 v1 v s
  A : 1 ≤ y.A ∧ y.A ≤ 4
  bel : Below W.heap.size W V
/-- an answer in its box -/
structure Bx (V : World) (y : Alo) (v : Nat → Value) (P : Nat) (a b c d : Int) : Prop where
  at_ : V.heap[P]? = some (.cells #[.int .i64 a, .int .u64 b, .int .u64 c, .int .u64 d] TRt (0, 0))
  fr : Fre y y.A y.A v P
section
variable {W V X : World} {y : Alo} {v u : Nat → Value} {s : Nat → Nu} {k P : Nat} {a b c d : Int}
theorem Bx.below (h : Bx V y v P a b c d) (hb : Below V.heap.size V X) : Bx X y v P a b c d := ⟨kp hb h.at_, h.fr⟩
theorem Bx.af (h : Bx V y v P a b c d) (f : AF y y.A y.A v u V X) : Bx X y u P a b c d := ⟨(f.block P (ltO h.at_) h.fr).trans h.at_, f.free P (ltO h.at_) h.fr⟩
theorem Bx.get (h : Bx V y v P a b c d) : V.cell? ⟨P, 0, none⟩ = some (.int .i64 a) ∧ V.cell? ⟨P, 1, none⟩ = some (.int .u64 b) ∧ V.cell? ⟨P, 2, none⟩ = some (.int .u64 c) ∧ V.cell? ⟨P, 3, none⟩ = some (.int .u64 d) := by
  obtain ⟨h0, h1, h2, h3, -⟩ := get4 h.at_
  exact ⟨h0, h1, h2, h3⟩
theorem Fw.below (h : Fw W V y v s) (b : Below V.heap.size V X) : Fw W X y v s := by
  obtain ⟨base, v0, v1, hb, ha⟩ := h.ex
  exact ⟨⟨base, v0, v1, hb, ha.below b⟩, h.A, h.bel.trans (b.mono h.bel.size)⟩
theorem Fw.drew (h : Fw W V y v s) : Fw W V.drew y v s := by
  obtain ⟨base, v0, v1, hb, ha⟩ := h.ex
  exact ⟨⟨base, v0, v1, hb, ha.drew⟩, h.A, h.bel.drew⟩
theorem Fw.new (h : Fw W V y v s) {j : Nat} (hj : V.heap.size ≤ j) : Fre y y.A y.A v j := by
  obtain ⟨base, v0, v1, hb, ha⟩ := h.ex
  exact (ha.fre_new hj).1
theorem Fw.box (h : Fw W V y v s) (a b c d : Int) : Fw W (V.alloc (.cells #[.int .i64 a, .int .u64 b, .int .u64 c, .int .u64 d] TRt)) y v s ∧ Bx (V.alloc (.cells #[.int .i64 a, .int .u64 b, .int .u64 c, .int .u64 d] TRt)) y v V.heap.size a b c d :=
  ⟨h.below ((Below.refl _ _).alloc (Nat.le_refl _) _), heap_alloc_new _ _, h.new (Nat.le_refl _)⟩
theorem Fw.doo (h : Fw W V y v s) (o : Oq) (hok : ∀ i, NOk (s i) k) (hk : k ≤ 892) (hn : 0 ≤ o.nn ∧ o.nn ≤ 18446744073709551615) {a b c d : Int} (hr : doR y.A o s = (a, b, c, d)) :
    Calls Tryz.prog 8 #[.pointer (some ⟨y.S, 0, none⟩), o.val] V fun e w' => e = .returned (.agg #[.int .i64 a, .int .u64 b, .int .u64 c, .int .u64 d]) ∧ ∃ v', Fw W w' y v' (doS y.A o s) ∧ AF y y.A y.A v v' V w' := by
  obtain ⟨base, v0, v1, hb, ha⟩ := h.ex
  refine (do_any o ha (by have := h.A; omega) (fun i _ => hok i) hk (fun _ => sortU_all k (by omega)) hn).mono ?_
  rintro e w' ⟨rfl, v', h1, h2⟩
  exact ⟨by rw [hr]; rfl, v', ⟨⟨base, v0, v1, hb, h1⟩, h.A, h.bel.trans ((h2.below ha).mono hb)⟩, h2⟩
theorem idx01 {A : Nat} (h : 1 ≤ A) : idx A 0 1 = some 0 := by
  unfold idx
  rw [if_pos (by omega)]
  simp
theorem Fw.epoch (h : Fw W V y v s) : Calls Tryz.prog 6 #[.pointer (some ⟨y.S, 0, none⟩), .int .i64 0, .int .i64 1] V fun e w' => e = .returned (.tuple #[.int .u64 (s 0).ep, .bool true]) ∧ Fw W w' y v s ∧ AF y y.A y.A v v V w' := by
  obtain ⟨base, v0, v1, hb, ha⟩ := h.ex
  refine (alEpoch 0 1 ha (by have := h.A; omega)).mono ?_
  rintro e w' ⟨rfl, h1, h2⟩
  rw [idx01 h.A.1]
  exact ⟨rfl, ⟨⟨base, v0, v1, hb, h1⟩, h.A, h.bel.trans ((h2.below ha).mono hb)⟩, h2⟩
theorem runs_nil {base : Nat} {w : Value} {ls : List (Int × Int)} (h : Gp.RunsV base w ls V) (hs : Gm.Srt ls) (he : Gm.expd ls = []) : ∃ A c, w = .slice A 0 c := by
  have : ls = [] := by
    cases ls with
    | nil => rfl
    | cons x l =>
      exfalso
      have hx := hs.1 x (List.mem_cons_self ..)
      unfold Gm.Okr at hx
      have hm : x.1 ∈ Gm.expd (x :: l) := by
        unfold Gm.expd
        exact List.mem_flatMap.2 ⟨x, List.mem_cons_self .., Gm.mem_run.2 (by unfold Gm.In; omega)⟩
      rw [he] at hm
      cases hm
  subst this
  rcases h with ⟨rfl, -⟩ | ⟨g, c, rfl, -⟩
  · exact ⟨_, _, rfl⟩
  · exact ⟨_, _, rfl⟩
theorem Fw.free0 (h : Fw W V y v s) (h0 : (s 0).L = []) : Calls Tryz.prog 9 #[.pointer (some ⟨y.S, 0, none⟩), .int .i64 0, .int .i64 1] V fun e w' => ∃ A c, e = .returned (.slice A 0 c) ∧ Below W.heap.size W w' := by
  obtain ⟨base, v0, v1, hb, ha⟩ := h.ex
  refine (alFree 0 1 ha (by have := h.A; omega)).mono ?_
  rintro e w' ⟨v2, rfl, hf, h1, h2⟩
  rw [idx01 h.A.1] at hf
  obtain ⟨ls, hr, hs, he⟩ := hf
  rw [h0] at he
  obtain ⟨A, c, rfl⟩ := runs_nil hr hs he.symm
  exact ⟨A, c, rfl, h.bel.trans ((h2.below ha).mono hb)⟩
end
theorem ep_nuS (o : Oq) (s : Nu) : (nuS o s).ep ≤ s.ep + 1 := by
  unfold nuS
  split
  · split
    · omega
    · split
      · omega
      · show s.ep ≤ s.ep + 1; omega
  · split
    · split
      · omega
      · exact Int.le_refl _
    · split
      · show s.ep ≤ s.ep + 1; omega
      · unfold lvS
        split
        · show s.ep ≤ s.ep + 1; omega
        · omega
theorem ep_doS {A : Nat} {o : Oq} {s : Nat → Nu} {n : Int} (h : ∀ i, (s i).ep ≤ n) : ∀ i, (doS A o s i).ep ≤ n + 1 := by
  intro i
  have hi := h i
  unfold doS
  split
  · omega
  · cases hj : idx A o.sd o.ac with
    | none => show (s i).ep ≤ n + 1; omega
    | some j =>
      show (upd s j (nuS o (s j)) i).ep ≤ _
      by_cases e : i = j
      · subst e
        rw [upd_at]
        have := ep_nuS o (s i)
        omega
      · rw [upd_off e]
        omega
/-- an operation of the first account's -/
theorem do0R {A : Nat} (hA : 1 ≤ A) (kd who kc kf ks ep nn : Int) (s : Nat → Nu) (h1 : 6 ≤ kd) (h2 : kd ≤ 10) (h3 : 1 ≤ who) : doR A ⟨kd, who, kc, kf, ks, 0, 1, ep, nn⟩ s = nuR ⟨kd, who, kc, kf, ks, 0, 1, ep, nn⟩ (s 0) := by
  unfold doR
  rw [if_neg (by simp only; omega)]
  simp only [idx01 hA]
theorem do0S {A : Nat} (hA : 1 ≤ A) (kd who kc kf ks ep nn : Int) (s : Nat → Nu) (h1 : 6 ≤ kd) (h2 : kd ≤ 10) (h3 : 1 ≤ who) : doS A ⟨kd, who, kc, kf, ks, 0, 1, ep, nn⟩ s = upd s 0 (nuS ⟨kd, who, kc, kf, ks, 0, 1, ep, nn⟩ (s 0)) := by
  unfold doS
  rw [if_neg (by simp only; omega)]
  simp only [idx01 hA]
abbrev oZ (n : Int) : Oq := ⟨9, 2, 0, 0, 0, 0, 1, 0, n⟩
abbrev oL (kd E N : Int) : Oq := ⟨kd, 1, 0, 0, 0, 0, 1, E, N⟩
theorem fen_ep {A : Nat} (hA : 1 ≤ A) (s : Nat → Nu) : (doS A (oR 1) s 0).ep = (s 0).ep := by
  rw [do0S hA _ _ _ _ _ _ _ s (by decide) (by decide) (by decide), upd_at]
  unfold nuS
  rw [if_pos rfl, if_neg (by simp only; omega)]
  split
  · rfl
  · rfl
theorem fen_sync {A : Nat} (hA : 1 ≤ A) (s : Nat → Nu) (next : Int) (hE : (s 0).ep ≤ 100) : doR A (oZ next) s = (0, (s 0).ep + 1, 0, 0) ∧ doS A (oZ next) s 0 = ⟨(s 0).ep + 1, next, [], []⟩ := by
  constructor
  · rw [do0R hA _ _ _ _ _ _ _ s (by decide) (by decide) (by decide)]
    unfold nuR
    rw [if_neg (by simp only; omega), if_pos rfl, if_neg (by omega)]
  · rw [do0S hA _ _ _ _ _ _ _ s (by decide) (by decide) (by decide), upd_at]
    unfold nuS
    rw [if_neg (by simp only; omega), if_pos rfl, if_neg (by omega)]
theorem fen_old {A : Nat} (hA : 1 ≤ A) (s : Nat → Nu) (kd E N : Int) (hk : kd = 7 ∨ kd = 8) (hE : (s 0).ep = E + 1) : doR A (oL kd E N) s = (12, 0, 0, 0) ∧ doS A (oL kd E N) s = s := by
  have hl : lvC (oL kd E N) (s 0) = 12 := by
    unfold lvC
    rw [if_pos (by show E ≠ _; omega)]
  constructor
  · rw [do0R hA _ _ _ _ _ _ _ s (by omega) (by omega) (by decide)]
    unfold nuR
    rw [if_neg (by simp only; omega), if_neg (by simp only; omega), if_neg (by simp only; omega)]
    rw [hl]
  · rw [do0S hA _ _ _ _ _ _ _ s (by omega) (by omega) (by decide)]
    unfold nuS
    rw [if_neg (by simp only; omega), if_neg (by simp only; omega), if_neg (by simp only; omega)]
    unfold lvS
    rw [if_neg (by rw [hl]; decide)]
    exact upd_self
theorem fen_top {A : Nat} (hA : 1 ≤ A) (s : Nat → Nu) (E : Int) (h : s 0 = ⟨E, 18446744073709551615, [], []⟩) : doR A (oR 1) s = (11, 0, 0, 0) := by
  rw [do0R hA _ _ _ _ _ _ _ s (by decide) (by decide) (by decide), h]
  rfl
theorem fen_new {A : Nat} (hA : 1 ≤ A) (s : Nat → Nu) (E next : Int) (h : s 0 = ⟨E, next, [], []⟩) (hn : next ≠ 18446744073709551615) (hn9 : next ≤ 18446744073709551615) : doR A (oR 1) s = (0, E, next, 1) ∧ (doS A (oR 1) s 0).L = [] := by
  have hrs : ¬ rsE (⟨E, next, [], []⟩ : Nu) = true := by simp [rsE, hn]
  constructor
  · rw [do0R hA _ _ _ _ _ _ _ s (by decide) (by decide) (by decide), h]
    unfold nuR
    rw [if_pos rfl, if_neg (by simp only; omega), if_neg hrs]
    have h1 : rsM 1 (⟨E, next, [], []⟩ : Nu) = 1 := by
      unfold rsM
      rw [if_pos rfl, if_neg (by simp only; omega)]
      rfl
    show (0, E, rsF 1 _, (rsM 1 _ : Int)) = _
    rw [h1]
    rfl
  · rw [do0S hA _ _ _ _ _ _ _ s (by decide) (by decide) (by decide), upd_at, h]
    unfold nuS
    rw [if_pos rfl, if_neg (by simp only; omega), if_neg hrs]
    rfl
/-- a config that came in, with its first number's bounds -/
theorem cfg_at11 (c : Cfg) (a : Int) (h : (c.cells.toList.drop 11).take 1 = [.int .u64 a]) : c.f11 = a := by
  simp [Cfg.cells] at h
  exact h
section
variable {H : Type} {enc : TypeId × Value → H} {w : World} {base : Nat} {spare : Nat → Bool} {held : Bool}
set_option maxRecDepth 100000 in
theorem open_config_f11 {r : Reach} {b0 : Nat} {v : Value} {d : DataW H} {p : List MemPlace} (ok : Value.okWide Tryz.prog w r b0 42 v) (h : DataW.Trod enc Tryz.prog w base spare held 42 v d p) : ∃ c : Cfg, v = .agg c.cells ∧ 0 ≤ c.f11 ∧ c.f11 ≤ 18446744073709551615 := by
  obtain ⟨c, rfl, -⟩ := open_config_val ok h
  obtain ⟨fuel, hf⟩ := h
  obtain ⟨xs, n, _, _, hcl, hlen, hf⟩ := DataW.trod_struct Tryz.underlying42 hf
  obtain ⟨y11, h11⟩ := field_at hlen hf 11 _ rfl rfl
  obtain ⟨a11, e11, _, w11⟩ := DataW.trod_int Tryz.underlying22 h11
  simp [Lit.wf, IntKind.min, IntKind.max, IntKind.bits, IntKind.signed] at w11
  have e : c.f11 = a11 := cfg_at11 c a11 e11
  exact ⟨c, rfl, by omega, by omega⟩
end
end Go.Proofs.YtpkkomifenlkaaaGreat.Au
