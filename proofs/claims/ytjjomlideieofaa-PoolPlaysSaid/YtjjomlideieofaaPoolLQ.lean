/- 'PoolPlays': both pools, and what each act makes of them. -/
import Derived.Test.YtjjomlideieofaaPoolQTake
namespace Go.Proofs.Ytjjomlideieofaa.Msg
open Go Go.RowKit

/-- The code's pool and the page's, both behind what came in. -/
structure LQ (w W : World) (x : M7) (gp gq : Nat) (most : Int) (ts qs : List T4) : Prop where
  pool : ∃ f, Pl W w.heap.size gp f most ts
  page : ∃ A c, Rp W w.heap.size gq most A c qs
  lp : (ts.length : Int) ≤ most
  lq : (qs.length : Int) ≤ most
  inp : ∀ q ∈ qs, Rd w q.A q.len q.ms ∧ q.len ≤ 12
  box : BoxM W w.heap.size x
  bel : Below w.heap.size w W

theorem LQ.below {w W W1 : World} {x : M7} {gp gq : Nat} {most : Int} {ts qs : List T4} (h : LQ w W x gp gq most ts qs) (hb : Below W.heap.size W W1) : LQ w W1 x gp gq most ts qs := by
  obtain ⟨f, hp⟩ := h.pool
  obtain ⟨A, c, hq⟩ := h.page
  exact ⟨⟨f, hp.below hb⟩, ⟨A, c, hq.below hb⟩, h.lp, h.lq, h.inp, (hb.block _ (lt_blk h.box)).trans h.box, h.bel.trans (hb.mono h.bel.size)⟩
theorem LQ.drew {w W : World} {x : M7} {gp gq : Nat} {most : Int} {ts qs : List T4} (h : LQ w W x gp gq most ts qs) : LQ w W.drew x gp gq most ts qs := h.below (Below.refl _ _).drew
theorem LQ.drewN {w W : World} {x : M7} {gp gq : Nat} {most : Int} {ts qs : List T4} (h : LQ w W x gp gq most ts qs) (q : Nat) : LQ w (W.drewN q) x gp gq most ts qs := h.below (below_drewN (Below.refl _ _) q)

theorem own_onlyT {W W' : World} {g B k T : Nat} {l : Value} {xs : List Value} {cs : Array Value} (h : W.ownsRow B TT 4 l k xs) (ho : Only g W W') (hb : W.heap[g]? = some (.cells cs T (0, 0))) (hT : T ≠ TT) : W'.ownsRow B TT 4 l k xs := by
  refine ⟨h.1, ?_⟩
  rcases h.2 with h2 | ⟨j, cap, cur, hv, hg, hh, r⟩
  · exact .inl h2
  · refine .inr ⟨j, cap, cur, hv, hg, (ho.2 j (fun e => ?_) (lt_blk hh)).trans hh, r⟩
    subst e
    rw [hh] at hb
    injection hb with hb
    injection hb with _ ht
    exact hT ht.symm
theorem only_km {W W' : World} {g T : Nat} {cs : Array Value} (ho : Only g W W') (hb : W.heap[g]? = some (.cells cs T (0, 0))) (hT : T ≠ TM) : KM W W' := ⟨ho.1, fun j cs' fr hh => (ho.2 j (fun e => by
  subst e
  rw [hh] at hb
  injection hb with hb
  injection hb with _ ht
  exact hT ht.symm) (lt_blk hh)).trans hh⟩

/-- What Only the code's pool turns leaves of the page's. -/
theorem LQ.onlyP {w W W1 : World} {x : M7} {gp gq : Nat} {most : Int} {ts ts1 qs : List T4} (h : LQ w W x gp gq most ts qs) (ho : Only gp W W1) (hp : ∃ f, Pl W1 w.heap.size gp f most ts1) (hl : (ts1.length : Int) ≤ most) (hb : Below w.heap.size W W1) : LQ w W1 x gp gq most ts1 qs := by
  obtain ⟨f, hpl⟩ := h.pool
  obtain ⟨cs, hcs, _⟩ := hpl.blk
  obtain ⟨A, c, hq⟩ := h.page
  have hne : ∀ (j T : Nat) (cs' : Array Value), T ≠ TP → W.heap[j]? = some (.cells cs' T (0, 0)) → W1.heap[j]? = some (.cells cs' T (0, 0)) := fun j T cs' hT hj => (ho.2 j (fun e => by
    subst e
    rw [hcs] at hj
    injection hj with hj
    injection hj with _ ht
    exact hT ht.symm) (lt_blk hj)).trans hj
  exact ⟨hp, ⟨A, c, hq.hg, hne _ _ _ (by decide) hq.blk, own_onlyT hq.row ho hcs (by decide)⟩, hl, h.lq, h.inp, hne _ _ _ (by decide) h.box, h.bel.trans hb⟩

/-- What is not the page's pool and no row of transactions stands: the code's pool. -/
theorem LQ.onlyQ {w W W1 : World} {x : M7} {gp gq : Nat} {most : Int} {ts qs qs1 : List T4} (h : LQ w W x gp gq most ts qs) (hk : KN W W1) (hq : ∃ A c, Rp W1 w.heap.size gq most A c qs1) (hl : (qs1.length : Int) ≤ most) (hi : ∀ q ∈ qs1, Rd w q.A q.len q.ms ∧ q.len ≤ 12) (hb : Below w.heap.size W W1) : LQ w W1 x gp gq most ts qs1 := by
  obtain ⟨f, hpl⟩ := h.pool
  exact ⟨⟨f, hk.pl hpl⟩, hq, h.lp, hl, hi, hk.2 _ _ TM _ (by decide) (by decide) h.box, h.bel.trans hb⟩
theorem LQ.onlyQ2 {w W W1 : World} {x : M7} {gp gq : Nat} {most : Int} {ts qs qs1 : List T4} (h : LQ w W x gp gq most ts qs) (ho : Only gq W W1) (hq : ∃ A c, Rp W1 w.heap.size gq most A c qs1) (hl : (qs1.length : Int) ≤ most) (hi : ∀ q ∈ qs1, Rd w q.A q.len q.ms ∧ q.len ≤ 12) (hb : Below w.heap.size W W1) : LQ w W1 x gp gq most ts qs1 := by
  obtain ⟨f, hpl⟩ := h.pool
  obtain ⟨A, c, hr⟩ := h.page
  have hne : ∀ (j T : Nat) (cs' : Array Value), T ≠ TR1 → W.heap[j]? = some (.cells cs' T (0, 0)) → W1.heap[j]? = some (.cells cs' T (0, 0)) := fun j T cs' hT hj => (ho.2 j (fun e => by
    subst e
    rw [hr.blk] at hj
    injection hj with hj
    injection hj with _ ht
    exact hT ht.symm) (lt_blk hj)).trans hj
  obtain ⟨cs, hcs, _⟩ := hpl.blk
  exact ⟨⟨f, hpl.same ((hne _ _ _ (by decide) hcs).trans hcs.symm) (only_km ho hr.blk (by decide))⟩, hq, h.lp, hl, hi, hne _ _ _ (by decide) h.box, h.bel.trans hb⟩

/-- What Add answers, and what waits then. -/
def ac (l : List (Int × Int × Int × Nat × List M7)) (most : Int) (t : T4) : Int := if txright t.side t.acc t.ms = true then (if most ≤ (l.length : Int) then 6 else 0) else 1
def aw (l : List (Int × Int × Int × Nat × List M7)) (most : Int) (t : T4) : List (Int × Int × Int × Nat × List M7) := if txright t.side t.acc t.ms = true then (if most ≤ (l.length : Int) then l else l ++ [W5 t]) else l

theorem padd_law {w W : World} {x : M7} {gp gq : Nat} {most : Int} {ts qs : List T4} (h : LQ w W x gp gq most ts qs) (hm32 : most ≤ 32) (t : T4) (hr : Rd w t.A t.len t.ms) (hl : t.len ≤ 12) {l : List (Int × Int × Int × Nat × List M7)} (hw : ts.map W5 = l) :
    Calls Try.prog 12 #[.pointer (some ⟨gp, 0, none⟩), .agg #[.int .i64 t.side, .int .i64 t.acc, .int .u64 t.n, .slice t.A t.len t.cap]] W fun e w' => e = .returned (.int .i64 (ac l most t)) ∧ ∃ ts', ts'.map W5 = aw l most t ∧ LQ w w' x gp gq most ts' qs := by
  have hlen : l.length = ts.length := by rw [← hw, List.length_map]
  obtain ⟨f, hp⟩ := h.pool
  have hr' := hr.below h.bel
  unfold ac aw
  rw [hlen]
  by_cases hm : txright t.side t.acc t.ms = true
  · rw [if_pos hm, if_pos hm]
    by_cases hf : most ≤ (ts.length : Int)
    · rw [if_pos hf, if_pos hf]
      refine (padd_full hp t hr' (by omega) hm hf).mono ?_
      rintro e w1 ⟨rfl, hb⟩
      exact ⟨rfl, ts, hw, h.below hb⟩
    · rw [if_neg hf, if_neg hf]
      refine (padd_ok hp t hr' (by omega) hm (by omega) hm32).mono ?_
      rintro e w1 ⟨rfl, A, c, hpl, hkm, hon, hbel⟩
      refine ⟨rfl, _, ?_, h.onlyP hon ⟨_, hpl⟩ (by simp; omega) hbel⟩
      rw [List.map_append, hw]
      rfl
  · rw [if_neg hm, if_neg hm]
    refine (padd_bad (g := gp) t hr' (by omega) (by simpa using hm)).mono ?_
    rintro e w1 ⟨rfl, hb⟩
    exact ⟨rfl, ts, hw, h.below hb⟩

theorem radd_law {w W : World} {x : M7} {gp gq : Nat} {most : Int} {ts qs : List T4} (h : LQ w W x gp gq most ts qs) (hm32 : most ≤ 32) (t : T4) (hr : Rd w t.A t.len t.ms) (hl : t.len ≤ 12) {l : List (Int × Int × Int × Nat × List M7)} (hw : qs.map W5 = l) :
    Calls Try.prog 13 #[.pointer (some ⟨gq, 0, none⟩), .agg #[.int .i64 t.side, .int .i64 t.acc, .int .u64 t.n, .slice t.A t.len t.cap]] W fun e w' => e = .returned (.int .i64 (ac l most t)) ∧ ∃ qs', qs'.map W5 = aw l most t ∧ LQ w w' x gp gq most ts qs' := by
  have hlen : l.length = qs.length := by rw [← hw, List.length_map]
  obtain ⟨A, c, hp⟩ := h.page
  have hr' := hr.below h.bel
  unfold ac aw
  rw [hlen]
  by_cases hm : txright t.side t.acc t.ms = true
  · rw [if_pos hm, if_pos hm]
    by_cases hf : most ≤ (qs.length : Int)
    · rw [if_pos hf, if_pos hf]
      refine (radd_full hp t hr' (by omega) hm hf).mono ?_
      rintro e w1 ⟨rfl, hb⟩
      exact ⟨rfl, qs, hw, h.below hb⟩
    · rw [if_neg hf, if_neg hf]
      refine (radd_ok hp t hr' (by omega) hm (by omega) hm32).mono ?_
      rintro e w1 ⟨rfl, A', c', hpl, hkn, hbel⟩
      refine ⟨rfl, _, ?_, h.onlyQ hkn ⟨_, _, hpl⟩ (by simp; omega) (fun q hq => ?_) hbel⟩
      · rw [List.map_append, hw]
        rfl
      · rcases List.mem_append.1 hq with hq | hq
        · exact h.inp q hq
        · obtain rfl : q = t := by simpa using hq
          exact ⟨hr, hl⟩
  · rw [if_neg hm, if_neg hm]
    refine (radd_bad (g := gq) t hr' (by omega) (by simpa using hm)).mono ?_
    rintro e w1 ⟨rfl, hb⟩
    exact ⟨rfl, qs, hw, h.below hb⟩

theorem ptake_law {w W : World} {x : M7} {gp gq : Nat} {most : Int} {ts qs : List T4} (h : LQ w W x gp gq most ts qs) (n : Int) (m : Nat) (hm : m = min n.toNat ts.length) :
    Calls Try.prog 15 #[.pointer (some ⟨gp, 0, none⟩), .int .i64 n] W fun e w' => ∃ A c, e = .returned (.slice A m c) ∧ w'.ownsRow W.heap.size TT 4 (.slice A m c) m (tcells (ts.take m)) ∧ KM W w' ∧ LQ w w' x gp gq most (ts.drop m) qs := by
  obtain ⟨f, hp⟩ := h.pool
  refine (ptake_any hp h.bel.size n m hm).mono ?_
  rintro e w1 ⟨u, f1, rfl, hrow, hpl, hkm, hon, hbel⟩
  obtain ⟨A, c, hu⟩ := own_formN hrow
  subst hu
  exact ⟨A, c, rfl, hrow, hkm, h.onlyP hon ⟨_, hpl⟩ (by have := h.lp; simp; omega) hbel⟩

theorem rtake_law {w W : World} {x : M7} {gp gq : Nat} {most : Int} {ts qs : List T4} (h : LQ w W x gp gq most ts qs) (hm32 : most ≤ 32) (n : Int) (m : Nat) (hm : m = min n.toNat qs.length) :
    Calls Try.prog 16 #[.pointer (some ⟨gq, 0, none⟩), .int .i64 n] W fun e w' => ∃ A c, e = .returned (.slice A m c) ∧ w'.ownsRow W.heap.size TT 4 (.slice A m c) m (tcells (qs.take m)) ∧ Only gq W w' ∧ KM W w' ∧ LQ w w' x gp gq most ts (qs.drop m) := by
  obtain ⟨A0, c0, hp⟩ := h.page
  refine (rtake_any hp (by have := h.lq; omega) n m hm).mono ?_
  rintro e w1 ⟨u, A1, c1, rfl, hrow, hpl, hon, hbel⟩
  obtain ⟨A, c, hu⟩ := own_formN hrow
  subst hu
  exact ⟨A, c, rfl, hrow, hon, only_km hon hp.blk (by decide), h.onlyQ2 hon ⟨_, _, hpl⟩ (by have := h.lq; simp; omega) (fun q hq => h.inp q (List.mem_of_mem_drop hq)) hbel⟩

theorem sim_of {ts qs : List T4} (h : ts.map W5 = qs.map W5) : ∀ i (h1 : i < ts.length) (h2 : i < qs.length), Sim ts[i] qs[i] := fun i h1 h2 => by
  have e : (ts.map W5)[i]'(by simpa using h1) = (qs.map W5)[i]'(by simpa using h2) := by simp only [h]
  simp only [List.getElem_map, W5] at e
  injection e with e1 e
  injection e with e2 e
  injection e with e3 e
  injection e with e4 e5
  exact ⟨e1, e2, e3, e4, e5⟩
theorem small_of {w : World} {ts qs : List T4} (h : ts.map W5 = qs.map W5) (hi : ∀ q ∈ qs, Rd w q.A q.len q.ms ∧ q.len ≤ 12) : ∀ t ∈ ts, t.len ≤ 12 ∧ t.ms.length = t.len := fun t ht => by
  have hm : W5 t ∈ qs.map W5 := by rw [← h]; exact List.mem_map_of_mem ht
  obtain ⟨q, hq, he⟩ := List.mem_map.1 hm
  obtain ⟨hr, hl⟩ := hi q hq
  simp only [W5] at he
  injection he with e1 e
  injection e with e2 e
  injection e with e3 e
  injection e with e4 e5
  exact ⟨by omega, by rw [← e5, ← e4]; exact hr.1⟩

/-- What was taken is the same. -/
theorem takes_same {w W0 W1 W3 : World} {x : M7} {gp gq : Nat} {most : Int} {ts qs ts1 qs3 : List T4} {A A' : Option Addr} {m c c' : Nat} (h0 : LQ w W0 x gp gq most ts qs) (hw : ts.map W5 = qs.map W5) (hm32 : most ≤ 32)
    (h1 : LQ w W1 x gp gq most ts1 qs) (hk1 : KM W0 W1) (hr1 : W1.ownsRow W0.heap.size TT 4 (.slice A m c) m (tcells (ts.take m))) (hm : m ≤ ts.length)
    (ho : Only gq W1 W3) (hk2 : KM W1 W3) (hr2 : W3.ownsRow W1.heap.size TT 4 (.slice A' m c') m (tcells (qs.take m))) (h3 : LQ w W3 x gp gq most ts1 qs3) :
    Calls Try.prog 14 #[.slice A m c, .slice A' m c'] W3 fun e w' => e = .returned (.bool true) ∧ Below W3.heap.size W3 w' := by
  have hlen : ts.length = qs.length := by have := congrArg List.length hw; simpa using this
  obtain ⟨f, hp⟩ := h0.pool
  obtain ⟨A1, c1, hq1⟩ := h1.page
  have hle := h0.lp
  have hR := own_onlyT hr1 ho hq1.blk (by decide)
  refine sameall_any A A' m c c' (ts.take m) (qs.take m) W3 (rowX hR (by simp; omega)) (rowX hr2 (by simp; omega)) (by omega) (fun i h1 h2 => ?_) (fun t ht => ?_) (fun q hq => ?_)
  · rw [List.getElem_take, List.getElem_take]
    exact sim_of hw i (by simp at h1; omega) (by simp at h2; omega)
  · have ht' := List.mem_of_mem_take ht
    obtain ⟨hl, hms⟩ := small_of hw h0.inp t ht'
    exact ⟨row_at (own_km (own_km (hp.rows t ht') hk1) hk2) hms, by omega⟩
  · exact (h0.inp q (List.mem_of_mem_take hq)).1.below h3.bel
theorem drops_same {ts qs : List T4} (h : ts.map W5 = qs.map W5) (m : Nat) : (ts.drop m).map W5 = (qs.drop m).map W5 := by rw [List.map_drop, List.map_drop, h]
end Go.Proofs.Ytjjomlideieofaa.Msg
