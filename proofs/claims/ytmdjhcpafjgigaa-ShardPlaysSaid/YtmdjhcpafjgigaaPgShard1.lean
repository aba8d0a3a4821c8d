/- The page's shard: Claim, End. -/
import Derived.Test.YtmdjhcpafjgigaaPgShard0
import Derived.BigRegion
namespace Go.Proofs.Ytmdjhcpafjgigaa.Mk
open Go Go.RowKit Go.MuLone

/-- a key's entry in the page's row -/
def qE (k : K3) (ls : List En) : Option En := ls.find? fun e => decide (e.k = k)
theorem qE_none {k : K3} {ls : List En} (h : ∀ e ∈ ls, e.k ≠ k) : qE k ls = none := by
  unfold qE; rw [List.find?_eq_none]; intro e he; simpa using h e he
theorem qE_some {k : K3} {ls : List En} {i : Nat} (hi : i < ls.length) (hk : ls[i].k = k) (hb : ∀ j, (h : j < i) → (ls[j]'(by omega)).k ≠ k) : qE k ls = some ls[i] := by
  unfold qE; rw [List.find?_eq_some_iff_getElem]
  exact ⟨by simpa using hk, i, hi, rfl, fun j hj => by simpa using hb j hj⟩
def qR (st who : Int) (k : K3) (ls : List En) : Int :=
  match qE k ls with
  | none => 8
  | some e => if e.st ≠ st then 10 else if st = 2 ∧ e.ow ≠ who then 9 else 0
def qS (k : K3) (e : En) (ls : List En) : List En := ls.set (qf k ls).toNat e
def qC (st who : Int) (k : K3) (ls X : List En) : List En := if qR st who k ls = 0 then X else ls
theorem ecs_set (e : En) : ∀ (ls : List En) (i : Nat), i < ls.length → ecs (ls.set i e) = (((((ecs ls).set (i * 5) (.int .i64 e.k.c)).set (i * 5 + 1) (.int .i64 e.k.f)).set (i * 5 + 2) (.int .u64 e.k.s)).set (i * 5 + 3) (.int .i64 e.st)).set (i * 5 + 4) (.int .i64 e.ow)
  | [], _, h => by cases h
  | a :: l, 0, _ => by
    obtain ⟨⟨c, f, s⟩, st, ow⟩ := a
    simp [ecs, encE, En.cells]
  | a :: l, i + 1, h => by
    have ih := ecs_set e l i (by simpa using h)
    have e1 : ecs (a :: l) = encE a ++ ecs l := by simp [ecs]
    have e2 : ecs (a :: l.set i e) = encE a ++ ecs (l.set i e) := by simp [ecs]
    have hs : ∀ (X : List Value) (q : Nat) (v : Value), (encE a ++ X).set ((i + 1) * 5 + q) v = encE a ++ X.set (i * 5 + q) v := fun X q v => by
      rw [List.set_append_right _ _ (by rw [encE_len]; omega), encE_len, show (i + 1) * 5 + q - 5 = i * 5 + q by omega]
    have hs0 := fun X v => hs X 0 v
    simp only [Nat.add_zero] at hs0
    rw [List.set_cons_succ, e2, ih, e1, hs0, hs, hs, hs, hs]
theorem QI.set {V : World} {Q g c n : Nat} {room : Int} {ls : List En} (h : QI V Q room (.slice (some ⟨g, 0, none⟩) n c) ls) (i : Nat) (hi : i < ls.length) (e : En) :
    QI (((((V.setCell ⟨g, i * 5, none⟩ (.int .i64 e.k.c)).setCell ⟨g, i * 5 + 1, none⟩ (.int .i64 e.k.f)).setCell ⟨g, i * 5 + 2, none⟩ (.int .u64 e.k.s)).setCell ⟨g, i * 5 + 3, none⟩ (.int .i64 e.st)).setCell ⟨g, i * 5 + 4, none⟩ (.int .i64 e.ow)) Q room (.slice (some ⟨g, 0, none⟩) n c) (ls.set i e) := by
  obtain ⟨hbox, h1, h2⟩ := h
  rcases h2 with ⟨h3, _⟩ | ⟨g', cap, cur, hv, hg, hh, hn, hm, hs, ht⟩
  · cases h3
  · injection hv with hv hv2 hv3
    injection hv with hv
    injection hv with hv
    subst hv hv2 hv3
    refine ⟨?_, by rw [ecs_len, List.length_set], Or.inr ⟨g, c, _, by rw [List.length_set], hg, setCell_at _ (setCell_at _ (setCell_at _ (setCell_at _ (setCell_at _ hh)))), by rw [List.length_set]; exact hn, hm, by simpa using hs, ?_⟩⟩
    · rw [Below.heap_setCell _ _ _ _ (show Q ≠ g by omega), Below.heap_setCell _ _ _ _ (show Q ≠ g by omega), Below.heap_setCell _ _ _ _ (show Q ≠ g by omega), Below.heap_setCell _ _ _ _ (show Q ≠ g by omega), Below.heap_setCell _ _ _ _ (show Q ≠ g by omega)]
      exact hbox
    · rw [ecs_set e ls i hi, List.length_set, ← ht]
      simp only [Array.toList_setIfInBounds, List.take_set]
theorem below_set5 {B g i : Nat} {a w : World} (h : Below B a w) (hg : B ≤ g) (v0 v1 v2 v3 v4 : Value) : Below B a (((((w.setCell ⟨g, i, none⟩ v0).setCell ⟨g, i + 1, none⟩ v1).setCell ⟨g, i + 2, none⟩ v2).setCell ⟨g, i + 3, none⟩ v3).setCell ⟨g, i + 4, none⟩ v4) :=
  ((((h.setCell hg _).setCell hg _).setCell hg _).setCell hg _).setCell hg _
set_option maxRecDepth 20000 in
set_option maxHeartbeats 1000000 in
theorem qclaim_any (Q : Nat) (room who : Int) (v : Value) (ls : List En) (k : K3) (w : World) (h : QI w Q room v ls) (hn : ls.length ≤ 1000) (hw : ¬ who < 1) :
    Calls Try.prog 21 #[.pointer (some ⟨Q, 0, none⟩), k.val, .int .i64 who] w fun e w' => e = .returned (.int .i64 (qR 1 who k ls)) ∧ ∃ v', QI w' Q room v' (qC 1 who k ls (qS k ⟨k, 2, who⟩ ls)) ∧ Below Q w w' := by
  have HK := Lib.hid (KB.new w k)
  have HQ := Lib.hid (h.alloc (.cells #[.int .i64 k.c, .int .i64 k.f, .int .u64 k.s] 35))
  have HQ0 : Hid (Q < w.heap.size) := h.lt
  clear h
  obtain ⟨K0, hK0⟩ : ∃ K0 : K3, K0 = k := ⟨_, rfl⟩
  obtain ⟨kc, kf, ks⟩ := k
  unfold K3.val
  dsimp only at HK HQ ⊢
  have HF := Lib.hid (find_any Q room v ls ⟨kc, kf, ks⟩ _ HQ.out hn)
  unfold K3.val at HF
  dsimp only at HF
  rw [← hK0] at HK HF ⊢
  have HK0 := Lib.hid hK0
  clear hK0
  go_enter Try.func21, Try.ntmps21
  go_wp2_with fail
  generalize w.alloc (.cells #[.int .i64 kc, .int .i64 kf, .int .u64 ks] 35) = W1 at HK HQ HF ⊢
  refine HF.out.mono ?_
  rintro _ w1 ⟨rfl, hb⟩
  have HK1 := Lib.hid (HK.out.below hb)
  have HQ1 := Lib.hid (HQ.out.below hb)
  clear HK HQ HF hb
  have HB1 : Hid (Below Q w w1) := HK1.out.bel.mono (Nat.le_of_lt HQ0.out)
  obtain ⟨A, c, rfl⟩ := HQ1.out.form
  obtain ⟨n, hnd⟩ : ∃ n, n = ls.length := ⟨_, rfl⟩
  have HN : Hid (n = ls.length) := hnd
  rw [← hnd] at hn HQ1
  clear hnd
  rcases qf_cases K0 ls with ⟨hq, hall⟩ | ⟨i, hi, hq, hki, hbf⟩
  · have HR : Hid (qR 1 who K0 ls = 8) := by show qR _ _ _ _ = _; unfold qR; rw [qE_none hall]
    rw [hq]
    clear hall hq
    go_wp2
    go_ret
    exact ⟨by rw [HR.out]; first | rfl | trivial, _, by unfold qC; rw [if_neg (by rw [HR.out]; decide)]; exact HQ1.out, HB1.out⟩
  · have HE := Lib.hid (qE_some hi hki hbf)
    have HQF := Lib.hid hq
    rw [hq]
    obtain ⟨g, c1, hv, hgQ, hgl, he⟩ := HQ1.out.rowE.at i hi
    injection hv with hv hv1 hv2
    clear hv1
    subst hv hv2
    have HGQ := Lib.hid hgQ
    have hi0 : (0 : Int) ≤ (i : Int) := by omega
    have hin : (i : Int) < (n : Int) := by have := HN.out; omega
    have HI : Hid (i < ls.length) := hi
    have hr : qR 1 who K0 ls = if (ls[i]).st ≠ 1 then 10 else if 1 = (2 : Int) ∧ (ls[i]).ow ≠ who then 9 else 0 := by
      unfold qR; rw [HE.out]; rfl
    generalize ls[i]'hi = m at he hr
    obtain ⟨⟨mc, mf, ms⟩, mst, mow⟩ := m
    obtain ⟨e0, e1, e2, e3, e4⟩ := he
    have q0 := HQ1.out.cell.1
    have q1 := HQ1.out.cell.2.2
    obtain ⟨-, k0, k1, k2⟩ := HK1.out
    rw [HK0.out] at k0 k1 k2
    dsimp only at e0 e1 e2 e3 e4 hr k0 k1 k2
    have HFZ : Hid (∀ o, w1.frozen? ⟨g, o, none⟩ = false) := by
      rcases HQ1.out.row.2 with ⟨h3, _⟩ | ⟨g', cap, cur, hv, hg, hh, _⟩
      · cases h3
      · injection hv with hv
        injection hv with hv
        injection hv with hv
        subst hv
        intro o; simp [World.frozen?, hh]
    clear hq hki hbf hgQ HE hi
    by_cases hst : mst = 1
    · rw [if_neg (by simpa using hst)] at hr
      subst hst
      have HR : Hid (qR 1 who K0 ls = 0) := by rw [if_neg (by simp)] at hr; exact hr
      clear hr
      have fz := HFZ.out
      have fz0 := fz (i * 5)
      have fz1 := fz (i * 5 + 1)
      have fz2 := fz (i * 5 + 2)
      have fz3 := fz (i * 5 + 3)
      have fz4 := fz (i * 5 + 4)
      clear fz
      go_wp2
      go_region
      go_wp2
      go_ret
      have h5 := HQ1.out.set i HI.out ⟨K0, 2, who⟩
      refine ⟨by rw [HR.out]; first | rfl | trivial, _, by unfold qC qS; rw [if_pos HR.out, HQF.out, Int.toNat_natCast]; rw [HK0.out] at h5 ⊢; exact h5.drew, ?_⟩
      exact (below_set5 HB1.out (by have := HGQ.out; omega) _ _ _ _ _).drew
    · have HR : Hid (qR 1 who K0 ls = 10) := by rw [if_pos (by simpa using hst)] at hr; exact hr
      clear hr
      go_wp2
      go_ret
      exact ⟨by rw [HR.out]; first | rfl | trivial, _, by unfold qC; rw [if_neg (by rw [HR.out]; decide)]; exact HQ1.out, HB1.out⟩
set_option maxRecDepth 20000 in
set_option maxHeartbeats 1000000 in
theorem qend_any (Q : Nat) (room who : Int) (v : Value) (ls : List En) (k : K3) (w : World) (h : QI w Q room v ls) (hn : ls.length ≤ 1000) (t : Int) :
    Calls Try.prog 22 #[.pointer (some ⟨Q, 0, none⟩), k.val, .int .i64 who, .int .i64 t] w fun e w' => e = .returned (.int .i64 (qR 2 who k ls)) ∧ ∃ v', QI w' Q room v' (qC 2 who k ls (qS k ⟨k, t, 0⟩ ls)) ∧ Below Q w w' := by
  have HK := Lib.hid (KB.new w k)
  have HQ := Lib.hid (h.alloc (.cells #[.int .i64 k.c, .int .i64 k.f, .int .u64 k.s] 35))
  have HQ0 : Hid (Q < w.heap.size) := h.lt
  clear h
  obtain ⟨K0, hK0⟩ : ∃ K0 : K3, K0 = k := ⟨_, rfl⟩
  obtain ⟨kc, kf, ks⟩ := k
  unfold K3.val
  dsimp only at HK HQ ⊢
  have HF := Lib.hid (find_any Q room v ls ⟨kc, kf, ks⟩ _ HQ.out hn)
  unfold K3.val at HF
  dsimp only at HF
  rw [← hK0] at HK HF ⊢
  have HK0 := Lib.hid hK0
  clear hK0
  go_enter Try.func22, Try.ntmps22
  go_wp2_with fail
  generalize w.alloc (.cells #[.int .i64 kc, .int .i64 kf, .int .u64 ks] 35) = W1 at HK HQ HF ⊢
  refine HF.out.mono ?_
  rintro _ w1 ⟨rfl, hb⟩
  have HK1 := Lib.hid (HK.out.below hb)
  have HQ1 := Lib.hid (HQ.out.below hb)
  clear HK HQ HF hb
  have HB1 : Hid (Below Q w w1) := HK1.out.bel.mono (Nat.le_of_lt HQ0.out)
  obtain ⟨A, c, rfl⟩ := HQ1.out.form
  obtain ⟨n, hnd⟩ : ∃ n, n = ls.length := ⟨_, rfl⟩
  have HN : Hid (n = ls.length) := hnd
  rw [← hnd] at hn HQ1
  clear hnd
  rcases qf_cases K0 ls with ⟨hq, hall⟩ | ⟨i, hi, hq, hki, hbf⟩
  · have HR : Hid (qR 2 who K0 ls = 8) := by show qR _ _ _ _ = _; unfold qR; rw [qE_none hall]
    rw [hq]
    clear hall hq
    go_wp2
    go_ret
    exact ⟨by rw [HR.out]; first | rfl | trivial, _, by unfold qC; rw [if_neg (by rw [HR.out]; decide)]; exact HQ1.out, HB1.out⟩
  · have HE := Lib.hid (qE_some hi hki hbf)
    have HQF := Lib.hid hq
    rw [hq]
    obtain ⟨g, c1, hv, hgQ, hgl, he⟩ := HQ1.out.rowE.at i hi
    injection hv with hv hv1 hv2
    clear hv1
    subst hv hv2
    have HGQ := Lib.hid hgQ
    have hi0 : (0 : Int) ≤ (i : Int) := by omega
    have hin : (i : Int) < (n : Int) := by have := HN.out; omega
    have HI : Hid (i < ls.length) := hi
    have hr : qR 2 who K0 ls = if (ls[i]).st ≠ 2 then 10 else if 2 = (2 : Int) ∧ (ls[i]).ow ≠ who then 9 else 0 := by
      unfold qR; rw [HE.out]; rfl
    generalize ls[i]'hi = m at he hr
    obtain ⟨⟨mc, mf, ms⟩, mst, mow⟩ := m
    obtain ⟨e0, e1, e2, e3, e4⟩ := he
    have q0 := HQ1.out.cell.1
    have q1 := HQ1.out.cell.2.2
    obtain ⟨-, k0, k1, k2⟩ := HK1.out
    rw [HK0.out] at k0 k1 k2
    dsimp only at e0 e1 e2 e3 e4 hr k0 k1 k2
    have HFZ : Hid (∀ o, w1.frozen? ⟨g, o, none⟩ = false) := by
      rcases HQ1.out.row.2 with ⟨h3, _⟩ | ⟨g', cap, cur, hv, hg, hh, _⟩
      · cases h3
      · injection hv with hv
        injection hv with hv
        injection hv with hv
        subst hv
        intro o; simp [World.frozen?, hh]
    clear hq hki hbf hgQ HE hi
    by_cases hst : mst = 2
    · rw [if_neg (by simpa using hst)] at hr
      subst hst
      by_cases how : mow = who
      · have HR : Hid (qR 2 who K0 ls = 0) := by rw [if_neg (by simp [how])] at hr; exact hr
        subst how
        clear hr
        have fz := HFZ.out
        have fz0 := fz (i * 5)
        have fz1 := fz (i * 5 + 1)
        have fz2 := fz (i * 5 + 2)
        have fz3 := fz (i * 5 + 3)
        have fz4 := fz (i * 5 + 4)
        clear fz
        go_wp2
        go_region
        go_wp2
        go_ret
        have h5 := HQ1.out.set i HI.out ⟨K0, t, 0⟩
        refine ⟨by rw [HR.out]; first | rfl | trivial, _, by unfold qC qS; rw [if_pos HR.out, HQF.out, Int.toNat_natCast]; rw [HK0.out] at h5 ⊢; exact h5.drew, ?_⟩
        exact (below_set5 HB1.out (by have := HGQ.out; omega) _ _ _ _ _).drew
      · have HR : Hid (qR 2 who K0 ls = 9) := by rw [if_pos (by simp [how])] at hr; exact hr
        clear hr
        go_wp2
        go_ret
        exact ⟨by rw [HR.out]; first | rfl | trivial, _, by unfold qC; rw [if_neg (by rw [HR.out]; decide)]; exact HQ1.out, HB1.out⟩
    · have HR : Hid (qR 2 who K0 ls = 10) := by rw [if_pos (by simpa using hst)] at hr; exact hr
      clear hr
      go_wp2
      go_ret
      exact ⟨by rw [HR.out]; first | rfl | trivial, _, by unfold qC; rw [if_neg (by rw [HR.out]; decide)]; exact HQ1.out, HB1.out⟩
end Go.Proofs.Ytmdjhcpafjgigaa.Mk
