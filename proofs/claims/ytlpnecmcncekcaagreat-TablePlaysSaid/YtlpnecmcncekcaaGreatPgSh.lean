import Derived.Test.YtlpnecmcncekcaaGreatSnapA
import Derived.Test.YtlpnecmcncekcaaGreatShardTell0
import Derived.Test.YtlpnecmcncekcaaGreatSm
import Derived.Test.YtlpnecmcncekcaaGreatEnSame
import Derived.BigRegion
/- The page's shard: its block, its row; Find. -/
namespace Go.Proofs.YtlpnecmcncekcaaGreat.Mk
open Go Go.RowKit Go.MuLone

abbrev TQ : Nat := 87
/-- the page's shard in block Q: its row is its own, behind Q -/
structure QI (V : World) (Q : Nat) (room : Int) (v : Value) (ls : List En) : Prop where
  box : V.heap[Q]? = some (.cells #[v, .int .i64 room] TQ (0, 0))
  row : V.ownsRow (Q + 1) TEn 5 v ls.length (ecs ls)
section
variable {V V' : World} {Q : Nat} {room : Int} {v : Value} {ls : List En}
theorem QI.lt (h : QI V Q room v ls) : Q < V.heap.size := (Array.getElem?_eq_some_iff.1 h.box).1
theorem QI.keep (h : QI V Q room v ls) (hb : ∀ k, Q ≤ k → k < V.heap.size → V'.heap[k]? = V.heap[k]?) : QI V' Q room v ls :=
  ⟨(hb Q (Nat.le_refl _) h.lt).trans h.box, own_keep5 h.row fun k h1 h2 => hb k (by omega) h2⟩
theorem QI.below (h : QI V Q room v ls) (hb : Below V.heap.size V V') : QI V' Q room v ls := h.keep fun k _ hk => hb.block k hk
theorem QI.alloc (h : QI V Q room v ls) (o : Obj) : QI (V.alloc o) Q room v ls := h.keep fun _ _ hk => Below.heap_alloc _ _ _ hk
theorem QI.drew (h : QI V Q room v ls) : QI V.drew Q room v ls := ⟨h.box, h.row⟩
theorem QI.drewN (h : QI V Q room v ls) (n : Nat) : QI (V.drewN n) Q room v ls := ⟨h.box, h.row⟩
theorem QI.form (h : QI V Q room v ls) : ∃ A c, v = .slice A ls.length c := by
  rcases h.row.2 with ⟨h1, h2⟩ | ⟨g, cap, cur, h1, _⟩
  · exact ⟨none, 0, by rw [h1, h2]⟩
  · exact ⟨_, _, h1⟩
theorem QI.rowE (h : QI V Q room v ls) : RowE (Q + 1) V v ls := rowE_of_own h.row
theorem QI.cell (h : QI V Q room v ls) : V.cell? ⟨Q, 0, none⟩ = some v ∧ V.cell? ⟨Q, 1, none⟩ = some (.int .i64 room) ∧ V.frozen? ⟨Q, 0, none⟩ = false :=
  ⟨cell_of_row V Q 0 _ _ (0, 0) h.box, cell_of_row V Q 1 _ _ (0, 0) h.box, by simp [World.frozen?, h.box]⟩
end
/-- where a key stands in the page's row -/
def qf (k : K3) (ls : List En) : Int := match ls.findIdx? (fun e => decide (e.k = k)) with
  | some i => (i : Int)
  | none => -1
theorem qf_some {k : K3} {ls : List En} {i : Nat} (hi : i < ls.length) (hk : ls[i].k = k) (hb : ∀ j, (h : j < i) → (ls[j]'(by omega)).k ≠ k) : qf k ls = (i : Int) := by
  have : ls.findIdx? (fun e => decide (e.k = k)) = some i := by
    rw [List.findIdx?_eq_some_iff_getElem]
    exact ⟨hi, by simpa using hk, fun j hj => by simpa using hb j hj⟩
  unfold qf; rw [this]
theorem qf_none {k : K3} {ls : List En} (hb : ∀ e ∈ ls, e.k ≠ k) : qf k ls = -1 := by
  have : ls.findIdx? (fun e => decide (e.k = k)) = none := by
    rw [List.findIdx?_eq_none_iff]
    intro e he; simpa using hb e he
  unfold qf; rw [this]
theorem qf_cases (k : K3) (ls : List En) : (qf k ls = -1 ∧ ∀ e ∈ ls, e.k ≠ k) ∨ ∃ (i : Nat) (h : i < ls.length), qf k ls = (i : Int) ∧ ls[i].k = k ∧ ∀ j, (h : j < i) → (ls[j]'(by omega)).k ≠ k := by
  unfold qf
  cases h : ls.findIdx? (fun e => decide (e.k = k)) with
  | none =>
    rw [List.findIdx?_eq_none_iff] at h
    exact Or.inl ⟨rfl, fun e he => by simpa using h e he⟩
  | some i =>
    rw [List.findIdx?_eq_some_iff_getElem] at h
    obtain ⟨hi, h1, h2⟩ := h
    exact Or.inr ⟨i, hi, rfl, by simpa using h1, fun j hj => by simpa using h2 j hj⟩
/-- a key that was laid into a box at the heap's end -/
structure KB (w V : World) (k : K3) : Prop where
  bel : Below w.heap.size w V
  c : V.cell? ⟨w.heap.size, 0, none⟩ = some (.int .i64 k.c)
  f : V.cell? ⟨w.heap.size, 1, none⟩ = some (.int .i64 k.f)
  s : V.cell? ⟨w.heap.size, 2, none⟩ = some (.int .u64 k.s)
theorem KB.new (w : World) (k : K3) : KB w (w.alloc (.cells #[.int .i64 k.c, .int .i64 k.f, .int .u64 k.s] 41)) k := by
  have h := heap_alloc_new w (.cells #[.int .i64 k.c, .int .i64 k.f, .int .u64 k.s] 41)
  exact ⟨(Below.refl _ _).alloc (Nat.le_refl _) _, cell_of_row _ _ 0 _ _ (0, 0) h, cell_of_row _ _ 1 _ _ (0, 0) h, cell_of_row _ _ 2 _ _ (0, 0) h⟩
theorem KB.drewN {w V : World} {k : K3} (h : KB w V k) (n : Nat) : KB w (V.drewN n) k := ⟨below_drewN h.bel n, h.c, h.f, h.s⟩
theorem KB.size {w V : World} {k : K3} (h : KB w V k) : w.heap.size < V.heap.size := World.block_lt_of_cell? _ _ h.c
theorem KB.below {w V V' : World} {k : K3} (h : KB w V k) (hb : Below V.heap.size V V') : KB w V' k := by
  have e : ∀ o, V'.cell? ⟨w.heap.size, o, none⟩ = V.cell? ⟨w.heap.size, o, none⟩ := fun o => hb.cell (p := ⟨w.heap.size, o, none⟩) h.size
  exact ⟨h.bel.trans (hb.mono (Nat.le_of_lt h.size)), (e _).trans h.c, (e _).trans h.f, (e _).trans h.s⟩
set_option maxRecDepth 20000 in
set_option maxHeartbeats 1000000 in
theorem find_any (Q : Nat) (room : Int) (v : Value) (ls : List En) (k : K3) (w : World) (h : QI w Q room v ls) (hn : ls.length ≤ 1000) :
    Calls Tryz.prog 43 #[.pointer (some ⟨Q, 0, none⟩), k.val] w fun e w' => e = .returned (.int .i64 (qf k ls)) ∧ Below w.heap.size w w' := by
  have HK := Lib.hid (KB.new w k)
  have HQ := Lib.hid (h.alloc (.cells #[.int .i64 k.c, .int .i64 k.f, .int .u64 k.s] 41))
  obtain ⟨A, c, rfl⟩ := h.form
  clear h
  obtain ⟨n, hnd⟩ : ∃ n, n = ls.length := ⟨_, rfl⟩
  have HN : Hid (n = ls.length) := hnd
  rw [← hnd] at hn HQ
  clear hnd
  obtain ⟨kc, kf, ks⟩ := k
  unfold K3.val
  dsimp only at HK HQ
  go_enter Tryz.func43, Tryz.ntmps43
  go_upto_region 2 with fail
  generalize w.alloc (.cells #[.int .i64 kc, .int .i64 kf, .int .u64 ks] 41) = W1 at HK HQ ⊢
  go_loopw [5] (fun i wr => ∃ j : Nat, i = .int .i64 (j : Int) ∧ j ≤ n ∧ Hid (∀ q, (h : q < j) → (h2 : q < ls.length) → (ls[q]'h2).k ≠ ⟨kc, kf, ks⟩) ∧ ∃ q, wr = W1.drewN q) (fun i _ => n - (intOf i).toNat)
  case atStart => exact ⟨0, rfl, Nat.zero_le _, fun q h => by omega, 0, rfl⟩
  case round =>
    obtain ⟨j, rfl, hj, HB, q, rfl⟩ := hrel
    have q0 := HQ.out.cell.1
    by_cases hlt : j < n
    · obtain ⟨g, c1, hv, _, _, he⟩ := HQ.out.rowE.at j (by have := HN.out; omega)
      injection hv with hv _ hv2
      subst hv hv2
      have HC : Hid (((ls[j]'(by have := HN.out; omega)).k = ⟨kc, kf, ks⟩ ∧ qf ⟨kc, kf, ks⟩ ls = (j : Int)) ∨ ((ls[j]'(by have := HN.out; omega)).k ≠ ⟨kc, kf, ks⟩ ∧ ∀ q, (h : q < j + 1) → (h2 : q < ls.length) → (ls[q]'h2).k ≠ ⟨kc, kf, ks⟩)) := by
        show _ ∨ _
        by_cases heq : (ls[j]'(by have := HN.out; omega)).k = ⟨kc, kf, ks⟩
        · exact Or.inl ⟨heq, qf_some (by have := HN.out; omega) heq fun q hq => HB.out q hq _⟩
        · refine Or.inr ⟨heq, fun q hq h2 => ?_⟩
          rcases Nat.lt_or_ge q j with h | h
          · exact HB.out q h h2
          · obtain rfl : q = j := by omega
            exact heq
      obtain ⟨-, k0, k1, k2⟩ := HK.out
      generalize ls[j]'(by have := HN.out; omega) = m at he HC
      obtain ⟨⟨mc, mf, ms⟩, st, ow⟩ := m
      obtain ⟨e0, e1, e2, -, -⟩ := he
      dsimp only at k0 k1 k2 e0 e1 e2 HC
      have hne := fun W => eql_key ⟨mc, mf, ms⟩ ⟨kc, kf, ks⟩ W
      unfold K3.val at hne
      have hi0 : (0 : Int) ≤ (j : Int) := by omega
      have hi1 : (j : Int) < (n : Int) := by omega
      rcases HC.out with ⟨heq, hqf⟩ | ⟨heq, hall⟩
      · have HF : Hid (qf ⟨kc, kf, ks⟩ ls = (j : Int)) := hqf
        simp only [heq, decide_true] at hne
        clear heq hqf HC
        go_wp2
        go_quiet (fail)
        go_wp2
        go_ret
        exact ⟨by rw [HF.out]; first | rfl | trivial, below_drewN (below_drewN HK.out.bel _) _⟩
      · have HA := Lib.hid hall
        simp only [heq, decide_false] at hne
        clear heq hall HC
        go_wp2
        go_quiet (fail)
        go_wp2
        go_roundw
        case rel => exact ⟨j + 1, by go_num, by omega, HA.out, _, rfl⟩
        case measure => simp [intOf]; omega
    · obtain rfl : j = n := by omega
      have HF : Hid (qf ⟨kc, kf, ks⟩ ls = -1) := qf_none fun e he => by
        obtain ⟨i, hi, rfl⟩ := List.getElem_of_mem he
        exact HB.out i (by have := HN.out; omega) hi
      go_wp2
      go_ret
      exact ⟨by rw [HF.out]; first | rfl | trivial, below_drewN HK.out.bel _⟩
end Go.Proofs.YtlpnecmcncekcaaGreat.Mk
/- The page's shard: Claim, End. -/
namespace Go.Proofs.YtlpnecmcncekcaaGreat.Mk
open Go Go.RowKit Go.MuLone

/-- a key's entry in the page's row -/
def qE (k : K3) (ls : List En) : Option En := ls.find? fun e => decide (e.k = k)
theorem qE_none {k : K3} {ls : List En} (h : ∀ e ∈ ls, e.k ≠ k) : qE k ls = none := by
  unfold qE; rw [List.find?_eq_none]; intro e he; simpa using h e he
theorem qE_some {k : K3} {ls : List En} {i : Nat} (hi : i < ls.length) (hk : ls[i].k = k) (hb : ∀ j, (h : j < i) → (ls[j]'(by omega)).k ≠ k) : qE k ls = some ls[i] := by
  unfold qE; rw [List.find?_eq_some_iff_getElem]
  exact ⟨by simpa using hk, i, hi, rfl, fun j hj => by simpa using hb j hj⟩
def qR (st who : Int) (k : K3) (ls : List En) : Int :=
  match qE k ls with
  | none => 8
  | some e => if e.st ≠ st then 10 else if st = 2 ∧ e.ow ≠ who then 9 else 0
def qS (k : K3) (e : En) (ls : List En) : List En := ls.set (qf k ls).toNat e
def qC (st who : Int) (k : K3) (ls X : List En) : List En := if qR st who k ls = 0 then X else ls
theorem ecs_set (e : En) : ∀ (ls : List En) (i : Nat), i < ls.length → ecs (ls.set i e) = (((((ecs ls).set (i * 5) (.int .i64 e.k.c)).set (i * 5 + 1) (.int .i64 e.k.f)).set (i * 5 + 2) (.int .u64 e.k.s)).set (i * 5 + 3) (.int .i64 e.st)).set (i * 5 + 4) (.int .i64 e.ow)
  | [], _, h => by cases h
  | a :: l, 0, _ => by
    obtain ⟨⟨c, f, s⟩, st, ow⟩ := a
    simp [ecs, encE, En.cells]
  | a :: l, i + 1, h => by
    have ih := ecs_set e l i (by simpa using h)
    have e1 : ecs (a :: l) = encE a ++ ecs l := by simp [ecs]
    have e2 : ecs (a :: l.set i e) = encE a ++ ecs (l.set i e) := by simp [ecs]
    have hs : ∀ (X : List Value) (q : Nat) (v : Value), (encE a ++ X).set ((i + 1) * 5 + q) v = encE a ++ X.set (i * 5 + q) v := fun X q v => by
      rw [List.set_append_right _ _ (by rw [encE_len]; omega), encE_len, show (i + 1) * 5 + q - 5 = i * 5 + q by omega]
    have hs0 := fun X v => hs X 0 v
    simp only [Nat.add_zero] at hs0
    rw [List.set_cons_succ, e2, ih, e1, hs0, hs, hs, hs, hs]
theorem QI.set {V : World} {Q g c n : Nat} {room : Int} {ls : List En} (h : QI V Q room (.slice (some ⟨g, 0, none⟩) n c) ls) (i : Nat) (hi : i < ls.length) (e : En) :
    QI (((((V.setCell ⟨g, i * 5, none⟩ (.int .i64 e.k.c)).setCell ⟨g, i * 5 + 1, none⟩ (.int .i64 e.k.f)).setCell ⟨g, i * 5 + 2, none⟩ (.int .u64 e.k.s)).setCell ⟨g, i * 5 + 3, none⟩ (.int .i64 e.st)).setCell ⟨g, i * 5 + 4, none⟩ (.int .i64 e.ow)) Q room (.slice (some ⟨g, 0, none⟩) n c) (ls.set i e) := by
  obtain ⟨hbox, h1, h2⟩ := h
  rcases h2 with ⟨h3, _⟩ | ⟨g', cap, cur, hv, hg, hh, hn, hm, hs, ht⟩
  · cases h3
  · injection hv with hv hv2 hv3
    injection hv with hv
    injection hv with hv
    subst hv hv2 hv3
    refine ⟨?_, by rw [ecs_len, List.length_set], Or.inr ⟨g, c, _, by rw [List.length_set], hg, setCell_at _ (setCell_at _ (setCell_at _ (setCell_at _ (setCell_at _ hh)))), by rw [List.length_set]; exact hn, hm, by simpa using hs, ?_⟩⟩
    · rw [Below.heap_setCell _ _ _ _ (show Q ≠ g by omega), Below.heap_setCell _ _ _ _ (show Q ≠ g by omega), Below.heap_setCell _ _ _ _ (show Q ≠ g by omega), Below.heap_setCell _ _ _ _ (show Q ≠ g by omega), Below.heap_setCell _ _ _ _ (show Q ≠ g by omega)]
      exact hbox
    · rw [ecs_set e ls i hi, List.length_set, ← ht]
      simp only [Array.toList_setIfInBounds, List.take_set]
theorem below_set5 {B g i : Nat} {a w : World} (h : Below B a w) (hg : B ≤ g) (v0 v1 v2 v3 v4 : Value) : Below B a (((((w.setCell ⟨g, i, none⟩ v0).setCell ⟨g, i + 1, none⟩ v1).setCell ⟨g, i + 2, none⟩ v2).setCell ⟨g, i + 3, none⟩ v3).setCell ⟨g, i + 4, none⟩ v4) :=
  ((((h.setCell hg _).setCell hg _).setCell hg _).setCell hg _).setCell hg _
set_option maxRecDepth 20000 in
set_option maxHeartbeats 1000000 in
theorem qclaim_any (Q : Nat) (room who : Int) (v : Value) (ls : List En) (k : K3) (w : World) (h : QI w Q room v ls) (hn : ls.length ≤ 1000) (hw : ¬ who < 1) :
    Calls Tryz.prog 61 #[.pointer (some ⟨Q, 0, none⟩), k.val, .int .i64 who] w fun e w' => e = .returned (.int .i64 (qR 1 who k ls)) ∧ ∃ v', QI w' Q room v' (qC 1 who k ls (qS k ⟨k, 2, who⟩ ls)) ∧ Below Q w w' := by
  have HK := Lib.hid (KB.new w k)
  have HQ := Lib.hid (h.alloc (.cells #[.int .i64 k.c, .int .i64 k.f, .int .u64 k.s] 41))
  have HQ0 : Hid (Q < w.heap.size) := h.lt
  clear h
  obtain ⟨K0, hK0⟩ : ∃ K0 : K3, K0 = k := ⟨_, rfl⟩
  obtain ⟨kc, kf, ks⟩ := k
  unfold K3.val
  dsimp only at HK HQ ⊢
  have HF := Lib.hid (find_any Q room v ls ⟨kc, kf, ks⟩ _ HQ.out hn)
  unfold K3.val at HF
  dsimp only at HF
  rw [← hK0] at HK HF ⊢
  have HK0 := Lib.hid hK0
  clear hK0
  go_enter Tryz.func61, Tryz.ntmps61
  go_wp2_with fail
  generalize w.alloc (.cells #[.int .i64 kc, .int .i64 kf, .int .u64 ks] 41) = W1 at HK HQ HF ⊢
  refine HF.out.mono ?_
  rintro _ w1 ⟨rfl, hb⟩
  have HK1 := Lib.hid (HK.out.below hb)
  have HQ1 := Lib.hid (HQ.out.below hb)
  clear HK HQ HF hb
  have HB1 : Hid (Below Q w w1) := HK1.out.bel.mono (Nat.le_of_lt HQ0.out)
  obtain ⟨A, c, rfl⟩ := HQ1.out.form
  obtain ⟨n, hnd⟩ : ∃ n, n = ls.length := ⟨_, rfl⟩
  have HN : Hid (n = ls.length) := hnd
  rw [← hnd] at hn HQ1
  clear hnd
  rcases qf_cases K0 ls with ⟨hq, hall⟩ | ⟨i, hi, hq, hki, hbf⟩
  · have HR : Hid (qR 1 who K0 ls = 8) := by show qR _ _ _ _ = _; unfold qR; rw [qE_none hall]
    rw [hq]
    clear hall hq
    go_wp2
    go_ret
    exact ⟨by rw [HR.out]; first | rfl | trivial, _, by unfold qC; rw [if_neg (by rw [HR.out]; decide)]; exact HQ1.out, HB1.out⟩
  · have HE := Lib.hid (qE_some hi hki hbf)
    have HQF := Lib.hid hq
    rw [hq]
    obtain ⟨g, c1, hv, hgQ, hgl, he⟩ := HQ1.out.rowE.at i hi
    injection hv with hv hv1 hv2
    clear hv1
    subst hv hv2
    have HGQ := Lib.hid hgQ
    have hi0 : (0 : Int) ≤ (i : Int) := by omega
    have hin : (i : Int) < (n : Int) := by have := HN.out; omega
    have HI : Hid (i < ls.length) := hi
    have hr : qR 1 who K0 ls = if (ls[i]).st ≠ 1 then 10 else if 1 = (2 : Int) ∧ (ls[i]).ow ≠ who then 9 else 0 := by
      unfold qR; rw [HE.out]; rfl
    generalize ls[i]'hi = m at he hr
    obtain ⟨⟨mc, mf, ms⟩, mst, mow⟩ := m
    obtain ⟨e0, e1, e2, e3, e4⟩ := he
    have q0 := HQ1.out.cell.1
    have q1 := HQ1.out.cell.2.2
    obtain ⟨-, k0, k1, k2⟩ := HK1.out
    rw [HK0.out] at k0 k1 k2
    dsimp only at e0 e1 e2 e3 e4 hr k0 k1 k2
    have HFZ : Hid (∀ o, w1.frozen? ⟨g, o, none⟩ = false) := by
      rcases HQ1.out.row.2 with ⟨h3, _⟩ | ⟨g', cap, cur, hv, hg, hh, _⟩
      · cases h3
      · injection hv with hv
        injection hv with hv
        injection hv with hv
        subst hv
        intro o; simp [World.frozen?, hh]
    clear hq hki hbf hgQ HE hi
    by_cases hst : mst = 1
    · rw [if_neg (by simpa using hst)] at hr
      subst hst
      have HR : Hid (qR 1 who K0 ls = 0) := by rw [if_neg (by simp)] at hr; exact hr
      clear hr
      have fz := HFZ.out
      have fz0 := fz (i * 5)
      have fz1 := fz (i * 5 + 1)
      have fz2 := fz (i * 5 + 2)
      have fz3 := fz (i * 5 + 3)
      have fz4 := fz (i * 5 + 4)
      clear fz
      go_wp2
      go_region
      go_wp2
      go_ret
      have h5 := HQ1.out.set i HI.out ⟨K0, 2, who⟩
      refine ⟨by rw [HR.out]; first | rfl | trivial, _, by unfold qC qS; rw [if_pos HR.out, HQF.out, Int.toNat_natCast]; rw [HK0.out] at h5 ⊢; exact h5.drew, ?_⟩
      exact (below_set5 HB1.out (by have := HGQ.out; omega) _ _ _ _ _).drew
    · have HR : Hid (qR 1 who K0 ls = 10) := by rw [if_pos (by simpa using hst)] at hr; exact hr
      clear hr
      go_wp2
      go_ret
      exact ⟨by rw [HR.out]; first | rfl | trivial, _, by unfold qC; rw [if_neg (by rw [HR.out]; decide)]; exact HQ1.out, HB1.out⟩
set_option maxRecDepth 20000 in
set_option maxHeartbeats 1000000 in
theorem qend_any (Q : Nat) (room who : Int) (v : Value) (ls : List En) (k : K3) (w : World) (h : QI w Q room v ls) (hn : ls.length ≤ 1000) (t : Int) :
    Calls Tryz.prog 62 #[.pointer (some ⟨Q, 0, none⟩), k.val, .int .i64 who, .int .i64 t] w fun e w' => e = .returned (.int .i64 (qR 2 who k ls)) ∧ ∃ v', QI w' Q room v' (qC 2 who k ls (qS k ⟨k, t, 0⟩ ls)) ∧ Below Q w w' := by
  have HK := Lib.hid (KB.new w k)
  have HQ := Lib.hid (h.alloc (.cells #[.int .i64 k.c, .int .i64 k.f, .int .u64 k.s] 41))
  have HQ0 : Hid (Q < w.heap.size) := h.lt
  clear h
  obtain ⟨K0, hK0⟩ : ∃ K0 : K3, K0 = k := ⟨_, rfl⟩
  obtain ⟨kc, kf, ks⟩ := k
  unfold K3.val
  dsimp only at HK HQ ⊢
  have HF := Lib.hid (find_any Q room v ls ⟨kc, kf, ks⟩ _ HQ.out hn)
  unfold K3.val at HF
  dsimp only at HF
  rw [← hK0] at HK HF ⊢
  have HK0 := Lib.hid hK0
  clear hK0
  go_enter Tryz.func62, Tryz.ntmps62
  go_wp2_with fail
  generalize w.alloc (.cells #[.int .i64 kc, .int .i64 kf, .int .u64 ks] 41) = W1 at HK HQ HF ⊢
  refine HF.out.mono ?_
  rintro _ w1 ⟨rfl, hb⟩
  have HK1 := Lib.hid (HK.out.below hb)
  have HQ1 := Lib.hid (HQ.out.below hb)
  clear HK HQ HF hb
  have HB1 : Hid (Below Q w w1) := HK1.out.bel.mono (Nat.le_of_lt HQ0.out)
  obtain ⟨A, c, rfl⟩ := HQ1.out.form
  obtain ⟨n, hnd⟩ : ∃ n, n = ls.length := ⟨_, rfl⟩
  have HN : Hid (n = ls.length) := hnd
  rw [← hnd] at hn HQ1
  clear hnd
  rcases qf_cases K0 ls with ⟨hq, hall⟩ | ⟨i, hi, hq, hki, hbf⟩
  · have HR : Hid (qR 2 who K0 ls = 8) := by show qR _ _ _ _ = _; unfold qR; rw [qE_none hall]
    rw [hq]
    clear hall hq
    go_wp2
    go_ret
    exact ⟨by rw [HR.out]; first | rfl | trivial, _, by unfold qC; rw [if_neg (by rw [HR.out]; decide)]; exact HQ1.out, HB1.out⟩
  · have HE := Lib.hid (qE_some hi hki hbf)
    have HQF := Lib.hid hq
    rw [hq]
    obtain ⟨g, c1, hv, hgQ, hgl, he⟩ := HQ1.out.rowE.at i hi
    injection hv with hv hv1 hv2
    clear hv1
    subst hv hv2
    have HGQ := Lib.hid hgQ
    have hi0 : (0 : Int) ≤ (i : Int) := by omega
    have hin : (i : Int) < (n : Int) := by have := HN.out; omega
    have HI : Hid (i < ls.length) := hi
    have hr : qR 2 who K0 ls = if (ls[i]).st ≠ 2 then 10 else if 2 = (2 : Int) ∧ (ls[i]).ow ≠ who then 9 else 0 := by
      unfold qR; rw [HE.out]; rfl
    generalize ls[i]'hi = m at he hr
    obtain ⟨⟨mc, mf, ms⟩, mst, mow⟩ := m
    obtain ⟨e0, e1, e2, e3, e4⟩ := he
    have q0 := HQ1.out.cell.1
    have q1 := HQ1.out.cell.2.2
    obtain ⟨-, k0, k1, k2⟩ := HK1.out
    rw [HK0.out] at k0 k1 k2
    dsimp only at e0 e1 e2 e3 e4 hr k0 k1 k2
    have HFZ : Hid (∀ o, w1.frozen? ⟨g, o, none⟩ = false) := by
      rcases HQ1.out.row.2 with ⟨h3, _⟩ | ⟨g', cap, cur, hv, hg, hh, _⟩
      · cases h3
      · injection hv with hv
        injection hv with hv
        injection hv with hv
        subst hv
        intro o; simp [World.frozen?, hh]
    clear hq hki hbf hgQ HE hi
    by_cases hst : mst = 2
    · rw [if_neg (by simpa using hst)] at hr
      subst hst
      by_cases how : mow = who
      · have HR : Hid (qR 2 who K0 ls = 0) := by rw [if_neg (by simp [how])] at hr; exact hr
        subst how
        clear hr
        have fz := HFZ.out
        have fz0 := fz (i * 5)
        have fz1 := fz (i * 5 + 1)
        have fz2 := fz (i * 5 + 2)
        have fz3 := fz (i * 5 + 3)
        have fz4 := fz (i * 5 + 4)
        clear fz
        go_wp2
        go_region
        go_wp2
        go_ret
        have h5 := HQ1.out.set i HI.out ⟨K0, t, 0⟩
        refine ⟨by rw [HR.out]; first | rfl | trivial, _, by unfold qC qS; rw [if_pos HR.out, HQF.out, Int.toNat_natCast]; rw [HK0.out] at h5 ⊢; exact h5.drew, ?_⟩
        exact (below_set5 HB1.out (by have := HGQ.out; omega) _ _ _ _ _).drew
      · have HR : Hid (qR 2 who K0 ls = 9) := by rw [if_pos (by simp [how])] at hr; exact hr
        clear hr
        go_wp2
        go_ret
        exact ⟨by rw [HR.out]; first | rfl | trivial, _, by unfold qC; rw [if_neg (by rw [HR.out]; decide)]; exact HQ1.out, HB1.out⟩
    · have HR : Hid (qR 2 who K0 ls = 10) := by rw [if_pos (by simpa using hst)] at hr; exact hr
      clear hr
      go_wp2
      go_ret
      exact ⟨by rw [HR.out]; first | rfl | trivial, _, by unfold qC; rw [if_neg (by rw [HR.out]; decide)]; exact HQ1.out, HB1.out⟩
end Go.Proofs.YtlpnecmcncekcaaGreat.Mk
/- The page's shard: Expire. -/
namespace Go.Proofs.YtlpnecmcncekcaaGreat.Mk
open Go Go.RowKit Go.MuLone

theorem own_base {V : World} {b b' n : Nat} {v : Value} {xs : List Value} (h : V.ownsRow b TEn 5 v n xs) (hb : b' ≤ b) : V.ownsRow b' TEn 5 v n xs := by
  refine ⟨h.1, ?_⟩
  rcases h.2 with h2 | ⟨g, cap, cur, hv, hg, r⟩
  · exact Or.inl h2
  · exact Or.inr ⟨g, cap, cur, hv, Nat.le_trans hb hg, r⟩
/-- another row -/
theorem QI.swap {V : World} {Q b : Nat} {room : Int} {v v' : Value} {ls ls' : List En} (h : QI V Q room v ls) (hr : V.ownsRow b TEn 5 v' ls'.length (ecs ls')) (hb : Q + 1 ≤ b) : QI (V.setCell ⟨Q, 0, none⟩ v') Q room v' ls' :=
  ⟨(setCell_at v' h.box).trans rfl, own_keep5 (own_base hr hb) fun k h1 _ => Below.heap_setCell _ _ _ _ (show k ≠ Q by omega)⟩
set_option maxRecDepth 20000 in
set_option maxHeartbeats 1000000 in
theorem qexpire_any (Q : Nat) (room : Int) (v : Value) (ls : List En) (k : K3) (w : World) (h : QI w Q room v ls) (hn : ls.length ≤ 1000) :
    Calls Tryz.prog 63 #[.pointer (some ⟨Q, 0, none⟩), k.val] w fun e w' => e = .returned (.int .i64 (qR 3 0 k ls)) ∧ ∃ v', QI w' Q room v' (qC 3 0 k ls (ls.eraseIdx (qf k ls).toNat)) ∧ Below Q w w' := by
  have HK := Lib.hid (KB.new w k)
  have HQ := Lib.hid (h.alloc (.cells #[.int .i64 k.c, .int .i64 k.f, .int .u64 k.s] 41))
  have HQ0 : Hid (Q < w.heap.size) := h.lt
  clear h
  obtain ⟨K0, hK0⟩ : ∃ K0 : K3, K0 = k := ⟨_, rfl⟩
  obtain ⟨kc, kf, ks⟩ := k
  unfold K3.val
  dsimp only at HK HQ ⊢
  have HF := Lib.hid (find_any Q room v ls ⟨kc, kf, ks⟩ _ HQ.out hn)
  unfold K3.val at HF
  dsimp only at HF
  rw [← hK0] at HK HF ⊢
  have HK0 := Lib.hid hK0
  clear hK0
  go_enter Tryz.func63, Tryz.ntmps63
  go_wp2_with fail
  generalize w.alloc (.cells #[.int .i64 kc, .int .i64 kf, .int .u64 ks] 41) = W1 at HK HQ HF ⊢
  refine HF.out.mono ?_
  rintro _ w1 ⟨rfl, hb⟩
  have HK1 := Lib.hid (HK.out.below hb)
  have HQ1 := Lib.hid (HQ.out.below hb)
  clear HK HQ HF hb
  have HB1 : Hid (Below Q w w1) := HK1.out.bel.mono (Nat.le_of_lt HQ0.out)
  obtain ⟨A, c, rfl⟩ := HQ1.out.form
  obtain ⟨n, hnd⟩ : ∃ n, n = ls.length := ⟨_, rfl⟩
  have HN : Hid (n = ls.length) := hnd
  rw [← hnd] at hn HQ1
  clear hnd
  rcases qf_cases K0 ls with ⟨hq, hall⟩ | ⟨i, hi, hq, hki, hbf⟩
  · have HR : Hid (qR 3 0 K0 ls = 8) := by show qR _ _ _ _ = _; unfold qR; rw [qE_none hall]
    rw [hq]
    clear hall hq
    go_wp2
    go_ret
    exact ⟨by rw [HR.out]; first | rfl | trivial, _, by unfold qC; rw [if_neg (by rw [HR.out]; decide)]; exact HQ1.out, HB1.out⟩
  · have HE := Lib.hid (qE_some hi hki hbf)
    have HQF := Lib.hid hq
    rw [hq]
    obtain ⟨g, c1, hv, hgQ, hgl, he⟩ := HQ1.out.rowE.at i hi
    injection hv with hv hv1 hv2
    clear hv1
    subst hv hv2
    have HGQ := Lib.hid hgQ
    have hi0 : (0 : Int) ≤ (i : Int) := by omega
    have hin : (i : Int) < (n : Int) := by have := HN.out; omega
    have HI : Hid (i < ls.length) := hi
    have hr : qR 3 0 K0 ls = if (ls[i]).st ≠ 3 then 10 else if 3 = (2 : Int) ∧ (ls[i]).ow ≠ 0 then 9 else 0 := by
      unfold qR; rw [HE.out]; rfl
    generalize ls[i]'hi = m at he hr
    obtain ⟨⟨mc, mf, ms⟩, mst, mow⟩ := m
    obtain ⟨e0, e1, e2, e3, e4⟩ := he
    have q0 := HQ1.out.cell.1
    have q1 := HQ1.out.cell.2.2
    obtain ⟨-, k0, k1, k2⟩ := HK1.out
    rw [HK0.out] at k0 k1 k2
    dsimp only at e0 e1 e2 e3 e4 hr k0 k1 k2
    have HFZ : Hid (∀ o, w1.frozen? ⟨g, o, none⟩ = false) := by
      rcases HQ1.out.row.2 with ⟨h3, _⟩ | ⟨g', cap, cur, hv, hg, hh, _⟩
      · cases h3
      · injection hv with hv
        injection hv with hv
        injection hv with hv
        subst hv
        intro o; simp [World.frozen?, hh]
    clear hq hki hbf hgQ HE hi
    by_cases hst : mst = 3
    · rw [if_neg (by simpa using hst)] at hr
      subst hst
      have HR : Hid (qR 3 0 K0 ls = 0) := by rw [if_neg (by simp)] at hr; exact hr
      clear hr
      obtain ⟨i0, hi', hz0, hz1, hz2⟩ := info_partsE infoEn
      go_upto_region 8 with fail
      clear e0 e1 e2 e3 e4 q0 q1 k0 k1 k2
      have HI0 := Lib.hid hin
      go_loopw [6, 7] (fun o jv wr => ∃ (j : Nat) (acc : List En) (v6 : Value), o = v6 ∧ jv = .int .i64 (j : Int) ∧ j ≤ n ∧ Hid (acc = (ls.take j).eraseIdx i) ∧ wr.ownsRow w1.heap.size TEn 5 v6 acc.length (ecs acc) ∧ Below w1.heap.size w1 wr) (fun _ jv _ => n - (intOf jv).toNat)
      case atStart => exact ⟨0, [], _, rfl, rfl, Nat.zero_le _, by show ([] : List En) = _; simp, World.ownsRow_nil _ _ _ _, Below.refl _ _⟩
      case round =>
        obtain ⟨j, acc, v6, hv6, rfl, hj, hacc, how, hbl⟩ := hrel
        have HOW := Lib.hid how
        have HBL := Lib.hid hbl
        obtain ⟨A', n', c', hv7⟩ : ∃ A n c, v6 = .slice A n c := by
          rcases how.2 with ⟨h1, _⟩ | ⟨g, cap, cur, h1, _⟩
          · exact ⟨_, _, _, h1⟩
          · exact ⟨_, _, _, h1⟩
        subst hv7
        subst hv6
        have q0 := (HQ1.out.below hbl).cell.1
        have hj0 : (0 : Int) ≤ (j : Int) := by omega
        clear how hbl
        by_cases hlt : j < n
        · have hj1 : (j : Int) < (n : Int) := by omega
          have hacl : Hid (acc.length ≤ 1000) := by
            show _ ≤ _
            rw [hacc.out]
            refine Nat.le_trans (List.length_eraseIdx_le _ _) ?_
            rw [List.length_take]; omega
          by_cases hji : j = i
          · have HST : Hid (acc = (ls.take (j + 1)).eraseIdx i) := by
              show _ = _
              rw [hacc.out, List.take_succ_eq_append_getElem (by have := HN.out; omega), List.eraseIdx_append_of_length_le (by rw [List.length_take]; omega), List.eraseIdx_of_length_le (by rw [List.length_take]; omega)]
              rw [show i - (ls.take j).length = 0 by rw [List.length_take]; have := HN.out; omega]
              simp
            subst hji
            go_wp2
            go_roundw
            case rel => exact ⟨j + 1, acc, _, rfl, by go_num, by omega, HST, HOW.out, HBL.out⟩
            case measure => simp [intOf]; omega
          · have hje : ¬ ((j : Int) = (i : Int)) := by omega
            obtain ⟨g', c2, hv, _, _, he⟩ := (HQ1.out.below HBL.out).rowE.at j (by have := HN.out; omega)
            injection hv with hv hv1 hv2
            injection hv with hv
            injection hv with hv
            clear hv1
            subst hv hv2
            have HST : Hid (acc ++ [ls[j]'(by have := HN.out; omega)] = (ls.take (j + 1)).eraseIdx i) := by
              show _ = _
              rw [hacc.out, List.take_succ_eq_append_getElem (by have := HN.out; omega)]
              rcases Nat.lt_or_ge j i with h | h
              · rw [List.eraseIdx_of_length_le (by rw [List.length_take]; omega), List.eraseIdx_of_length_le (by rw [List.length_append, List.length_take, List.length_singleton]; omega)]
              · rw [List.eraseIdx_append_of_lt_length (by rw [List.length_take]; have := HN.out; omega)]
            generalize ls[j]'(by have := HN.out; omega) = m at he HST
            have HN2 := Lib.hid (cells5_new wr m (.cells m.cells TEn) rfl)
            have HA := Lib.hid (HOW.out.alloc (.cells m.cells TEn))
            have HBA := Lib.hid (HBL.out.alloc HBL.out.size (.cells m.cells TEn))
            have HSZ : Hid (w1.heap.size ≤ (wr.alloc (.cells m.cells TEn)).heap.size) := HBA.out.size
            obtain ⟨⟨mc', mf', ms'⟩, mst', mow'⟩ := m
            unfold En.cells at HN2 HA HBA HSZ
            obtain ⟨e0, e1, e2, e3, e4⟩ := he
            dsimp only at e0 e1 e2 e3 e4 HN2 HA HBA HSZ
            go_wp2_with (at_builtin; refine wpList_append_lies _ rfl _ _ 35 rfl w1.heap.size TEn i0 en0.val 5 40 Tryz.underlying35 hi' hz0 hz1 hz2 rfl (by decide) _ _ _ rfl HA.out ⟨wr.heap.size, 0, none⟩ 1 1 (encE ⟨⟨mc', mf', ms'⟩, mst', mow'⟩) rfl rfl HN2.out (encE_one _) (by decide) (by have := hacl.out; unfold maxLen; omega) (by have := hacl.out; omega) HSZ.out _ rfl ?_)
            intro g1 cap1 w6 hown hg6 _ _
            have hb6 : Below w1.heap.size w1 w6 := HBA.out.grown hg6 HSZ.out fun k hk => (HOW.out.lt k hk).1
            have H6 := Lib.hid (And.intro hown hb6)
            clear hown hg6 hb6
            go_wp2
            go_roundw
            case rel =>
              refine ⟨j + 1, _, _, rfl, by go_num, by omega, HST, ?_, H6.out.2⟩
              have h6 := H6.out.1
              have e1 : ∀ m, ecs (acc ++ [m]) = ecs acc ++ encE m := fun m => by simp [ecs]
              rw [e1, List.length_append, List.length_singleton]
              exact h6
            case measure => simp [intOf]; omega
        · obtain rfl : j = n := by omega
          have q2 := (HQ1.out.below HBL.out).cell.2.2
          have HE : Hid (acc = ls.eraseIdx i) := by
            show _ = _
            rw [hacc.out, HN.out, List.take_length]
          have hs := (HQ1.out.below HBL.out).swap HOW.out (by have := HQ1.out.lt; omega)
          have HS := Lib.hid (And.intro hs (HB1.out.trans (HBL.out.mono (Nat.le_of_lt HQ1.out.lt))))
          clear hs
          go_wp2
          go_ret
          refine ⟨by rw [HR.out]; first | rfl | trivial, _, by unfold qC; rw [if_pos HR.out, HQF.out, Int.toNat_natCast, ← HE.out]; exact HS.out.1, HS.out.2.setCell (Nat.le_refl _) _⟩
    · have HR : Hid (qR 3 0 K0 ls = 10) := by rw [if_pos (by simpa using hst)] at hr; exact hr
      clear hr
      go_wp2
      go_ret
      exact ⟨by rw [HR.out]; first | rfl | trivial, _, by unfold qC; rw [if_neg (by rw [HR.out]; decide)]; exact HQ1.out, HB1.out⟩
end Go.Proofs.YtlpnecmcncekcaaGreat.Mk
