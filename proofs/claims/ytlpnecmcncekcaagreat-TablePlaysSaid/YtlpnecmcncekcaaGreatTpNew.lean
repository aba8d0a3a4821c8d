import Derived.Test.YtlpnecmcncekcaaGreatMa
import Derived.Test.YtlpnecmcncekcaaGreatTn
import Derived.Test.YtlpnecmcncekcaaGreatHeld
import Derived.Test.YtlpnecmcncekcaaGreatHeld
/- The page's table: New. -/
namespace Go.Proofs.YtlpnecmcncekcaaGreat.Mk
open Go Go.RowKit Go.MuLone Conf
set_option linter.unusedVariables false

abbrev TQp : Nat := 85
theorem infoQp : (Tryz.prog.info? TQp).map (fun i => (i.zero, i.size, i.bytes)) = some (some (.pointer none), 1, 8) := by kernel_rfl
def tptrs (q : Nat → Nat) (n : Nat) : List Value := (List.range n).map fun i => .pointer (some ⟨q i, 0, none⟩)
theorem tptrs_at (q : Nat → Nat) (n i : Nat) (h : i < n) : (tptrs q n)[i]? = some (.pointer (some ⟨q i, 0, none⟩)) := by simp [tptrs, h]
theorem tptrs_len (q : Nat → Nat) (n : Nat) : (tptrs q n).length = n := by simp [tptrs]
def updQ (q : Nat → Nat) (j x : Nat) : Nat → Nat := fun i => if i = j then x else q i
theorem tptrs_succ (q : Nat → Nat) (n x : Nat) : tptrs (updQ q n x) (n + 1) = tptrs q n ++ [.pointer (some ⟨x, 0, none⟩)] := by
  unfold tptrs
  rw [List.range_succ, List.map_append]
  congr 1
  · refine List.map_congr_left fun i hi => ?_
    have := List.mem_range.1 hi
    unfold updQ
    rw [if_neg (by omega)]
  · simp [updQ]
theorem kpT {V V' : World} {k : Nat} {o : Obj} (b : Below V.heap.size V V') (h : V.heap[k]? = some o) : V'.heap[k]? = some o := (b.block _ (lt_blkC h)).trans h
theorem cells_neT {W : World} {i j : Nat} {a c : Array Value} {T U : TypeId} {f f' : Nat × Nat} (h1 : W.heap[i]? = some (.cells a T f)) (h2 : W.heap[j]? = some (.cells c U f')) (h3 : T ≠ U) : i ≠ j := fun e => by
  rw [e, h2] at h1
  injection h1 with h1
  injection h1 with _ h1 _
  exact h3 h1.symm
theorem own_atT {w : World} {base e n size k : Nat} {v : Value} {xs : List Value} (h : w.ownsRow base e size v n xs) (hk : v.ownBlock = some k) : ∃ cs fr, w.heap[k]? = some (.cells cs e fr) := by
  rcases h.2 with ⟨h2, -⟩ | ⟨g, cap, cur, hv, hg, hh, r⟩
  · rw [h2] at hk; cases hk
  · rw [hv] at hk
    have : g = k := by injection hk
    exact ⟨_, _, this ▸ hh⟩
theorem own_sameT {w w1 : World} {base n e size : Nat} {v : Value} {xs : List Value} (h : w.ownsRow base e size v n xs) (hb : ∀ k, v.ownBlock = some k → w1.heap[k]? = w.heap[k]?) : w1.ownsRow base e size v n xs := by
  refine ⟨h.1, ?_⟩
  rcases h.2 with h2 | ⟨g, cap, cur, hv, hg, hh, r⟩
  · exact Or.inl h2
  · exact Or.inr ⟨g, cap, cur, hv, hg, (hb g (by rw [hv]; rfl)).trans hh, r⟩
theorem news_oneT (V : World) (v : Value) (T : TypeId) (n : Nat) (hn : n = V.heap.size) : ∀ j u, [v][j]? = some u → (V.alloc (.cells #[v] T)).cell? ((⟨n, 0, none⟩ : Addr).add j) = some u := by
  intro j u h
  subst hn
  have := cell_of_row (V.alloc (.cells #[v] T)) V.heap.size j #[v] T (0, 0) (heap_alloc_new V _)
  match j with
  | 0 => exact this.trans (show some v = some u from h)
  | j + 1 => simp at h
theorem ones_pT (N : Nat) : ∀ u ∈ [Value.pointer (some ⟨N, 0, none⟩)], u.oneCell' = true := by simp [Value.oneCell']
/-- a table of the page's while it is made -/
structure TNW (w V : World) (T k : Nat) (c : Cfg) (room : Int) (sv : Value) (q : Nat → Nat) : Prop where
  cf : V.heap[w.heap.size]? = some (.cells c.cells TCf (0, 0))
  box : V.heap[T]? = some (.cells #[sv] TQT (0, 0))
  lo : w.heap.size + 1 ≤ T
  row : V.ownsRow (w.heap.size + 1) TQp 1 sv k (tptrs q k)
  it : ∀ i, i < k → V.heap[q i]? = some (.cells #[.slice none 0 0, .int .i64 room] TQ (0, 0)) ∧ w.heap.size + 1 ≤ q i
  ap : ∀ i j, i < k → j < k → i ≠ j → q i ≠ q j
  bel : Below w.heap.size w V
section
variable {w V V1 X : World} {T k N g cap : Nat} {c : Cfg} {room : Int} {sv : Value} {q : Nat → Nat}
theorem TNW.below (h : TNW w V T k c room sv q) (b : Below V.heap.size V X) : TNW w X T k c room sv q :=
  ⟨kpT b h.cf, kpT b h.box, h.lo, own_sameT h.row fun j hj => b.block j (h.row.lt j hj).2, fun i hi => ⟨kpT b (h.it i hi).1, (h.it i hi).2⟩, h.ap, h.bel.trans (b.mono h.bel.size)⟩
/-- one more shard -/
theorem TNW.push (h : TNW w V T k c room sv q) (b : Below V.heap.size V V1) (hN : V1.heap[N]? = some (.cells #[.slice none 0 0, .int .i64 room] TQ (0, 0))) (lN : V.heap.size ≤ N)
    {v' : Value} (hown : X.ownsRow (w.heap.size + 1) TQp 1 v' (k + 1) (tptrs q k ++ [.pointer (some ⟨N, 0, none⟩)])) (hg : V1.grownBy X sv.ownBlock) :
    X.heap[T]? = some (.cells #[sv] TQT (0, 0)) ∧ X.heap[w.heap.size]? = some (.cells c.cells TCf (0, 0)) ∧ TNW w (X.setCell ⟨T, 0, none⟩ v') T (k + 1) c room v' (updQ q k N) := by
  have hlo := h.lo
  have nr : ∀ {j : Nat} {a : Array Value} {U : TypeId} {f : Nat × Nat}, V.heap[j]? = some (.cells a U f) → U ≠ TQp → X.heap[j]? = V.heap[j]? := fun hk hT =>
    (hg.block _ (Nat.lt_of_lt_of_le (lt_blkC hk) b.size) fun e => by
      obtain ⟨cs, fr, p⟩ := own_atT h.row e.symm
      exact cells_neT hk p hT rfl).trans (b.block _ (lt_blkC hk))
  have hT := (nr h.box (by decide)).trans h.box
  have eN : X.heap[N]? = some (.cells #[.slice none 0 0, .int .i64 room] TQ (0, 0)) := (hg.block _ (lt_blkC hN) fun e => by have := (h.row.lt _ e.symm).2; omega).trans hN
  have hC := (nr h.cf (by decide)).trans h.cf
  have ns : ∀ {j : Nat} {a : Array Value} {U : TypeId} {f : Nat × Nat}, X.heap[j]? = some (.cells a U f) → U ≠ TQT → (X.setCell ⟨T, 0, none⟩ v').heap[j]? = X.heap[j]? := fun hk h2 =>
    Below.heap_setCell _ _ _ _ (cells_neT hk hT h2)
  refine ⟨hT, hC, (ns hC (by decide)).trans hC, (setCell_at v' hT).trans rfl, hlo, ?_, fun i hi => ?_, fun i j hi hj hne => ?_, ?_⟩
  · rw [tptrs_succ]
    refine own_sameT hown fun j hj => ?_
    obtain ⟨cs, fr, p⟩ := own_atT hown hj
    exact ns p (by decide)
  · unfold updQ
    by_cases e : i = k
    · rw [if_pos e]
      exact ⟨(ns eN (by decide)).trans eN, by have := lt_blkC h.box; omega⟩
    · rw [if_neg e]
      have h1 := h.it i (by omega)
      have e1 := (nr h1.1 (by decide)).trans h1.1
      exact ⟨(ns e1 (by decide)).trans e1, h1.2⟩
  · unfold updQ
    by_cases e : i = k
    · rw [if_pos e, if_neg (by omega)]
      have := lt_blkC (h.it j (by omega)).1
      omega
    · rw [if_neg e]
      by_cases e2 : j = k
      · rw [if_pos e2]
        have := lt_blkC (h.it i (by omega)).1
        omega
      · rw [if_neg e2]
        exact h.ap i j (by omega) (by omega) hne
  · exact ((h.bel.trans (b.mono h.bel.size)).grown hg (Nat.le_trans h.bel.size b.size) fun j hj => by have := (h.row.lt j hj).1; omega).setCell (p := ⟨T, 0, none⟩) (by show w.heap.size ≤ T; omega) _
/-- a table as it is made -/
theorem TNW.pt (h : TNW w V T k c room sv q) (h0 : 0 < k) (h8 : k ≤ 8) : ∃ g cap, PT V T g cap k (w.heap.size + 1) room q (fun _ => .slice none 0 0) (fun _ => []) := by
  rcases h.row.2 with ⟨_, h2⟩ | ⟨g, cap, cur, hv, hg, hh, hnc, hm, hs, ht⟩
  · omega
  · refine ⟨g, cap, ⟨?_, fun i hi => ?_, fun i hi => ⟨(h.it i hi).1, World.ownsRow_nil _ _ _ _⟩, fun i j hi hj hne => ⟨h.ap i j hi hj hne, fun e => (by cases e), fun k e => (by cases e)⟩, fun i hi => ⟨(cells_neT (h.it i hi).1 h.box (by decide)).symm, (cells_neT (h.it i hi).1 hh (by decide)).symm, fun e => (by cases e), fun e => (by cases e)⟩, ⟨h.lo, hg, fun i hi => (h.it i hi).2⟩, ⟨h0, h8⟩⟩⟩
    · have := h.box
      rw [hv] at this
      exact this
    · have e := tptrs_at q k i hi
      rw [← ht, List.getElem?_take] at e
      rw [cell_of_row V g i cur _ (0, 0) hh]
      split at e
      · rw [← e, Array.getElem?_toList]
      · cases e
end
set_option maxRecDepth 20000 in
set_option maxHeartbeats 4000000 in
theorem pnew_any (room : Int) (c : Cfg) (n : Nat) (hn0 : 0 < n) (hn : n ≤ 8) (h2 : c.f2 = (n : Int)) (h3 : c.f3 = room) (w : World) :
    Calls Tryz.prog 16 #[.agg c.cells] w fun e w' => ∃ T g cap q, e = .returned (.pointer (some ⟨T, 0, none⟩)) ∧ PT w' T g cap n (w.heap.size + 1) room q (fun _ => .slice none 0 0) (fun _ => []) ∧ Below w.heap.size w w' := by
  obtain ⟨i0, hi, hz0, hz1, hz2⟩ := info_partsE infoQp
  have h0 := heap_alloc_new w (.cells c.cells TCf)
  obtain ⟨w0, hw0⟩ : ∃ X, X = w.alloc (.cells c.cells TCf) := ⟨_, rfl⟩
  have hb0 : Below w.heap.size w w0 := by rw [hw0]; exact (Below.refl _ _).alloc (Nat.le_refl _) _
  have hz : w0.heap.size = w.heap.size + 1 := by rw [hw0]; simp
  rw [← hw0] at h0
  obtain ⟨T, hT⟩ : ∃ T, T = w0.heap.size := ⟨_, rfl⟩
  have ha := heap_alloc_new w0 (.cells #[.slice none 0 0] TQT)
  obtain ⟨w2, hw2⟩ : ∃ X, X = w0.alloc (.cells #[.slice none 0 0] TQT) := ⟨_, rfl⟩
  have hb2 : Below w0.heap.size w0 w2 := by rw [hw2]; exact (Below.refl _ _).alloc (Nat.le_refl _) _
  rw [← hw2, ← hT] at ha
  have HA : Hid (TNW w w2 T 0 c room (.slice none 0 0) (fun _ => 0)) := Lib.hid
    ⟨kpT hb2 h0, ha, by omega, World.ownsRow_nil _ _ _ _, fun i hi => absurd hi (by omega), fun i j hi => absurd hi (by omega), hb0.trans (hb2.mono hb0.size)⟩
  have HC := Lib.hid (And.intro h2 h3)
  have HN := Lib.hid (And.intro hn0 hn)
  clear h0 hb0 ha hb2 hz h2 h3 hn0
  have HCC : Hid (c.cells = #[.slice c.A c.n c.cap, .int .i64 c.f1, .int .i64 (n : Int), .int .i64 room, .int .i64 c.f4, .int .i64 c.f5, .int .i64 c.f6, .int .i64 c.f7, .int .i64 c.f8, .int .i64 c.f9, .int .i64 c.f10, .int .u64 c.f11]) := Lib.hid (by rw [← HC.out.1, ← HC.out.2]; rfl)
  rw [HCC.out] at hw0 ⊢
  go_enter Tryz.func16, Tryz.ntmps16
  go_upto_region 1 with fail
  rw [← hw0]
  clear hw0
  go_upto_region 2 with fail
  rw [← hw2, ← hT]
  clear hw2 hT
  go_wp2_with fail
  go_loopw [4] (fun iv wr => ∃ (k : Nat) (sv : Value) (q : Nat → Nat), iv = .int .i64 (k : Int) ∧ k ≤ n ∧ TNW w wr T k c room sv q) (fun iv _ => n - (intOf iv).toNat)
  case atStart => exact ⟨0, _, _, rfl, Nat.zero_le _, HA.out⟩
  case round =>
    clear HA
    obtain ⟨k, sv, q, rfl, hk, hN⟩ := hrel
    have p2 := cell_of_row wr w.heap.size 2 _ _ (0, 0) hN.cf
    have p3 := cell_of_row wr w.heap.size 3 _ _ (0, 0) hN.cf
    rw [HCC.out] at p2 p3
    simp only [List.getElem?_toArray, List.getElem?_cons_succ, List.getElem?_cons_zero] at p2 p3
    by_cases hkn : k < n
    · have d1 : decide ((k : Int) < (n : Int)) = true := decide_eq_true (by omega)
      obtain ⟨A, cc, rfl⟩ := own_form hN.row
      have q0 := cell_of_row wr T 0 _ _ (0, 0) hN.box
      simp only [List.getElem?_toArray, List.getElem?_cons_zero] at q0
      go_upto_region 5 with fail
      refine wp_region_last (fun W => W.cell? ⟨T, 0, none⟩ = some (.slice A k cc) ∧ W.cell? ⟨w.heap.size, 3, none⟩ = some (.int .i64 room)) 13 (by kernel_rfl) ?_
      have HW : Hid (TNW w wr.drew T k c room (.slice A k cc) q) := Lib.hid (hN.below (Below.refl _ _).drew)
      obtain ⟨w8, hw8⟩ : ∃ X, X = wr.drew := ⟨_, rfl⟩
      rw [← hw8] at HW ⊢
      have HS : Hid (∀ V, Below w8.heap.size w8 V → V.cell? ⟨T, 0, none⟩ = some (.slice A k cc) ∧ V.cell? ⟨w.heap.size, 3, none⟩ = some (.int .i64 room)) := Lib.hid fun V hb => by
        have h := HW.out.below hb
        have e1 := cell_of_row V T 0 _ _ (0, 0) h.box
        have e3 := cell_of_row V w.heap.size 3 _ _ (0, 0) h.cf
        rw [HCC.out] at e3
        exact ⟨e1, e3⟩
      have HKb : Hid (k < 1000) := Lib.hid (by omega)
      clear hN p2 p3 q0 hw8
      have hHeld := HS.out w8 (Below.refl _ _)
      refine wpL_take (i := 0) (oi := _) (v := ?_) [12, 11] rfl (by kernel_rfl) (by kernel_rfl) (by kernel_rfl) (by kernel_rfl) (by kernel_rfl) (fun _ _ _ h => h) (Or.inl ⟨by rfl, ?_⟩) (by assumption) ?_
      rotate_left
      · (intro W hSw; (try dsimp only at hSw); go_simp; try with_reducible rfl)
      try simp only [Act.put, List.getElem_toArray, List.getElem_cons_zero, List.setIfInBounds_toArray, List.set_cons_zero, List.set_cons_succ]
      refine wpL_take (i := 1) (oi := _) (v := ?_) [10, 4, 3, 2] rfl (by kernel_rfl) (by kernel_rfl) (by kernel_rfl) (by kernel_rfl) (by kernel_rfl) (fun _ _ _ h => h) (Or.inl ⟨by rfl, ?_⟩) (by assumption) ?_
      rotate_left
      · (intro W hSw; (try dsimp only at hSw); go_simp; try with_reducible rfl)
      try simp only [Act.put, List.getElem_toArray, List.getElem_cons_succ, List.getElem_cons_zero, List.setIfInBounds_toArray, List.set_cons_zero, List.set_cons_succ]
      refine wpL_take (i := 2) (oi := _) (v := ?_) [10, 4, 3] rfl (by kernel_rfl) (by kernel_rfl) (by kernel_rfl) (by kernel_rfl) (by kernel_rfl) (fun _ _ _ h => h) (Or.inl ⟨by rfl, ?_⟩) (by assumption) ?_
      rotate_left
      · (intro W hSw; (try dsimp only at hSw); go_simp; try with_reducible rfl)
      try simp only [Act.put, List.getElem_toArray, List.getElem_cons_succ, List.getElem_cons_zero, List.setIfInBounds_toArray, List.set_cons_zero, List.set_cons_succ]
      refine wpL_take (i := 3) (oi := _) (v := ?_) [10, 4] rfl (by kernel_rfl) (by kernel_rfl) (by kernel_rfl) (by kernel_rfl) (by kernel_rfl) (fun _ _ _ h => h) (Or.inl ⟨by rfl, ?_⟩) (by assumption) ?_
      rotate_left
      · (intro W hSw; (try dsimp only at hSw); go_simp; try with_reducible rfl)
      try simp only [Act.put, List.getElem_toArray, List.getElem_cons_succ, List.getElem_cons_zero, List.setIfInBounds_toArray, List.set_cons_zero, List.set_cons_succ]
      refine wpL_take (i := 4) (oi := _) (v := ?_) [10] rfl (by kernel_rfl) (by kernel_rfl) (by kernel_rfl) (by kernel_rfl) (by kernel_rfl) (fun _ _ _ h => h) (Or.inl ⟨by rfl, ?_⟩) (by assumption) ?_
      rotate_left
      · (intro W hSw; (try dsimp only at hSw); go_simp; try with_reducible rfl)
      try simp only [Act.put, List.getElem_toArray, List.getElem_cons_succ, List.getElem_cons_zero, List.setIfInBounds_toArray, List.set_cons_zero, List.set_cons_succ]
      refine wpL_take (i := 5) (oi := _) (v := ?_) [10, 9, 8, 7, 6] rfl (by kernel_rfl) (by kernel_rfl) (by kernel_rfl) (by kernel_rfl) (by kernel_rfl) (fun _ _ _ h => h) (Or.inl ⟨by rfl, ?_⟩) (by assumption) ?_
      rotate_left
      · (intro W hSw; (try dsimp only at hSw); go_simp; try with_reducible rfl)
      try simp only [Act.put, List.getElem_toArray, List.getElem_cons_succ, List.getElem_cons_zero, List.setIfInBounds_toArray, List.set_cons_zero, List.set_cons_succ]
      refine wpL_take (i := 6) (oi := _) (v := ?_) [10, 9, 8, 7] rfl (by kernel_rfl) (by kernel_rfl) (by kernel_rfl) (by kernel_rfl) (by kernel_rfl) (fun _ _ _ h => h) (Or.inl ⟨by rfl, ?_⟩) (by assumption) ?_
      rotate_left
      · (intro W hSw; (try dsimp only at hSw); go_simp; try with_reducible rfl)
      try simp only [Act.put, List.getElem_toArray, List.getElem_cons_succ, List.getElem_cons_zero, List.setIfInBounds_toArray, List.set_cons_zero, List.set_cons_succ]
      refine wpL_take (i := 7) (oi := _) (v := ?_) [10, 9, 8] rfl (by kernel_rfl) (by kernel_rfl) (by kernel_rfl) (by kernel_rfl) (by kernel_rfl) (fun _ _ _ h => h) (Or.inl ⟨by rfl, ?_⟩) (by assumption) ?_
      rotate_left
      · (intro W hSw; (try dsimp only at hSw); go_simp; try with_reducible rfl)
      try simp only [Act.put, List.getElem_toArray, List.getElem_cons_succ, List.getElem_cons_zero, List.setIfInBounds_toArray, List.set_cons_zero, List.set_cons_succ]
      clear hHeld
      refine wpL_ready (rs := [8]) (by kernel_rfl) (by simp) ?_
      refine AllL.cons rfl (fun K hK => ?_) AllL.nil
      simp only [List.getElem_toArray, List.getElem_cons_succ, List.getElem_cons_zero]
      rw [if_pos (by rfl)]
      go_simp
      have HB1 : Hid (Below w8.heap.size w8 (w8.alloc (.cells #[.slice none 0 0, .int .i64 room] TQ))) := Lib.hid ((Below.refl _ _).alloc (Nat.le_refl _) _)
      refine hK.out _ _ (Or.inr (HS.out _ HB1.out)) ?_
      clear hK K
      try simp only [Act.put, List.getElem_toArray, List.getElem_cons_succ, List.getElem_cons_zero, List.setIfInBounds_toArray, List.set_cons_zero, List.set_cons_succ]
      obtain ⟨N, hNd⟩ : ∃ b, b = w8.heap.size := ⟨_, rfl⟩
      have HN1 : Hid ((w8.alloc (.cells #[.slice none 0 0, .int .i64 room] TQ)).heap[N]? = some (.cells #[.slice none 0 0, .int .i64 room] TQ (0, 0))) := Lib.hid (by rw [hNd]; exact heap_alloc_new w8 _)
      have HNl : Hid (w8.heap.size ≤ N) := Lib.hid (Nat.le_of_eq hNd.symm)
      obtain ⟨X1, hX1⟩ : ∃ V, V = w8.alloc (.cells #[.slice none 0 0, .int .i64 room] TQ) := ⟨_, rfl⟩
      rw [← hX1] at HB1 HN1
      rw [← hX1, ← hNd]
      clear hX1 hNd
      refine wpL_ready (rs := [9]) (by kernel_rfl) (by simp) ?_
      refine AllL.cons rfl (fun K hK => ?_) AllL.nil
      simp only [List.getElem_toArray, List.getElem_cons_succ, List.getElem_cons_zero]
      rw [if_pos (by rfl)]
      go_simp
      have HB2 : Hid (Below w8.heap.size w8 (X1.alloc (.cells #[.pointer (some ⟨N, 0, none⟩)] TQp))) := Lib.hid (HB1.out.alloc HB1.out.size _)
      refine hK.out _ _ (Or.inr (HS.out _ HB2.out)) ?_
      clear hK K
      try simp only [Act.put, List.getElem_toArray, List.getElem_cons_succ, List.getElem_cons_zero, List.setIfInBounds_toArray, List.set_cons_zero, List.set_cons_succ]
      have HNw : Hid (∀ j u, [Value.pointer (some ⟨N, 0, none⟩)][j]? = some u → (X1.alloc (.cells #[.pointer (some ⟨N, 0, none⟩)] TQp)).cell? ((⟨X1.heap.size, 0, none⟩ : Addr).add j) = some u) := Lib.hid (news_oneT X1 _ TQp _ rfl)
      have HN2 : Hid ((X1.alloc (.cells #[.pointer (some ⟨N, 0, none⟩)] TQp)).heap[N]? = some (.cells #[.slice none 0 0, .int .i64 room] TQ (0, 0))) := Lib.hid ((Below.heap_alloc _ _ _ (lt_blkC HN1.out)).trans HN1.out)
      obtain ⟨B2, hB2⟩ : ∃ b, b = X1.heap.size := ⟨_, rfl⟩
      obtain ⟨X2, hX2⟩ : ∃ V, V = X1.alloc (.cells #[.pointer (some ⟨N, 0, none⟩)] TQp) := ⟨_, rfl⟩
      rw [← hX2] at HB2 HN2
      rw [← hX2, ← hB2] at HNw
      rw [← hX2, ← hB2]
      have HRw : Hid (X2.ownsRow (w.heap.size + 1) TQp 1 (.slice A k cc) k (tptrs q k)) := Lib.hid (own_sameT HW.out.row fun j hj => HB2.out.block j (HW.out.row.lt j hj).2)
      have HSz : Hid (w.heap.size + 1 ≤ X2.heap.size) := Lib.hid (by have := HB2.out.size; have := lt_blkC HW.out.box; have := HW.out.lo; omega)
      clear hX2 hB2 HN1 HB1
      refine wpL_ready (rs := [10]) (by kernel_rfl) (by simp) ?_
      refine AllL.cons rfl (fun K hK => ?_) AllL.nil
      simp only [List.getElem_toArray, List.getElem_cons_succ, List.getElem_cons_zero]
      rw [if_pos (by rfl)]
      refine wp_append_any _ _ _ (by rfl) (w.heap.size + 1) TQp i0 (.pointer none) 1 8 Tryz.underlying82 hi hz0 hz1 hz2 rfl (by decide) _ _ _ (by rfl) HRw.out (some ⟨B2, 0, none⟩) 1 1 [.pointer (some ⟨N, 0, none⟩)] (by rfl) rfl (fun ad ha => by injection ha with ha; subst ha; exact HNw.out) (fun h => by cases h) (ones_pT _) (by have := HKb.out; unfold maxLen; omega) (by have := HKb.out; omega) HSz.out ?_
      intro v8 X5 hown hg
      obtain ⟨hT5, hC5, hP⟩ := TNW.push HW.out HB2.out HN2.out HNl.out hown hg
      have hS5 : X5.cell? ⟨T, 0, none⟩ = some (.slice A k cc) ∧ X5.cell? ⟨w.heap.size, 3, none⟩ = some (.int .i64 room) := by
        have e1 := cell_of_row X5 T 0 _ _ (0, 0) hT5
        have e3 := cell_of_row X5 w.heap.size 3 _ _ (0, 0) hC5
        rw [HCC.out] at e3
        exact ⟨e1, e3⟩
      refine hK.out _ _ (Or.inr hS5) ?_
      clear hK K
      try simp only [Act.put, List.setIfInBounds_toArray, List.set_cons_zero, List.set_cons_succ]
      have hHeld := hS5
      refine wpL_take (i := 11) (oi := _) (v := ?_) [12] rfl (by kernel_rfl) (by kernel_rfl) (by kernel_rfl) (by kernel_rfl) (by kernel_rfl) (fun _ _ _ h => h) (Or.inl ⟨by rfl, ?_⟩) (by assumption) ?_
      rotate_left
      · (intro W hSw; (try dsimp only at hSw); go_simp; try with_reducible rfl)
      try simp only [Act.put, List.getElem_toArray, List.getElem_cons_succ, List.getElem_cons_zero, List.setIfInBounds_toArray, List.set_cons_zero, List.set_cons_succ]
      refine wpL_take (i := 12) (oi := _) (v := ?_) [] rfl (by kernel_rfl) (by kernel_rfl) (by kernel_rfl) (by kernel_rfl) (by kernel_rfl) (fun _ _ _ h => h) (Or.inl ⟨by rfl, ?_⟩) (by assumption) ?_
      rotate_left
      · (intro W hSw; (try dsimp only at hSw); go_simp; try with_reducible rfl)
      try simp only [Act.put, List.getElem_toArray, List.getElem_cons_succ, List.getElem_cons_zero, List.setIfInBounds_toArray, List.set_cons_zero, List.set_cons_succ]
      clear hHeld
      obtain ⟨A9, c9, rfl⟩ := own_form hown
      have HP := Lib.hid hP
      have qf : X5.frozen? ⟨T, 0, none⟩ = false := by simp [World.frozen?, hT5]
      have q5 := hS5.1
      clear hown hg hP hC5 hT5 hS5 HRw HNw HSz HN2 HB2
      refine wpL_ready (rs := [13]) (by kernel_rfl) (by simp) ?_
      refine AllL.cons rfl (fun K hK => ?_) AllL.nil
      simp only [List.getElem_toArray, List.getElem_cons_succ, List.getElem_cons_zero]
      rw [if_pos (by rfl)]
      go_simp
      refine hK.out _ _ (Or.inl rfl) ?_
      clear hK K q5 qf
      try simp only [Act.put, List.getElem_toArray, List.getElem_cons_succ, List.getElem_cons_zero, List.setIfInBounds_toArray, List.set_cons_zero, List.set_cons_succ]
      refine wpL_done (by kernel_rfl) ?_ _
      go_wp2
      go_roundw
      case rel => exact ⟨k + 1, _, _, by go_num, hkn, HP.out⟩
      case measure => simp [intOf]; omega
    · obtain rfl : k = n := by omega
      obtain ⟨g, cap, hpt⟩ := hN.pt HN.out.1 HN.out.2
      have HP := Lib.hid (And.intro hpt hN.bel)
      have d1 : decide ((k : Int) < (k : Int)) = false := decide_eq_false (by omega)
      clear hN hpt
      go_wp2
      go_ret
      exact ⟨T, g, cap, q, rfl, HP.out⟩
end Go.Proofs.YtlpnecmcncekcaaGreat.Mk
