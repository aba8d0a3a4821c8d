/- picks.Orders, picks.Order: how many orders there are, and which one has which number. -/
import Derived.Test.YtnopmeadliaiiaaRows2
namespace Go.Proofs.Ytnopmeadliaiiaa.Picks
open Go.RowKit

def fact : Nat → Nat | 0 => 1 | n + 1 => fact n * (n + 1)
theorem fact_pos (n : Nat) : 0 < fact n := by induction n with | zero => decide | succ n ih => exact Nat.mul_pos ih (by omega)
theorem fact_le {n : Nat} (h : n ≤ 12) : fact n ≤ 479001600 := by
  have : n = 0 ∨ n = 1 ∨ n = 2 ∨ n = 3 ∨ n = 4 ∨ n = 5 ∨ n = 6 ∨ n = 7 ∨ n = 8 ∨ n = 9 ∨ n = 10 ∨ n = 11 ∨ n = 12 := by omega
  rcases this with h | h | h | h | h | h | h | h | h | h | h | h | h <;> subst h <;> decide

set_option maxHeartbeats 400000 in
theorem orders_any (n : Nat) (hn : n ≤ 12) (w : World) :
    Calls Try.prog 13 #[.int .i64 (n : Int)] w fun e w' => e = .returned (.int .u64 (fact n : Int)) ∧ w' = w := by
  go_enter Try.func13, Try.ntmps13
  go_wp2
  go_loop [3, 12] (fun o i => ∃ k : Nat, k ≤ n ∧ i = .int .i64 (k : Int) ∧ o = .int .u64 (fact k : Int)) (fun _ i => n - (intOf i).toNat)
  case atStart => exact ⟨0, Nat.zero_le _, rfl, rfl⟩
  case round =>
    obtain ⟨k, hk, rfl, rfl⟩ := hrel
    by_cases hlt : k < n
    · have h1 := fact_le (show k + 1 ≤ 12 by omega)
      have e : IntKind.u64.wrap ((fact k : Int) * ((k : Int) + 1)) = (fact (k + 1) : Int) := by
        have e1 : (fact k : Int) * ((k : Int) + 1) = (fact (k + 1) : Int) := by rw [fact]; push_cast; rfl
        rw [e1, IntWalk.u64_in _ ⟨by omega, by omega⟩]
      have HE := Lib.hid e
      clear e h1
      go_wp2
      exact ⟨⟨k + 1, by omega, by go_num, by rw [HE.out]⟩, by simp [intOf]; omega⟩
    · obtain rfl : k = n := by omega
      go_wp2
      go_ret
      exact ⟨rfl, rfl⟩


theorem own_row3 {w : World} {base e u : Nat} {a b c : Value} (h : w.ownsRow base e 1 (.slice (some ⟨u, 0, none⟩) 3 3) 3 [a, b, c]) : w.heap[u]? = some (.cells #[a, b, c] e (0, 0)) := by
  rcases h.2 with ⟨_, h0⟩ | ⟨g, cap', cur, hs, hg, hh, hc, hcm, hsz, htk⟩
  · omega
  · injection hs with hA _ hcc
    injection hA with hA
    injection hA with hA
    subst hA hcc
    rw [hh]
    have h3 : cur.toList = [a, b, c] := by rw [← htk, List.take_of_length_le (by simp; omega)]
    rw [← h3]
theorem row_setCells {w : World} {u e : Nat} {cs : Array Value} (h : w.heap[u]? = some (.cells cs e (0, 0))) (vs : List Value) (hl : vs.length = cs.size) : (w.setCells u 0 vs).heap[u]? = some (.cells vs.toArray e (0, 0)) := by
  obtain ⟨cur', h1, h2, h3⟩ := heap_setCells u vs 0 w cs h (by omega)
  rw [h1]
  have : cur'.toList = vs := by rw [h3]; simp [hl]
  rw [← this]
theorem own_setlow {w : World} {base e n k : Nat} {v : Value} {xs vs : List Value} (h : w.ownsRow base e 1 v n xs) (hk : k < base) : (w.setCells k 0 vs).ownsRow base e 1 v n xs := by
  refine ⟨h.1, ?_⟩
  rcases h.2 with h2 | ⟨g, cap, cur, hv, hg, hh, r⟩
  · exact Or.inl h2
  · exact Or.inr ⟨g, cap, cur, hv, hg, (heap_setCells_far k vs 0 w g (by omega)).trans hh, r⟩
theorem own_keeps {w w1 : World} {base e n k : Nat} {v : Value} {xs : List Value} {o : Obj} (h : w.ownsRow base e 1 v n xs) (hk : k < base) (hb : w.heap[k]? = some o) (hg : w.grownBy w1 v.ownBlock) : w1.heap[k]? = some o :=
  (hg.block k (lt_blk hb) fun e => by have := own_ge h k e.symm; omega).trans hb
theorem frozen_blk {w : World} {u e : Nat} {cs : Array Value} (h : w.heap[u]? = some (.cells cs e (0, 0))) (j : Nat) : w.frozen? ⟨u, j, none⟩ = false := by simp [World.frozen?, h]

theorem own_low {w : World} {base base' e n : Nat} {v : Value} {xs : List Value} (h : w.ownsRow base e 1 v n xs) (hb : base' ≤ base) : w.ownsRow base' e 1 v n xs := by
  refine ⟨h.1, ?_⟩
  rcases h.2 with h2 | ⟨g, cap, cur, hv, hg, hh, r⟩
  · exact Or.inl h2
  · exact Or.inr ⟨g, cap, cur, hv, by omega, hh, r⟩

/-- Delete at a place of three cells. -/
theorem del3 {w : World} {u : Nat} (a b c : Int) (h : w.heap[u]? = some (.cells #[.int .i64 a, .int .i64 b, .int .i64 c] 3 (0, 0))) (n i : Nat) (hn : n ≤ 3) (hi : i < n) (zs : List Int)
    (hzs : (([a, b, c] : List Int).take n).take i ++ (([a, b, c] : List Int).take n).drop (i + 1) ++ [0] = zs) :
    Calls Try.prog 24 #[.slice (some ⟨u, 0, none⟩) n 3, .int .i64 (i : Int), .int .i64 ((i + 1 : Nat) : Int)] w fun e w' => e = .returned (.slice (some ⟨u, 0, none⟩) (n - 1) 3) ∧ ∃ q, w' = (w.drewN q).setCells u 0 (ints zs) := by
  have hd := Any.slices_Delete_int_cells laysDelete u 0 n 3 i (i + 1) [a, b, c] w hn hn (by decide) (by omega) (by omega) (fun j hj => by
    have hj : j < 3 := hj
    rw [Nat.zero_add, cell_of_row w u j _ _ (0, 0) h]
    match j, hj with
    | 0, _ => rfl
    | 1, _ => rfl
    | 2, _ => rfl) (fun j _ => frozen_blk h _)
  rw [show i + 1 - i = 1 from by omega] at hd
  subst hzs
  exact hd
/-- A row behind stores into its first cells, the rest as they were. -/
theorem row_stores {w : World} {u e : Nat} {cs ds : Array Value} (h : w.heap[u]? = some (.cells cs e (0, 0))) (vs : List Value) (hl : vs.length ≤ cs.size) (hd : vs ++ cs.toList.drop vs.length = ds.toList) : (w.setCells u 0 vs).heap[u]? = some (.cells ds e (0, 0)) := by
  obtain ⟨cur', h1, h2, h3⟩ := heap_setCells u vs 0 w cs h (by omega)
  rw [h1]
  have : cur'.toList = ds.toList := by rw [h3, ← hd]; simp
  rw [Array.toList_inj.1 this]

set_option maxRecDepth 20000 in
set_option maxHeartbeats 1000000 in
theorem order33 (w : World) :
    Calls Try.prog 12 #[.int .i64 3, .int .u64 3] w fun e w' => ∃ A c, e = .returned (.slice A 3 c) ∧ w'.ownsRow w.heap.size 3 1 (.slice A 3 c) 3 (ints [1, 2, 0]) ∧ Below w.heap.size w w' := by
  obtain ⟨i0, hi, hz0, hz1, hz2⟩ := info_parts infoI
  have o3 : ∀ w, Calls Try.prog 13 #[.int .i64 3] w fun e w' => e = .returned (.int .u64 6) ∧ w' = w := orders_any 3 (by decide)
  have o2 : ∀ w, Calls Try.prog 13 #[.int .i64 2] w fun e w' => e = .returned (.int .u64 2) ∧ w' = w := orders_any 2 (by decide)
  have o1 : ∀ w, Calls Try.prog 13 #[.int .i64 1] w fun e w' => e = .returned (.int .u64 1) ∧ w' = w := orders_any 1 (by decide)
  have o0 : ∀ w, Calls Try.prog 13 #[.int .i64 0] w fun e w' => e = .returned (.int .u64 1) ∧ w' = w := orders_any 0 (by decide)
  have O3 := Lib.hid o3
  have O2 := Lib.hid o2
  have O1 := Lib.hid o1
  have O0 := Lib.hid o0
  clear o3 o2 o1 o0
  go_enter Try.func12, Try.ntmps12
  go_wp2_with fail
  refine (O3.out _).mono ?_
  rintro e w1 ⟨rfl, rfl⟩
  go_wp2_with (at_make; refine wpList_make_full _ rfl _ _ 22 rfl w1.heap.size 3 i0 (.int .i64 0) 1 Try.underlying22 hi hz0 hz1 .i64 .i64 3 3 3 rfl rfl rfl rfl (by rw [hz2]; decide) (by decide) (Nat.le_refl _) ?_; intro w2 hown2 hg2)
  have em : (madeCells (Value.int .i64 0).cells (3 * 1)).toList = [.int .i64 0, .int .i64 0, .int .i64 0] := by simp [madeCells, Value.cells, List.range_succ]
  rw [em] at hown2
  have hr2 : w2.heap[w1.heap.size]? = some (.cells #[.int .i64 0, .int .i64 0, .int .i64 0] 3 (0, 0)) := own_row3 hown2
  have hB2 : Below w1.heap.size w1 w2 := (Below.refl _ _).grown hg2 (Nat.le_refl _) (by intro k hk; cases hk)
  have hz2 := hg2.size
  have c0 : w2.cell? ⟨w1.heap.size, 0, none⟩ = some (.int .i64 0) := cell_of_row _ _ 0 _ _ (0, 0) hr2
  have c1 : w2.cell? ⟨w1.heap.size, 1, none⟩ = some (.int .i64 0) := cell_of_row _ _ 1 _ _ (0, 0) hr2
  have c2 : w2.cell? ⟨w1.heap.size, 2, none⟩ = some (.int .i64 0) := cell_of_row _ _ 2 _ _ (0, 0) hr2
  have f0 := frozen_blk hr2 0
  have f1 := frozen_blk hr2 1
  have f2 := frozen_blk hr2 2
  go_wp2
  refine wp_loop_rounds 4 ?_
  rw [rounds_succ]
  go_wp2
  rw [rounds_succ]
  go_wp2
  rw [rounds_succ]
  go_wp2
  have hr3 : (((w2.setCell ⟨w1.heap.size, 0, none⟩ (.int .i64 0)).setCell ⟨w1.heap.size, 1, none⟩ (.int .i64 1)).setCell ⟨w1.heap.size, 2, none⟩ (.int .i64 2)).heap[w1.heap.size]? = some (.cells #[.int .i64 0, .int .i64 1, .int .i64 2] 3 (0, 0)) := row_setCells hr2 [.int .i64 0, .int .i64 1, .int .i64 2] rfl
  have hB3 : Below w1.heap.size w1 (((w2.setCell ⟨w1.heap.size, 0, none⟩ (.int .i64 0)).setCell ⟨w1.heap.size, 1, none⟩ (.int .i64 1)).setCell ⟨w1.heap.size, 2, none⟩ (.int .i64 2)) := stores_below (Nat.le_refl _) [.int .i64 0, .int .i64 1, .int .i64 2] 0 _ hB2
  clear c0 c1 c2 f0 f1 f2 hr2 hown2 hg2 hB2 hz2
  generalize ((w2.setCell ⟨w1.heap.size, 0, none⟩ (.int .i64 0)).setCell ⟨w1.heap.size, 1, none⟩ (.int .i64 1)).setCell ⟨w1.heap.size, 2, none⟩ (.int .i64 2) = w3 at *
  have hs3 := lt_blk hr3
  have H3 := Lib.hid (And.intro hr3 hB3)
  have c1 : w3.cell? ⟨w1.heap.size, 1, none⟩ = some (.int .i64 1) := cell_of_row _ _ 1 _ _ (0, 0) hr3
  clear hr3 hB3
  rw [rounds_succ]
  go_wp2
  refine wp_loop_rounds 4 ?_
  rw [rounds_succ]
  go_wp2_with fail
  refine (O2.out _).mono ?_
  rintro e w4 ⟨rfl, rfl⟩
  go_wp2_with (at_builtin; refine wpList_append_own _ rfl _ _ 22 rfl (w1.heap.size + 1) 3 i0 (.int .i64 0) 1 8 Try.underlying22 hi hz0 hz1 (by assumption) rfl (by decide) _ _ _ rfl (World.ownsRow_nil _ _ _ _) ⟨w4.heap.size, 0, none⟩ 1 1 [.int .i64 1] rfl rfl (cell_one_new _ _ _) (one_one rfl) (by decide) (by decide) (by simp; omega) ?_; intro v5 w5 hown5 hg5 _)
  obtain ⟨A5, k5, rfl⟩ := own_form hown5
  have hr5 := own_keeps (World.ownsRow_nil (w4.alloc (.cells #[.int .i64 1] 3)) _ 3 1) (Nat.lt_succ_self _) ((Below.heap_alloc _ _ _ hs3).trans H3.out.1) hg5
  have hB5 := below_push H3.out.2 (Nat.le_of_lt hs3) (World.ownsRow_nil w4 _ 3 1) hg5
  clear c1 H3 hg5
  refine (del3 0 1 2 hr5 3 1 (by decide) (by decide) [0, 2, 0] rfl).mono ?_
  rintro e w6 ⟨rfl, q6, rfl⟩
  have hr6 : ((w5.drewN q6).setCells w1.heap.size 0 (ints [0, 2, 0])).heap[w1.heap.size]? = some (.cells #[.int .i64 0, .int .i64 2, .int .i64 0] 3 (0, 0)) := row_stores (w := w5.drewN q6) hr5 _ (by decide) rfl
  have hown6 := own_setlow (vs := ints [0, 2, 0]) (own_drewN hown5 q6) (Nat.lt_succ_self _)
  have hB6 := stores_below (Nat.le_refl _) (ints [0, 2, 0]) 0 _ (below_drewN hB5 q6)
  clear hr5 hB5 hown5
  generalize (w5.drewN q6).setCells w1.heap.size 0 (ints [0, 2, 0]) = w7 at *
  have hs7 := lt_blk hr6
  have c1 : w7.cell? ⟨w1.heap.size, 1, none⟩ = some (.int .i64 2) := cell_of_row _ _ 1 _ _ (0, 0) hr6
  have H7 := Lib.hid (And.intro hr6 hB6)
  clear hr6 hB6
  go_wp2
  rw [rounds_succ]
  go_wp2_with fail
  refine (O1.out _).mono ?_
  rintro e w8 ⟨rfl, rfl⟩
  go_wp2_with (at_builtin; refine wpList_append_own _ rfl _ _ 22 rfl (w1.heap.size + 1) 3 i0 (.int .i64 0) 1 8 Try.underlying22 hi hz0 hz1 (by assumption) rfl (by decide) _ _ _ rfl (hown6.alloc _) ⟨w8.heap.size, 0, none⟩ 1 1 [.int .i64 2] rfl rfl (cell_one_new _ _ _) (one_one rfl) (by decide) (by decide) (by simp; omega) ?_; intro v9 w9 hown9 hg9 _)
  obtain ⟨A9, k9, rfl⟩ := own_form hown9
  have hr9 := own_keeps (hown6.alloc (.cells #[.int .i64 2] 3)) (Nat.lt_succ_self _) ((Below.heap_alloc _ _ _ hs7).trans H7.out.1) hg9
  have hB9 := below_push H7.out.2 (Nat.le_of_lt hs7) (own_low hown6 (Nat.le_succ _)) hg9
  clear c1 H7 hg9 hown6
  refine (del3 0 2 0 hr9 2 1 (by decide) (by decide) [0, 0] rfl).mono ?_
  rintro e w10 ⟨rfl, q10, rfl⟩
  have hr10 : ((w9.drewN q10).setCells w1.heap.size 0 (ints [0, 0])).heap[w1.heap.size]? = some (.cells #[.int .i64 0, .int .i64 0, .int .i64 0] 3 (0, 0)) := row_stores (w := w9.drewN q10) hr9 _ (by decide) rfl
  have hown10 := own_setlow (vs := ints [0, 0]) (own_drewN hown9 q10) (Nat.lt_succ_self _)
  have hB10 := stores_below (Nat.le_refl _) (ints [0, 0]) 0 _ (below_drewN hB9 q10)
  clear hr9 hB9 hown9
  generalize (w9.drewN q10).setCells w1.heap.size 0 (ints [0, 0]) = w11 at *
  have hs11 := lt_blk hr10
  have c0 : w11.cell? ⟨w1.heap.size, 0, none⟩ = some (.int .i64 0) := cell_of_row _ _ 0 _ _ (0, 0) hr10
  have H11 := Lib.hid (And.intro hr10 hB10)
  clear hr10 hB10
  go_wp2
  rw [rounds_succ]
  go_wp2_with fail
  refine (O0.out _).mono ?_
  rintro e w12 ⟨rfl, rfl⟩
  go_wp2_with (at_builtin; refine wpList_append_own _ rfl _ _ 22 rfl (w1.heap.size + 1) 3 i0 (.int .i64 0) 1 8 Try.underlying22 hi hz0 hz1 (by assumption) rfl (by decide) _ _ _ rfl (hown10.alloc _) ⟨w12.heap.size, 0, none⟩ 1 1 [.int .i64 0] rfl rfl (cell_one_new _ _ _) (one_one rfl) (by decide) (by decide) (by simp; omega) ?_; intro v13 w13 hown13 hg13 _)
  obtain ⟨A13, k13, rfl⟩ := own_form hown13
  have hr13 := own_keeps (hown10.alloc (.cells #[.int .i64 0] 3)) (Nat.lt_succ_self _) ((Below.heap_alloc _ _ _ hs11).trans H11.out.1) hg13
  have hB13 := below_push H11.out.2 (Nat.le_of_lt hs11) (own_low hown10 (Nat.le_succ _)) hg13
  clear c0 H11 hg13 hown10
  refine (del3 0 0 0 hr13 1 0 (by decide) (by decide) [0] rfl).mono ?_
  rintro e w14 ⟨rfl, q14, rfl⟩
  have hown14 := own_setlow (vs := ints [0]) (own_drewN hown13 q14) (Nat.lt_succ_self _)
  have hB14 := stores_below (Nat.le_refl _) (ints [0]) 0 _ (below_drewN hB13 q14)
  clear hr13 hB13 hown13
  generalize (w13.drewN q14).setCells w1.heap.size 0 (ints [0]) = w15 at *
  go_wp2
  rw [rounds_succ]
  go_wp2
  go_ret
  exact ⟨A13, k13, rfl, own_low hown14 (Nat.le_succ _), hB14⟩
end Go.Proofs.Ytnopmeadliaiiaa.Picks
