/- picks.Order: the order of a number, of any number of things. -/
import Derived.Test.YtnopmeadliaiiaaPickRow
namespace Go.Proofs.Ytnopmeadliaiiaa.Picks
open Go.RowKit

set_option maxHeartbeats 1000000 in
theorem order_no (n k : Int) (h : n < 0 ∨ 12 < n) (w : World) :
    Calls Try.prog 12 #[.int .i64 n, .int .u64 k] w fun e w' => e = .returned (.slice none 0 0) ∧ w' = w := by
  by_cases h0 : n < 0
  · go_enter Try.func12, Try.ntmps12
    go_wp2
    go_ret
    exact ⟨rfl, rfl⟩
  · have h1 : (12 : Int) < n := by omega
    go_enter Try.func12, Try.ntmps12
    go_wp2
    go_ret
    exact ⟨rfl, rfl⟩
set_option maxHeartbeats 1000000 in
theorem orders_no (n : Int) (h : n < 0 ∨ 12 < n) (w : World) :
    Calls Try.prog 13 #[.int .i64 n] w fun e w' => e = .returned (.int .u64 0) ∧ w' = w := by
  by_cases h0 : n < 0
  · go_enter Try.func13, Try.ntmps13
    go_wp2
    go_ret
    exact ⟨rfl, rfl⟩
  · have h1 : (12 : Int) < n := by omega
    go_enter Try.func13, Try.ntmps13
    go_wp2
    go_ret
    exact ⟨rfl, rfl⟩

/-- A row being filled with 0, 1, ..: the first k are there. -/
structure FB (W : World) (u n k : Nat) : Prop where
  blk : ∃ cur, W.heap[u]? = some (.cells cur 3 (0, 0)) ∧ cur.size = n ∧ cur.toList.take k = ints (iota k)
  le : k ≤ n
theorem FB.rb {W : World} {u n : Nat} (h : FB W u n n) : RB W u n n (iota n) := ⟨h.blk, iota_len n, Nat.le_refl _⟩
theorem iota_succ (k : Nat) : iota (k + 1) = iota k ++ [(k : Int)] := by simp [iota, List.range_succ]
theorem FB.set {W : World} {u n k : Nat} (h : FB W u n k) (hk : k < n) : FB (W.setCell ⟨u, k, none⟩ (.int .i64 (k : Int))) u n (k + 1) := by
  obtain ⟨cur, h1, h2, h3⟩ := h.blk
  refine ⟨⟨cur.setIfInBounds k (.int .i64 (k : Int)), by simp [World.setCell, Array.getElem?_modify, h1], by simpa using h2, ?_⟩, hk⟩
  rw [Array.toList_setIfInBounds, iota_succ]
  have ho : k < cur.toList.length := by simp; omega
  have hm : (List.take k cur.toList).length = k := by rw [List.length_take]; omega
  rw [List.take_set, List.take_succ_eq_append_getElem ho, List.set_append, if_neg (by omega), hm, Nat.sub_self, h3]
  simp [ints]
theorem FB.cell {W : World} {u n k : Nat} (h : FB W u n k) (hk : k < n) : (∃ v, W.cell? ⟨u, k, none⟩ = some v) ∧ W.frozen? ⟨u, k, none⟩ = false := by
  obtain ⟨cur, h1, h2, h3⟩ := h.blk
  exact ⟨⟨cur[k], by rw [cell_blk h1]; exact Array.getElem?_eq_getElem (by omega)⟩, free_blk h1 k⟩

/-- Between two rounds of Order. -/
structure OR (w W : World) (u n j m : Nat) (kk : Nat) (rest out : List Int) (vo : Value) (k0 : Nat) : Prop where
  row : RB W u n m rest
  own : W.ownsRow (u + 1) 3 1 vo j (ints out)
  eq : out ++ arr m rest kk = arr n (iota n) k0
  lt : kk < fact m
  sum : j + m = n
  bel : Below u w W

theorem OR.step {w W W5 : World} {u n j p kk q G a k2 : Nat} {z : Int} {rest out : List Int} {vo v5 : Value} {k0 : Nat} {vs : List Value} (h : OR w W u n j (p + 1) kk rest out vo k0) (hG : G = fact p) (ha : a = kk / G) (hk2 : k2 = kk % G) (hz : z = rest.getD a 0)
    (hown5 : W5.ownsRow (u + 1) 3 1 v5 (j + 1) (ints out ++ [.int .i64 z])) (hg5 : (W.alloc (.cells #[.int .i64 z] 3)).grownBy W5 vo.ownBlock)
    (hrow : RB ((W5.drewN q).setCells u 0 vs) u n p (rest.eraseIdx a)) : OR w ((W5.drewN q).setCells u 0 vs) u n (j + 1) p k2 (rest.eraseIdx a) (out ++ [z]) v5 k0 := by
  subst hG ha hk2 hz
  have hB5 := below_push (o := .cells #[.int .i64 (rest.getD (kk / fact p) 0)] 3) h.bel (Nat.le_of_lt h.row.lt) (own_low h.own (Nat.le_succ _)) hg5
  refine ⟨hrow, ?_, ?_, Nat.mod_lt _ (fact_pos p), by have := h.sum; omega, stores_below (Nat.le_refl _) vs 0 _ (below_drewN hB5 q)⟩
  · have := own_setlow (vs := vs) (own_drewN hown5 q) (Nat.lt_succ_self u)
    simpa [ints] using this
  · rw [← h.eq, arr]
    simp
theorem OR.rowPush {w W W5 : World} {u n j m kk : Nat} {rest out : List Int} {vo : Value} {k0 : Nat} {o : Obj} (h : OR w W u n j m kk rest out vo k0) (hg5 : (W.alloc o).grownBy W5 vo.ownBlock) : RB W5 u n m rest := by
  obtain ⟨cur, hc, _⟩ := h.row.blk
  exact h.row.same ((own_keeps (h.own.alloc o) (Nat.lt_succ_self u) ((Below.heap_alloc _ _ _ h.row.lt).trans hc) hg5).trans hc.symm)

set_option maxRecDepth 100000 in
set_option maxHeartbeats 4000000 in
theorem order_any (n : Nat) (hn : n ≤ 12) (k : Int) (hk0 : 0 ≤ k) (w : World) :
    Calls Try.prog 12 #[.int .i64 (n : Int), .int .u64 k] w fun e w' => ∃ A c, e = .returned (.slice A n c) ∧ w'.ownsRow w.heap.size 3 1 (.slice A n c) n (ints (arr n (iota n) (k.toNat % fact n))) ∧ Below w.heap.size w w' := by
  obtain ⟨i0, hi, hz0, hz1, hz2⟩ := info_parts infoI
  have hn12 : (n : Int) ≤ 12 := by omega
  have O0 := Lib.hid (orders_any n hn)
  obtain ⟨F, hF⟩ : ∃ F : Nat, F = fact n := ⟨_, rfl⟩
  have hFp : 0 < F := hF ▸ fact_pos n
  have hFl : F ≤ 479001600 := hF ▸ fact_le hn
  rw [← hF] at O0
  obtain ⟨k1, hk1e⟩ : ∃ k1 : Nat, k1 = k.toNat % F := ⟨_, rfl⟩
  have hmod : k.tmod (F : Int) = (k1 : Int) := by
    rw [Int.tmod_eq_emod_of_nonneg hk0, hk1e, Int.natCast_emod, Int.toNat_of_nonneg hk0]
  have hk1l : k1 < F := hk1e ▸ Nat.mod_lt _ hFp
  have HF := Lib.hid (And.intro hF hk1e)
  have hF0 : ¬ (F : Int) = 0 := by omega
  have hF0b : ((F : Int) == 0) = false := by simpa using hF0
  have hkw : IntKind.u64.wrap (k1 : Int) = (k1 : Int) := IntWalk.u64_in _ ⟨by omega, by omega⟩
  clear hF hk1e
  go_enter Try.func12, Try.ntmps12
  go_wp2_with fail
  refine (O0.out _).mono ?_
  rintro e w1 ⟨rfl, hw1⟩
  obtain rfl := hw1.symm
  go_wp2_with (at_make; refine wpList_make_full _ rfl _ _ 22 rfl w.heap.size 3 i0 (.int .i64 0) 1 Try.underlying22 hi hz0 hz1 .i64 .i64 (n : Int) (n : Int) n rfl rfl rfl rfl (by rw [hz2]; omega) (by unfold maxLen; omega) (Nat.le_refl _) ?_; intro w2 hown2 hg2)
  have hz2w := hg2.size
  have HF0' := Lib.hid (show FB w2 w.heap.size n 0 from by
    rcases hown2.2 with ⟨h0, _⟩ | ⟨g, cap, cur, hs, _, hh, _, _, hsz, _⟩
    · simp at h0
    · injection hs with hA _ hcc
      injection hA with hA
      injection hA with hA
      subst hA hcc
      exact ⟨⟨cur, hh, by omega, by simp [iota, ints]⟩, Nat.zero_le _⟩)
  have HB2 := Lib.hid ((Below.refl w.heap.size w).grown hg2 (Nat.le_refl _) (by intro k hk; cases hk))
  clear hown2 hg2
  go_loopw [24] (fun i wr => ∃ j : Nat, i = .int .i64 (j : Int) ∧ j ≤ n ∧ Hid (FB wr w.heap.size n j) ∧ Hid (Below w.heap.size w wr)) (fun i _ => n - (intOf i).toNat)
  case atStart => exact ⟨0, rfl, Nat.zero_le _, HF0', HB2⟩
  case round =>
    obtain ⟨j, rfl, hj, hfb, hb⟩ := hrel
    by_cases hlt : j < n
    · obtain ⟨⟨v, hv⟩, hfz⟩ := hfb.out.cell hlt
      have hi0 : (0 : Int) ≤ (j : Int) := by omega
      have hi1 : (j : Int) < (n : Int) := by omega
      go_wp2
      exact ⟨⟨j + 1, by go_num, by omega, Lib.hid (hfb.out.set hlt), Lib.hid (hb.out.setCell (p := ⟨w.heap.size, j, none⟩) (Nat.le_refl _) _)⟩, by simp [intOf]; omega⟩
    · obtain rfl : n = j := by omega
      have H0 := Lib.hid (show OR w wr w.heap.size n 0 n k1 (iota n) [] (.slice none 0 0) k1 from ⟨hfb.out.rb, World.ownsRow_nil _ _ _ _, rfl, by have := HF.out.1; omega, by omega, hb.out⟩)
      clear hfb hb HF0' HB2 O0 hmod hF0 hF0b hkw
      go_wp2
      go_loopw [1, 5, 7, 33] (fun kv rest vo i wr => ∃ (j m kk : Nat) (xs out : List Int), i = .int .i64 (j : Int) ∧ j + m = n ∧ kv = .int .u64 (kk : Int) ∧ rest = .slice (some ⟨w.heap.size, 0, none⟩) m n ∧ Hid (OR w wr w.heap.size n j m kk xs out vo k1)) (fun _ _ _ i _ => n - (intOf i).toNat)
      case atStart => exact ⟨0, n, k1, iota n, [], rfl, by omega, rfl, rfl, H0⟩
      case round =>
        clear H0
        obtain ⟨j, m, kk, xs, out, rfl, hjm, rfl, rfl, hor⟩ := hrel
        obtain ⟨Ao, co, hvo⟩ := own_form hor.out.own
        subst hvo
        cases m with
        | succ p =>
          have hlt : (j : Int) < (n : Int) := by omega
          have hi0 : (0 : Int) ≤ (j : Int) := by omega
          obtain ⟨q, hq⟩ : ∃ q : Nat, q + 1 = n := ⟨n - 1, by omega⟩
          have e1 : (n : Int) - 1 = (q : Int) := by omega
          have e2 : (q : Int) - (j : Int) = (p : Int) := by omega
          have hp12 : p ≤ 12 := by omega
          have HO := Lib.hid (orders_any p hp12)
          obtain ⟨G, hG⟩ : ∃ G : Nat, G = fact p := ⟨_, rfl⟩
          have hGp : 0 < G := hG ▸ fact_pos p
          have hGl : G ≤ 479001600 := hG ▸ fact_le hp12
          rw [← hG] at HO
          have hkl := hor.out.lt
          have hk4 := fact_le (show p + 1 ≤ 12 by omega)
          obtain ⟨a, ha⟩ : ∃ a : Nat, a = kk / G := ⟨_, rfl⟩
          obtain ⟨k2, hk2⟩ : ∃ k2 : Nat, k2 = kk % G := ⟨_, rfl⟩
          have hap : a < p + 1 := by rw [ha, hG]; exact div_lt hkl
          have hdiv : (kk : Int).tdiv (G : Int) = (a : Int) := by rw [Int.tdiv_eq_ediv_of_nonneg (by omega), ha, Int.natCast_ediv]
          have hmd : (kk : Int).tmod (G : Int) = (k2 : Int) := by rw [Int.tmod_eq_emod_of_nonneg (by omega), hk2, Int.natCast_emod]
          have hk2l : k2 < G := hk2 ▸ Nat.mod_lt _ hGp
          have hG0 : ¬ (G : Int) = 0 := by omega
          have hG0b : ((G : Int) == 0) = false := by simpa using hG0
          have hkw : IntKind.u64.wrap (k2 : Int) = (k2 : Int) := IntWalk.u64_in _ ⟨by omega, by omega⟩
          have haw : IntKind.u64.wrap (a : Int) = (a : Int) := IntWalk.u64_in _ ⟨by omega, by omega⟩
          have haw2 : IntKind.i64.wrap (a : Int) = (a : Int) := IntWalk.i64_in _ (by omega)
          have ha0 : (0 : Int) ≤ (a : Int) := by omega
          have ha1 : (a : Int) < ((p + 1 : Nat) : Int) := by omega
          have HG := Lib.hid (And.intro hG (And.intro ha hk2))
          have hca := hor.out.row.at a hap
          obtain ⟨z, hz⟩ : ∃ z, z = xs.getD a 0 := ⟨_, rfl⟩
          rw [← hz] at hca
          have HZ := Lib.hid hz
          have hul := hor.out.row.lt
          have hj12 : j ≤ 12 := by omega
          clear hG ha hk2 hkl hk4 hz
          go_wp2_with fail
          refine (HO.out _).mono ?_
          rintro e w4 ⟨rfl, hw4⟩
          obtain rfl := hw4.symm
          go_wp2_with (at_builtin; refine wpList_append_own _ rfl _ _ 22 rfl (w.heap.size + 1) 3 i0 (.int .i64 0) 1 8 Try.underlying22 hi hz0 hz1 (by assumption) rfl (by decide) _ _ _ rfl (World.ownsRow.alloc (hor.out.own) _) ⟨wr.heap.size, 0, none⟩ 1 1 [.int .i64 z] rfl rfl (cell_one_new _ _ _) (one_one rfl) (by unfold maxLen; omega) (by omega) (by simp; omega) ?_; intro v5 w5 hown5 hg5 _)
          have hg5' : (wr.alloc (.cells #[.int .i64 z] 3)).grownBy w5 (Value.slice Ao j co).ownBlock := hg5
          have HD := Lib.hid (del_any (hor.out.rowPush hg5') hn a hap)
          rw [Nat.add_sub_cancel] at HD
          have H5 := Lib.hid (And.intro hown5 hg5')
          clear hown5 hg5 hg5' hca
          refine HD.out.mono ?_
          rintro e w6 ⟨rfl, hrow6, q6, vs, rfl⟩
          have H6 := Lib.hid (hor.out.step HG.out.1 HG.out.2.1 HG.out.2.2 HZ.out H5.out.1 H5.out.2 hrow6)
          clear hrow6
          go_wp2
          exact ⟨⟨j + 1, p, k2, _, _, by go_num, by omega, rfl, rfl, H6⟩, by simp [intOf]; omega⟩
        | zero =>
          obtain rfl : n = j := by omega
          go_wp2
          go_ret
          refine ⟨Ao, co, rfl, ?_, hor.out.bel⟩
          have := hor.out.eq
          simp only [arr, List.append_nil] at this
          rw [this] at hor
          rw [← HF.out.1, ← HF.out.2]
          exact own_low hor.out.own (Nat.le_succ _)
end Go.Proofs.Ytnopmeadliaiiaa.Picks
