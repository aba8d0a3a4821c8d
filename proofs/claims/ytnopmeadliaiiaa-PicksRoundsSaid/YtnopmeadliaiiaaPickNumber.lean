/- picks.Number: the number of an order. -/
import Derived.Test.YtnopmeadliaiiaaPickOrder
import Derived.Test.YtnopmeadliaiiaaPicksAwake
namespace Go.Proofs.Ytnopmeadliaiiaa.Picks
open Go.RowKit picksNext

set_option maxHeartbeats 1000000 in
theorem number_long (A : Option Addr) (len cap : Nat) (h : 12 < len) (w : World) :
    Calls Try.prog 14 #[.slice A len cap] w fun e w' => e = .returned (.tuple #[.int .u64 0, .bool false]) ∧ w' = w := by
  have hp : (12 : Int) < (len : Int) := by omega
  go_enter Try.func14, Try.ntmps14
  go_wp2
  go_ret2
  exact ⟨rfl, rfl⟩

/-- What Number answers. -/
def nans : Option Nat → Value
  | some m => .tuple #[.int .u64 (m : Int), .bool true]
  | none => .tuple #[.int .u64 0, .bool false]

/-- Between two rounds of Number. -/
structure NR (w W : World) (u n j m kk : Nat) (rest zs : List Int) : Prop where
  row : RB W u n m rest
  eq : num (iota n) zs = (num rest (zs.drop j)).map (kk + ·)
  lt : kk + fact m ≤ fact n
  sum : j + m = n
  bel : Below u w W

theorem NR.hit {w W : World} {u n j p kk a q : Nat} {rest zs : List Int} {vs : List Value} {x : Int} (h : NR w W u n j (p + 1) kk rest zs) (hz : zs.length = n) (hx : zs.getD j 0 = x) (ha : ix rest x = some a) (hap : a < p + 1)
    (hrow : RB ((W.drewN q).setCells u 0 vs) u n p (rest.eraseIdx a)) : NR w ((W.drewN q).setCells u 0 vs) u n (j + 1) p (kk + a * fact p) (rest.eraseIdx a) zs := by
  have hj : j < zs.length := by have := h.sum; omega
  have hd : zs.drop j = x :: zs.drop (j + 1) := by
    rw [List.drop_eq_getElem_cons hj, ← hx, List.getD_eq_getElem?_getD, List.getElem?_eq_getElem hj]
    rfl
  refine ⟨hrow, ?_, ?_, by have := h.sum; omega, stores_below (Nat.le_refl _) vs 0 _ (below_drewN h.bel q)⟩
  · rw [h.eq, hd, num, ha]
    have hl : (zs.drop (j + 1)).length = p := by rw [List.length_drop]; have := h.sum; omega
    simp only [hl]
    cases num (rest.eraseIdx a) (zs.drop (j + 1)) with
    | none => rfl
    | some t => simp only [Option.map_some, Nat.add_assoc]
  · have h1 := h.lt
    rw [fact] at h1
    have : a * fact p + fact p ≤ fact p * (p + 1) := by
      rw [Nat.mul_comm a, ← Nat.mul_succ]
      exact Nat.mul_le_mul_left _ (by omega)
    omega
theorem NR.miss {w W : World} {u n j p kk : Nat} {rest zs : List Int} {x : Int} (h : NR w W u n j (p + 1) kk rest zs) (hz : zs.length = n) (hx : zs.getD j 0 = x) (ha : ix rest x = none) : num (iota n) zs = none := by
  have hj : j < zs.length := by have := h.sum; omega
  have hd : zs.drop j = x :: zs.drop (j + 1) := by
    rw [List.drop_eq_getElem_cons hj, ← hx, List.getD_eq_getElem?_getD, List.getElem?_eq_getElem hj]
    rfl
  rw [h.eq, hd, num, ha]
  rfl

set_option maxRecDepth 100000 in
set_option maxHeartbeats 4000000 in
theorem number_any (A : Option Addr) (n cap : Nat) (zs : List Int) (hz : zs.length = n) (hn : n ≤ 12) (w : World) (hr : Rd w A n zs) :
    Calls Try.prog 14 #[.slice A n cap] w fun e w' => e = .returned (nans (num (iota n) zs)) ∧ Below w.heap.size w w' := by
  obtain ⟨i0, hi, hz0, hz1, hz2⟩ := info_parts infoI
  have hn12 : (n : Int) ≤ 12 := by omega
  have HR := Lib.hid (And.intro hr hz)
  clear hr hz
  go_enter Try.func14, Try.ntmps14
  go_wp2_with (at_make; refine wpList_make_full _ rfl _ _ 22 rfl w.heap.size 3 i0 (.int .i64 0) 1 Try.underlying22 hi hz0 hz1 .i64 .i64 (n : Int) (n : Int) n rfl rfl rfl rfl (by rw [hz2]; omega) (by unfold maxLen; omega) (Nat.le_refl _) ?_; intro w2 hown2 hg2)
  have HF0' := Lib.hid (show FB w2 w.heap.size n 0 from by
    rcases hown2.2 with ⟨h0, _⟩ | ⟨g, cap, cur, hs, _, hh, _, _, hsz, _⟩
    · simp at h0
    · injection hs with hA _ hcc
      injection hA with hA
      injection hA with hA
      subst hA hcc
      exact ⟨⟨cur, hh, by omega, by simp [iota, ints]⟩, Nat.zero_le _⟩)
  have HB2 := Lib.hid ((Below.refl w.heap.size w).grown hg2 (Nat.le_refl _) (by intro k hk; cases hk))
  clear hown2 hg2
  go_loopw [17] (fun i wr => ∃ j : Nat, i = .int .i64 (j : Int) ∧ j ≤ n ∧ Hid (FB wr w.heap.size n j) ∧ Hid (Below w.heap.size w wr)) (fun i _ => n - (intOf i).toNat)
  case atStart => exact ⟨0, rfl, Nat.zero_le _, HF0', HB2⟩
  case round =>
    obtain ⟨j, rfl, hj, hfb, hb⟩ := hrel
    by_cases hlt : j < n
    · obtain ⟨⟨v, hv⟩, hfz⟩ := hfb.out.cell hlt
      have hi0 : (0 : Int) ≤ (j : Int) := by omega
      have hi1 : (j : Int) < (n : Int) := by omega
      go_wp2
      exact ⟨⟨j + 1, by go_num, by omega, Lib.hid (hfb.out.set hlt), Lib.hid (hb.out.setCell (p := ⟨w.heap.size, j, none⟩) (Nat.le_refl _) _)⟩, by simp [intOf]; omega⟩
    · obtain rfl : n = j := by omega
      have H0 := Lib.hid (show NR w wr w.heap.size n 0 n 0 (iota n) zs from ⟨hfb.out.rb, by
        rw [List.drop_zero]
        cases num (iota n) zs with
        | none => rfl
        | some t => simp, by omega, by omega, hb.out⟩)
      clear hfb hb HF0' HB2
      go_wp2
      go_loopw [5, 7, 26] (fun rest kv i wr => ∃ (j m kk : Nat) (xs : List Int), i = .int .i64 (j : Int) ∧ j + m = n ∧ kv = .int .u64 (kk : Int) ∧ rest = .slice (some ⟨w.heap.size, 0, none⟩) m n ∧ Hid (NR w wr w.heap.size n j m kk xs zs)) (fun _ _ i _ => n - (intOf i).toNat)
      case atStart => exact ⟨0, n, 0, iota n, rfl, by omega, rfl, rfl, H0⟩
      case round =>
        clear H0
        obtain ⟨j, m, kk, xs, rfl, hjm, rfl, rfl, hor⟩ := hrel
        cases m with
        | succ p =>
          have hlt : (j : Int) < (n : Int) := by omega
          have hi0 : (0 : Int) ≤ (j : Int) := by omega
          obtain ⟨b, off, rfl, hbl, hc⟩ := (HR.out.1.below (hor.out.bel)) (by omega)
          have hcj := hc j (by omega)
          obtain ⟨x, hx⟩ : ∃ x, zs.getD j 0 = x := ⟨_, rfl⟩
          rw [hx] at hcj
          have HX := Lib.hid hx
          clear hc hx
          go_wp2_with fail
          refine (index_any hor.out.row hn x).mono ?_
          rintro e w4 ⟨⟨r, rfl, hix⟩, q4, rfl⟩
          rcases hix with ⟨a, ha, rfl⟩ | ⟨ha, rfl⟩
          · have HA := Lib.hid ha
            have hap : a < p + 1 := by obtain ⟨hax, _⟩ := ix_some xs x a ha; have := hor.out.row.len; omega
            obtain ⟨q, hq⟩ : ∃ q : Nat, q + 1 = n := ⟨n - 1, by omega⟩
            have e1 : (n : Int) - 1 = (q : Int) := by omega
            have e2 : (q : Int) - (j : Int) = (p : Int) := by omega
            have hp12 : p ≤ 12 := by omega
            have HO := Lib.hid (orders_any p hp12)
            obtain ⟨G, hG⟩ : ∃ G : Nat, G = fact p := ⟨_, rfl⟩
            have HG := Lib.hid hG
            rw [← hG] at HO
            have hlim := hor.out.lt
            have hfn := fact_le hn
            have hfp : a * fact p ≤ fact (p + 1) := by
              rw [fact, Nat.mul_comm]
              exact Nat.mul_le_mul_left _ (by omega)
            rw [← hG] at hfp
            obtain ⟨t, ht⟩ : ∃ t : Nat, t = a * G := ⟨_, rfl⟩
            rw [← ht] at hfp
            have HT := Lib.hid ht
            have hm1 : (a : Int) * (G : Int) = (t : Int) := by rw [ht, Int.natCast_mul]
            have haw : IntKind.u64.wrap (a : Int) = (a : Int) := IntWalk.u64_in _ ⟨by omega, by omega⟩
            have htw : IntKind.u64.wrap (t : Int) = (t : Int) := IntWalk.u64_in _ ⟨by omega, by omega⟩
            have hkw : IntKind.u64.wrap ((kk : Int) + (t : Int)) = ((kk + t : Nat) : Int) := by rw [IntWalk.u64_in _ ⟨by omega, by omega⟩, Int.natCast_add]
            have ha0 : (0 : Int) ≤ (a : Int) := by omega
            have HOR := Lib.hid (show NR w (wr.drewN q4) w.heap.size n j (p + 1) kk xs zs from ⟨hor.out.row.same rfl, hor.out.eq, hor.out.lt, hor.out.sum, below_drewN hor.out.bel q4⟩)
            have HD := Lib.hid (del_any HOR.out.row hn a hap)
            rw [Nat.add_sub_cancel] at HD
            clear hG ht ha hlim hfn hfp hcj
            go_wp2_with fail
            refine (HO.out _).mono ?_
            rintro e w5 ⟨rfl, hw5⟩
            obtain rfl := hw5.symm
            go_wp2_with fail
            refine HD.out.mono ?_
            rintro e w6 ⟨rfl, hrow6, q6, vs, rfl⟩
            have H6 := Lib.hid (HOR.out.hit HR.out.2 HX.out HA.out hap hrow6)
            clear hrow6
            go_wp2
            exact ⟨⟨j + 1, p, kk + t, _, by go_num, by omega, by first | rfl | rw [hkw], rfl, by have := H6; rw [← HG.out, ← HT.out, World.drewN_drewN] at this; exact this⟩, by simp [intOf]; omega⟩
          · have HM := Lib.hid (hor.out.miss HR.out.2 HX.out ha)
            have HB := Lib.hid (below_drewN hor.out.bel q4)
            clear ha
            go_wp2
            go_ret2
            exact ⟨by rw [HM.out]; rfl, HB.out⟩
        | zero =>
          obtain rfl : n = j := by omega
          go_wp2
          go_ret2
          refine ⟨?_, hor.out.bel⟩
          have h9 := hor.out.eq
          rw [List.drop_of_length_le (by have := HR.out.2; omega)] at h9
          rw [h9]
          rfl
end Go.Proofs.Ytnopmeadliaiiaa.Picks
