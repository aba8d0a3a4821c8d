/- trace.Check. -/
import Derived.Test.YtfojmjgnndlfnabTrWrong
namespace Go.Proofs.Ytfojmjgnndlfnab.Tr
open Go Go.RowKit
set_option linter.unusedVariables false

/-- the place of the first that is wrong -/
def fw (P : Nat → Int) : Nat → Nat
  | 0 => 0
  | n + 1 => if fw P n < n then fw P n else if P n = 0 then n + 1 else n
theorem fw_le (P : Nat → Int) : ∀ n, fw P n ≤ n
  | 0 => Nat.le_refl _
  | n + 1 => by
    have := fw_le P n
    unfold fw
    split
    · omega
    · split <;> omega
theorem fw_stay {P : Nat → Int} {k : Nat} (h : fw P k < k) : ∀ n, k ≤ n → fw P n = fw P k
  | 0, hn => by obtain rfl : k = 0 := by omega
                rfl
  | n + 1, hn => by
    by_cases e : k = n + 1
    · subst e; rfl
    · have ih := fw_stay h n (by omega)
      conv => lhs; unfold fw
      rw [if_pos (by omega), ih]
theorem fw_next {P : Nat → Int} {k : Nat} (h : fw P k = k) (hp : P k = 0) : fw P (k + 1) = k + 1 := by
  unfold fw
  rw [if_neg (by omega), if_pos hp]
theorem fw_hit {P : Nat → Int} {k n : Nat} (h : fw P k = k) (hp : ¬ P k = 0) (hk : k < n) : fw P n = k := by
  have e : fw P (k + 1) = k := by
    unfold fw
    rw [if_neg (by omega), if_neg hp]
  rw [fw_stay (k := k + 1) (by omega) n hk, e]
theorem fw_wrong {P : Nat → Int} : ∀ n, fw P n < n → ¬ P (fw P n) = 0
  | 0, h => by omega
  | n + 1, h => by
    by_cases e : fw P n < n
    · have h1 : fw P (n + 1) = fw P n := fw_stay e (n + 1) (by omega)
      rw [h1]
      exact fw_wrong n e
    · have h0 : fw P n = n := by have := fw_le P n; omega
      by_cases hp : P n = 0
      · rw [fw_next h0 hp] at h; omega
      · rw [fw_hit (n := n + 1) h0 hp (by omega)]; exact hp
/-- why -/
def wy (P : Nat → Int) (n : Nat) : Int := if fw P n < n then P (fw P n) else 0
theorem fw_cut {P : Nat → Int} {n m : Nat} (h : n ≤ m) : (n ≤ fw P m → fw P n = n ∧ wy P n = 0) ∧ (fw P m < n → fw P n = fw P m ∧ wy P n = wy P m) := by
  have hl := fw_le P n
  constructor
  · intro h1
    have e : fw P n = n := by
      rcases Nat.lt_or_ge (fw P n) n with h2 | h2
      · have := fw_stay h2 m h; omega
      · omega
    exact ⟨e, by unfold wy; rw [if_neg (by omega)]⟩
  · intro h1
    have e : fw P n < n := by
      rcases Nat.lt_or_ge (fw P n) n with h2 | h2
      · exact h2
      · exfalso
        have e0 : fw P n = n := by omega
        have : ∀ m, n ≤ m → n ≤ fw P m := by
          intro m hm
          induction m with
          | zero => omega
          | succ m ih =>
            by_cases q : n = m + 1
            · rw [← q]; omega
            · have := ih (by omega)
              have hm2 := fw_le P m
              unfold fw
              split
              · omega
              · split <;> omega
        have := this m h
        omega
    have e1 := fw_stay e m h
    exact ⟨e1.symm, by unfold wy; rw [if_pos e, if_pos (by omega), e1]⟩
theorem wy_zero (P : Nat → Int) (n : Nat) : wy P n = 0 ↔ fw P n = n := by
  have hl := fw_le P n
  unfold wy
  constructor
  · intro h
    rcases Nat.lt_or_ge (fw P n) n with h2 | h2
    · rw [if_pos h2] at h; exact absurd h (fw_wrong n h2)
    · omega
  · intro h
    rw [if_neg (by omega)]
theorem Cx.less {w : World} {O A : Option Addr} {on n : Nat} {ord : Nat → Bool} {f : Nat → Mk} (h : Cx w O on ord A n f) (k : Nat) (hk : k ≤ n) : Cx w O on ord A k f := ⟨h.o, h.r.less hk, Nat.le_trans hk h.hn, h.hon⟩
set_option maxRecDepth 20000 in
set_option maxHeartbeats 4000000 in
theorem check_any {w : World} {O A : Option Addr} {on ocap n cap : Nat} {ord : Nat → Bool} {f : Nat → Mk} (hC : Cx w O on ord A n f) (hcap : n ≤ cap) (hcm : cap ≤ 9223372036854775807) :
    Calls Try.prog 6 #[.slice O on ocap, .slice A n cap] w fun e w' => e = .returned (.tuple #[.int .i64 (fw (fun i => wrongF ord on f i (f i)) n : Nat), .int .i64 (wy (fun i => wrongF ord on f i (f i)) n)]) ∧ Below w.heap.size w w' := by
  have HW := Lib.hid (fun (k : Nat) (A : Option Addr) (V : World) (h : Cx V O on ord A k f) => wrong_any (ocap := ocap) (cap := cap) (f k) h)
  obtain ⟨P, hP⟩ : ∃ P : Nat → Int, P = fun i => wrongF ord on f i (f i) := ⟨_, rfl⟩
  rw [← hP]
  have HPe := Lib.hid (fun i => show P i = wrongF ord on f i (f i) by rw [hP])
  clear hP
  have hnn : (n : Int) ≤ 1000 := by have := hC.hn; omega
  by_cases h0 : n = 0
  · subst h0
    clear hC
    go_enter Try.func6, Try.ntmps6
    go_wp2
    refine wp_loop_rounds 1 ?_
    rw [rounds_succ]
    go_wp2
    refine bodyPost_ret (v := .tuple #[.int .i64 0, .int .i64 0]) (by simp [results, Try.results6, go_sem]) rfl ?_
    exact ⟨rfl, Below.refl _ _⟩
  · obtain ⟨b, off, rfl, hb, hA⟩ := hC.r (by omega)
    have HA := Lib.hid hA
    have HC := Lib.hid hC
    have hcI : (n : Int) ≤ (cap : Int) := by omega
    have hcI2 : (cap : Int) ≤ 9223372036854775807 := by omega
    clear hA hC
    go_enter Try.func6, Try.ntmps6
    go_wp2
    go_loopw [11] (fun i wr => ∃ k : Nat, i = .int .i64 (k : Int) ∧ k ≤ n ∧ fw P k = k ∧ Below w.heap.size w wr) (fun i _ => n - (intOf i).toNat)
    case atStart => exact ⟨0, rfl, Nat.zero_le _, rfl, Below.refl _ _⟩
    case round =>
      obtain ⟨k, rfl, hk, hf, hB⟩ := hrel
      have HB := Lib.hid hB
      have HF := Lib.hid hf
      clear hB hf
      have hk0 : (0 : Int) ≤ (k : Int) := by omega
      by_cases hlt : k < n
      · have hk1 : (k : Int) < (n : Int) := by omega
        have hk2 : (k : Int) ≤ (cap : Int) := by omega
        obtain ⟨c0, c1, c2, c3, c4, c5, c6, c7, c8⟩ := (HA.out k hlt).below HB.out hb
        have lb : b < wr.heap.size := Nat.lt_of_lt_of_le hb HB.out.size
        have hCx := HC.out.below (HB.out.mono (Nat.le_refl _))
        obtain ⟨x, hx⟩ : ∃ x, x = f k := ⟨_, rfl⟩
        rw [← hx] at c0 c1 c2 c3 c4 c5 c6 c7 c8
        have HX := Lib.hid hx
        clear hx
        have g1 := heap_alloc_new wr (.cells #[.int .i64 x.sd, .int .i64 x.k, .int .u64 x.h, .int .i64 x.c, .int .i64 x.f, .int .u64 x.s, .int .u64 x.t, .string x.d, .string x.a] TMk)
        obtain ⟨w1, hw1⟩ : ∃ X, X = wr.alloc (.cells #[.int .i64 x.sd, .int .i64 x.k, .int .u64 x.h, .int .i64 x.c, .int .i64 x.f, .int .u64 x.s, .int .u64 x.t, .string x.d, .string x.a] TMk) := ⟨_, rfl⟩
        have hB1 : Below w.heap.size w w1 := by rw [hw1]; exact HB.out.alloc HB.out.size _
        rw [← hw1] at g1
        have HB1 := Lib.hid (And.intro g1 hB1)
        go_upto_region 4 with fail
        rw [← hw1]
        clear hw1 g1 hB1 c0 c1 c2 c3 c4 c5 c6 c7 c8 HB hCx
        refine wp_region_held_drew (S := fun V => V.heap[wr.heap.size]? = some (.cells #[.int .i64 x.sd, .int .i64 x.k, .int .u64 x.h, .int .i64 x.c, .int .i64 x.f, .int .u64 x.s, .int .u64 x.t, .string x.d, .string x.a] TMk (0, 0))) (by kernel_rfl) HB1.out.1 (fun hHeld => ?_)
        have HB2 := Lib.hid HB1.out.2.drew
        obtain ⟨w2, hw2⟩ : ∃ X, X = w1.drew := ⟨_, rfl⟩
        rw [← hw2] at HB2 hHeld ⊢
        clear hw2 HB1
        refine wpAnyH_take (i := 0) (oi := _) (v := ?_) rfl (by kernel_rfl) (by kernel_rfl) (by kernel_rfl) (fun _ _ _ h => h) (Or.inl ⟨by rfl, ?_⟩) (by assumption) ?_
        rotate_left
        · (intro W hSw; (try dsimp only at hSw); go_simp; try with_reducible rfl)
        try simp only [Act.put, List.getElem_toArray, List.getElem_cons_zero, List.setIfInBounds_toArray, List.set_cons_zero, List.set_cons_succ]
        refine wpAnyH_take (i := 1) (oi := _) (v := ?_) rfl (by kernel_rfl) (by kernel_rfl) (by kernel_rfl) (fun _ _ _ h => h) (Or.inl ⟨by rfl, ?_⟩) (by assumption) ?_
        rotate_left
        · (intro W hSw; (try dsimp only at hSw); go_simp; try with_reducible rfl)
        try simp only [Act.put, List.getElem_toArray, List.getElem_cons_succ, List.getElem_cons_zero, List.setIfInBounds_toArray, List.set_cons_zero, List.set_cons_succ]
        refine wpAnyH_take (i := 2) (oi := _) (v := ?_) rfl (by kernel_rfl) (by kernel_rfl) (by kernel_rfl) (fun _ _ _ h => h) (Or.inl ⟨by rfl, ?_⟩) (by assumption) ?_
        rotate_left
        · (intro W hSw; (try dsimp only at hSw); go_simp; try with_reducible rfl)
        try simp only [Act.put, List.getElem_toArray, List.getElem_cons_succ, List.getElem_cons_zero, List.setIfInBounds_toArray, List.set_cons_zero, List.set_cons_succ]
        refine wpAnyH_take (i := 3) (oi := _) (v := ?_) rfl (by kernel_rfl) (by kernel_rfl) (by kernel_rfl) (fun _ _ _ h => h) (Or.inl ⟨by rfl, ?_⟩) (by assumption) ?_
        rotate_left
        · (intro W hSw; (try dsimp only at hSw); go_simp; try with_reducible rfl)
        try simp only [Act.put, List.getElem_toArray, List.getElem_cons_succ, List.getElem_cons_zero, List.setIfInBounds_toArray, List.set_cons_zero, List.set_cons_succ]
        refine wpAnyH_take (i := 4) (oi := _) (v := ?_) rfl (by kernel_rfl) (by kernel_rfl) (by kernel_rfl) (fun _ _ _ h => h) (Or.inl ⟨by rfl, ?_⟩) (by assumption) ?_
        rotate_left
        · (intro V hSw; have q := fun i => cell_of_row V wr.heap.size i _ _ (0, 0) hSw; have q0 := q 0; have q1 := q 1; have q2 := q 2; have q3 := q 3; have q4 := q 4; have q5 := q 5; have q6 := q 6; have q7 := q 7; have q8 := q 8; clear q hSw; go_simp; try with_reducible rfl)
        try simp only [Act.put, List.getElem_toArray, List.getElem_cons_succ, List.getElem_cons_zero, List.setIfInBounds_toArray, List.set_cons_zero, List.set_cons_succ]
        refine wpAnyH_ready (rs := [5]) (by kernel_rfl) (by simp) ?_
        refine AllReadyH.cons rfl (fun K hK => ?_) AllReadyH.nil
        simp only [List.getElem_toArray, List.getElem_cons_succ, List.getElem_cons_zero]
        rw [if_pos (by rfl)]
        go_simp
        have hcall := HW.out k (some ⟨b, off, none⟩) w2 ((HC.out.below HB2.out).less k (by omega))
        rw [← HX.out] at hcall
        refine hcall.mono ?_
        rintro _ w3 ⟨rfl, b3⟩
        have hS3 := (b3.block _ (lt_of hHeld)).trans hHeld
        have HB3 := Lib.hid (HB2.out.trans (b3.mono HB2.out.size))
        have hpk := HPe.out k
        rw [← HX.out] at hpk
        rw [← hpk]
        clear b3 hcall hpk HB2
        go_wp2_with fail
        refine hK.out _ _ hS3 (fun hHeld => ?_)
        clear hK K
        try simp only [Act.put, List.getElem_toArray, List.getElem_cons_succ, List.getElem_cons_zero, List.setIfInBounds_toArray, List.set_cons_zero, List.set_cons_succ]
        refine wpAnyH_take (i := 6) (oi := _) (v := ?_) rfl (by kernel_rfl) (by kernel_rfl) (by kernel_rfl) (fun _ _ _ h => h) (Or.inl ⟨by rfl, ?_⟩) (by assumption) ?_
        rotate_left
        · (intro W hSw; (try dsimp only at hSw); go_simp; try with_reducible rfl)
        try simp only [Act.put, List.getElem_toArray, List.getElem_cons_succ, List.getElem_cons_zero, List.setIfInBounds_toArray, List.set_cons_zero, List.set_cons_succ]
        refine wpAnyH_done (by kernel_rfl) ?_ _
        clear hHeld hS3
        obtain ⟨y, hy⟩ : ∃ y, y = P k := ⟨_, rfl⟩
        rw [← hy]
        by_cases hy0 : y = 0
        · have HP0 := Lib.hid (show P k = 0 by rw [← hy]; exact hy0)
          have y1 : (y != 0) = false := by simpa using hy0
          have y2 : (y == 0) = true := by simpa using hy0
          clear hy
          go_wp2
          exact ⟨⟨k + 1, by go_num, by omega, fw_next HF.out HP0.out, HB3.out⟩, by simp [intOf]; omega⟩
        · have HP0 := Lib.hid (show ¬ P k = 0 by rw [← hy]; exact hy0)
          have y1 : (y != 0) = true := by simpa using hy0
          have y2 : (y == 0) = false := by simpa using hy0
          have HY := Lib.hid hy
          clear hy
          go_wp2
          refine bodyPost_ret (v := .tuple #[.int .i64 (k : Int), .int .i64 y]) (by simp [results, Try.results6, go_sem]) rfl ?_
          have e := fw_hit (n := n) HF.out HP0.out hlt
          refine ⟨?_, HB3.out⟩
          rw [show wy P n = y by unfold wy; rw [e, if_pos hlt, ← HY.out], e]
      · obtain rfl : k = n := by omega
        go_wp2
        refine bodyPost_ret (v := .tuple #[.int .i64 (k : Int), .int .i64 0]) (by simp [results, Try.results6, go_sem]) rfl ?_
        refine ⟨?_, HB.out⟩
        rw [show wy P k = 0 by unfold wy; rw [HF.out, if_neg (Nat.lt_irrefl k)], HF.out]
end Go.Proofs.Ytfojmjgnndlfnab.Tr
