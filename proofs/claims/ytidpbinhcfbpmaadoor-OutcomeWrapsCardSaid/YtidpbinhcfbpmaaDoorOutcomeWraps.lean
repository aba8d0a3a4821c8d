/- The law OutcomeWraps. -/
import Derived.Test.YtidpbinhcfbpmaaDoorOutcomeTells
namespace Go.Proofs.YtidpbinhcfbpmaaDoor.Errs
open Go.RowKit Go.Extern.Stop Go.Stop Go.Extern

theorem outK_wrap (c : Int) (low : Bool) (x : Int) (h : ¬ (x = 1 ∧ outK c low = 3)) : outK c (x == 1 || low) = outK c low := by
  by_cases h13 : c = 13
  · subst h13
    cases low with
    | true => simp
    | false =>
      have : outK 13 false = 3 := by decide
      have hx : (x == 1) = false := by simp; intro e; exact h ⟨e, this⟩
      rw [hx]; rfl
  · simp [outK, h13]
theorem outK_low (c : Int) (low : Bool) (h : outK c low = 3) : outK c true = 2 := by
  by_cases h13 : c = 13
  · subst h13; decide
  · exfalso
    simp only [outK, if_neg h13] at h
    repeat' (first | omega | split at h)

theorem wrap_long (c x : Int) (A : Option Addr) (n cap : Nat) (h : 40 < n) (w : World) (hg : Hg w) :
    Calls Tryd.prog 4 #[.int .i64 c, .slice A n cap, .int .i64 x] w fun e w' => e = .returned (.bool true) ∧ Below w.heap.size w w' := by
  have HA := Lib.hid (awake28 w hg)
  have hp : (40 : Int) < (n : Int) := by omega
  clear hg
  go_enter Tryd.func4, Tryd.ntmps4
  go_wp2_with fail
  refine HA.out.mono ?_
  rintro e w1 ⟨rfl, hb⟩
  have HB := Lib.hid hb
  clear hb
  go_wp2
  go_ret
  exact ⟨rfl, HB.out⟩
theorem wrap_ok (x : Int) (A : Option Addr) (n cap : Nat) (h : ¬ 40 < n) (w : World) (hg : Hg w) :
    Calls Tryd.prog 4 #[.int .i64 0, .slice A n cap, .int .i64 x] w fun e w' => e = .returned (.bool true) ∧ Below w.heap.size w w' := by
  have HA := Lib.hid (awake28 w hg)
  have hp : ¬ (40 : Int) < (n : Int) := by omega
  clear hg
  by_cases hx : x = 1
  · subst hx
    go_enter Tryd.func4, Tryd.ntmps4
    go_wp2_with (first | (go_at_call 9; refine (of_ok _ _).mono ?_; rintro e w1 ⟨rfl, hw⟩; obtain rfl := hw.symm; clear hw) | (go_at_call 8; refine (out_nil _).mono ?_; rintro e w1 ⟨rfl, hw⟩; obtain rfl := hw.symm; clear hw) | (go_at_call 15; refine (at_nil _ _).mono ?_; rintro e w1 ⟨rfl, hw⟩; obtain rfl := hw.symm; clear hw) | (go_at_call 7; refine HA.out.mono ?_; rintro e w1 ⟨rfl, hb⟩; have HB := Lib.hid hb; clear hb))
    go_ret
    exact ⟨rfl, HB.out⟩
  · have hx1 : (x == 1) = false := by simpa using hx
    go_enter Tryd.func4, Tryd.ntmps4
    go_wp2_with (first | (go_at_call 9; refine (of_ok _ _).mono ?_; rintro e w1 ⟨rfl, hw⟩; obtain rfl := hw.symm; clear hw) | (go_at_call 8; refine (out_nil _).mono ?_; rintro e w1 ⟨rfl, hw⟩; obtain rfl := hw.symm; clear hw) | (go_at_call 15; refine (at_nil _ _).mono ?_; rintro e w1 ⟨rfl, hw⟩; obtain rfl := hw.symm; clear hw) | (go_at_call 7; refine HA.out.mono ?_; rintro e w1 ⟨rfl, hb⟩; have HB := Lib.hid hb; clear hb))
    go_ret
    exact ⟨rfl, HB.out⟩
set_option maxHeartbeats 1000000 in
theorem wrap_low (c : Int) (hc : c ≠ 0) (xs : List Int) (v : Value) (h : ¬ 40 < xs.length) (w : World) (hv : Nums w v xs) (hg : Hg w) (ha : outK c (hasP 1 xs) = 3) :
    Calls Tryd.prog 4 #[.int .i64 c, v, .int .i64 1] w fun e w' => e = .returned (.bool true) ∧ Below w.heap.size w w' := by
  have hp : ¬ (40 : Int) < (xs.length : Int) := by omega
  have HG := Lib.hid hg
  have HO := Lib.hid (of_any c hc xs (by omega) v w hv)
  have hne : Base.num c ≠ .num 0 := by intro e; injection e with e; exact hc e
  have HOa := Lib.hid (show ∀ u w1, Ch w1 xs.reverse (.num c) u → Hg w1 → Calls Tryd.prog 8 #[u] w1 fun e w' => e = .returned (.int .i64 (outK c (hasP 1 xs))) ∧ Below w1.heap.size w1 w' from fun u w1 hch hg1 => by
    have := out_any xs.reverse (.num c) u w1 hch (by simp; omega) hg1 hne
    rwa [hasP_reverse] at this)
  have HOb := Lib.hid (show ∀ u w1, Ch w1 ((1 : Int) :: xs.reverse) (.num c) u → Hg w1 → Calls Tryd.prog 8 #[u] w1 fun e w' => e = .returned (.int .i64 (outK c ((1 : Int) == 1 || hasP 1 xs))) ∧ Below w1.heap.size w1 w' from fun u w1 hch hg1 => by
    have := out_any ((1 : Int) :: xs.reverse) (.num c) u w1 hch (by simp; omega) hg1 hne
    rwa [hasP, hasP_reverse] at this)
  have e2 : outK c ((1 : Int) == 1 || hasP 1 xs) = 2 := outK_low c _ ha
  rw [ha] at HOa
  rw [e2] at HOb
  obtain ⟨A, cap, rfl, _⟩ := hv
  clear hg hc hne ha e2
  go_enter Tryd.func4, Tryd.ntmps4
  go_wp2_with fail
  refine HO.out.mono ?_
  rintro e w1 ⟨u, rfl, hch, hb⟩
  have H1 := Lib.hid hb
  have HC := Lib.hid hch
  have HP := Lib.hid (HOa.out u w1 hch (HG.out.below H1.out HG.out.lt))
  clear hb hch
  go_wp2_with fail
  refine HP.out.mono ?_
  rintro e w2 ⟨rfl, hb⟩
  have H2 := Lib.hid (H1.out.trans (hb.mono H1.out.size))
  have HT := Lib.hid (at_any 1 xs.reverse (.num c) u w2 (HC.out.below hb))
  clear hb
  go_wp2_with fail
  refine HT.out.mono ?_
  rintro e w3 ⟨u3, rfl, hch, hb⟩
  have H3 := Lib.hid (H2.out.trans (hb.mono H2.out.size))
  have HQ := Lib.hid (HOb.out u3 w3 hch (HG.out.below H3.out HG.out.lt))
  clear hb hch
  go_wp2_with fail
  refine HQ.out.mono ?_
  rintro e w4 ⟨rfl, hb⟩
  have H4 := Lib.hid (H3.out.trans (hb.mono H3.out.size))
  clear hb
  have HA := Lib.hid (awake28 w4 (HG.out.below H4.out HG.out.lt))
  go_wp2_with (go_at_call 7; refine HA.out.mono ?_; rintro e w5 ⟨rfl, hb⟩; have H5 := Lib.hid (H4.out.trans (hb.mono H4.out.size)); clear hb)
  go_ret
  exact ⟨rfl, H5.out⟩
set_option maxHeartbeats 1000000 in
theorem wrap_other (c x : Int) (hc : c ≠ 0) (xs : List Int) (v : Value) (h : ¬ 40 < xs.length) (w : World) (hv : Nums w v xs) (hg : Hg w) (hx : ¬ x = 1) :
    Calls Tryd.prog 4 #[.int .i64 c, v, .int .i64 x] w fun e w' => e = .returned (.bool true) ∧ Below w.heap.size w w' := by
  have hp : ¬ (40 : Int) < (xs.length : Int) := by omega
  have HG := Lib.hid hg
  have HO := Lib.hid (of_any c hc xs (by omega) v w hv)
  have hne : Base.num c ≠ .num 0 := by intro e; injection e with e; exact hc e
  have HOa := Lib.hid (show ∀ u w1, Ch w1 xs.reverse (.num c) u → Hg w1 → Calls Tryd.prog 8 #[u] w1 fun e w' => e = .returned (.int .i64 (outK c (hasP 1 xs))) ∧ Below w1.heap.size w1 w' from fun u w1 hch hg1 => by
    have := out_any xs.reverse (.num c) u w1 hch (by simp; omega) hg1 hne
    rwa [hasP_reverse] at this)
  have HOb := Lib.hid (show ∀ u w1, Ch w1 (x :: xs.reverse) (.num c) u → Hg w1 → Calls Tryd.prog 8 #[u] w1 fun e w' => e = .returned (.int .i64 (outK c (x == 1 || hasP 1 xs))) ∧ Below w1.heap.size w1 w' from fun u w1 hch hg1 => by
    have := out_any (x :: xs.reverse) (.num c) u w1 hch (by simp; omega) hg1 hne
    rwa [hasP, hasP_reverse] at this)
  have hx1 : (x == 1) = false := by simpa using hx
  have e2 := outK_wrap c (hasP 1 xs) x (fun e => hx e.1)
  rw [e2] at HOb
  generalize outK c (hasP 1 xs) = K at *
  obtain ⟨A, cap, rfl, _⟩ := hv
  clear hg hc hne e2
  go_enter Tryd.func4, Tryd.ntmps4
  go_wp2_with fail
  refine HO.out.mono ?_
  rintro e w1 ⟨u, rfl, hch, hb⟩
  have H1 := Lib.hid hb
  have HC := Lib.hid hch
  have HP := Lib.hid (HOa.out u w1 hch (HG.out.below H1.out HG.out.lt))
  clear hb hch
  go_wp2_with fail
  refine HP.out.mono ?_
  rintro e w2 ⟨rfl, hb⟩
  have H2 := Lib.hid (H1.out.trans (hb.mono H1.out.size))
  have HT := Lib.hid (at_any x xs.reverse (.num c) u w2 (HC.out.below hb))
  clear hb
  go_wp2_with fail
  refine HT.out.mono ?_
  rintro e w3 ⟨u3, rfl, hch, hb⟩
  have H3 := Lib.hid (H2.out.trans (hb.mono H2.out.size))
  have HQ := Lib.hid (HOb.out u3 w3 hch (HG.out.below H3.out HG.out.lt))
  clear hb hch
  go_wp2_with fail
  refine HQ.out.mono ?_
  rintro e w4 ⟨rfl, hb⟩
  have H4 := Lib.hid (H3.out.trans (hb.mono H3.out.size))
  clear hb
  have HA := Lib.hid (awake28 w4 (HG.out.below H4.out HG.out.lt))
  go_wp2_with (go_at_call 7; refine HA.out.mono ?_; rintro e w5 ⟨rfl, hb⟩; have H5 := Lib.hid (H4.out.trans (hb.mono H4.out.size)); clear hb)
  go_ret
  exact ⟨rfl, H5.out⟩
set_option maxHeartbeats 1000000 in
theorem wrap_same (c : Int) (hc : c ≠ 0) (xs : List Int) (v : Value) (h : ¬ 40 < xs.length) (w : World) (hv : Nums w v xs) (hg : Hg w) (ha : ¬ outK c (hasP 1 xs) = 3) :
    Calls Tryd.prog 4 #[.int .i64 c, v, .int .i64 1] w fun e w' => e = .returned (.bool true) ∧ Below w.heap.size w w' := by
  have hp : ¬ (40 : Int) < (xs.length : Int) := by omega
  have HG := Lib.hid hg
  have HO := Lib.hid (of_any c hc xs (by omega) v w hv)
  have hne : Base.num c ≠ .num 0 := by intro e; injection e with e; exact hc e
  have HOa := Lib.hid (show ∀ u w1, Ch w1 xs.reverse (.num c) u → Hg w1 → Calls Tryd.prog 8 #[u] w1 fun e w' => e = .returned (.int .i64 (outK c (hasP 1 xs))) ∧ Below w1.heap.size w1 w' from fun u w1 hch hg1 => by
    have := out_any xs.reverse (.num c) u w1 hch (by simp; omega) hg1 hne
    rwa [hasP_reverse] at this)
  have HOb := Lib.hid (show ∀ u w1, Ch w1 ((1 : Int) :: xs.reverse) (.num c) u → Hg w1 → Calls Tryd.prog 8 #[u] w1 fun e w' => e = .returned (.int .i64 (outK c ((1 : Int) == 1 || hasP 1 xs))) ∧ Below w1.heap.size w1 w' from fun u w1 hch hg1 => by
    have := out_any ((1 : Int) :: xs.reverse) (.num c) u w1 hch (by simp; omega) hg1 hne
    rwa [hasP, hasP_reverse] at this)
  have e2 := outK_wrap c (hasP 1 xs) 1 (fun e => ha e.2)
  rw [e2] at HOb
  have ha3 : (outK c (hasP 1 xs) == 3) = false := by simpa using ha
  generalize outK c (hasP 1 xs) = K at *
  obtain ⟨A, cap, rfl, _⟩ := hv
  clear hg hc hne e2
  go_enter Tryd.func4, Tryd.ntmps4
  go_wp2_with fail
  refine HO.out.mono ?_
  rintro e w1 ⟨u, rfl, hch, hb⟩
  have H1 := Lib.hid hb
  have HC := Lib.hid hch
  have HP := Lib.hid (HOa.out u w1 hch (HG.out.below H1.out HG.out.lt))
  clear hb hch
  go_wp2_with fail
  refine HP.out.mono ?_
  rintro e w2 ⟨rfl, hb⟩
  have H2 := Lib.hid (H1.out.trans (hb.mono H1.out.size))
  have HT := Lib.hid (at_any 1 xs.reverse (.num c) u w2 (HC.out.below hb))
  clear hb
  go_wp2_with fail
  refine HT.out.mono ?_
  rintro e w3 ⟨u3, rfl, hch, hb⟩
  have H3 := Lib.hid (H2.out.trans (hb.mono H2.out.size))
  have HQ := Lib.hid (HOb.out u3 w3 hch (HG.out.below H3.out HG.out.lt))
  clear hb hch
  go_wp2_with fail
  refine HQ.out.mono ?_
  rintro e w4 ⟨rfl, hb⟩
  have H4 := Lib.hid (H3.out.trans (hb.mono H3.out.size))
  clear hb
  have HA := Lib.hid (awake28 w4 (HG.out.below H4.out HG.out.lt))
  go_wp2_with (go_at_call 7; refine HA.out.mono ?_; rintro e w5 ⟨rfl, hb⟩; have H5 := Lib.hid (H4.out.trans (hb.mono H4.out.size)); clear hb)
  go_ret
  exact ⟨rfl, H5.out⟩

end Go.Proofs.YtidpbinhcfbpmaaDoor.Errs
