import Derived.Test.YtpkkomifenlkaaaGreatGapAllMath
import Derived.Test.YtpkkomifenlkaaaGreatGap4
import Derived.Deep.QuietTactic
import Derived.BigQuiet
import Derived.IntWalk
import Derived.Test.YtpkkomifenlkaaaGreatGap10
import Derived.Test.YtpkkomifenlkaaaGreatAppendAny
import Derived.Test.YtpkkomifenlkaaaGreatLastHeld
import Derived.Deep.CutBlock
import Derived.Test.YtpkkomifenlkaaaGreatGapC
import Derived.Test.YtpkkomifenlkaaaGreatRows0
import Derived.Deep.AppendLies
/- gap: the page's answers. -/
namespace Go.Proofs.YtpkkomifenlkaaaGreat.Gm

theorem lng_eq : ∀ (c : Nat) (L : List Int) (at_ : Nat), at_ + c < L.length → (∀ t, t < c → L.getD (at_ + t + 1) 0 - L.getD (at_ + t) 0 = 1) →
    (L.length ≤ at_ + c + 1 ∨ L.getD (at_ + c + 1) 0 - L.getD (at_ + c) 0 ≠ 1) → lng (L.drop at_) = c + 1
  | 0, L, i, h, _, h2 => by
    rw [List.drop_eq_getElem_cons (by omega)]
    by_cases h3 : i + 1 < L.length
    · rw [List.drop_eq_getElem_cons h3]
      have h4 := h2.resolve_left (by omega)
      have hi : i < L.length := by omega
      have e1 : L.getD (i + 1) 0 = L[i + 1] := by simp [List.getD_eq_getElem?_getD, h3]
      have e2 : L.getD i 0 = L[i] := by simp [List.getD_eq_getElem?_getD, hi]
      simp only [Nat.add_zero, e1, e2] at h4
      show (if L[i + 1] - L[i] = 1 then _ else 1) = _
      rw [if_neg h4]
    · rw [List.drop_eq_nil_of_le (by omega)]
      rfl
  | c + 1, L, i, h, h1, h2 => by
    have ih := lng_eq c L (i + 1) (by omega) (fun t ht => by have := h1 (t + 1) (by omega); rwa [show i + (t + 1) + 1 = i + 1 + t + 1 by omega, show i + (t + 1) = i + 1 + t by omega] at this) (by rw [show i + 1 + c + 1 = i + (c + 1) + 1 by omega, show i + 1 + c = i + (c + 1) by omega]; exact h2)
    rw [List.drop_eq_getElem_cons (by omega), List.drop_eq_getElem_cons (by omega : i + 1 < L.length)]
    rw [List.drop_eq_getElem_cons (by omega : i + 1 < L.length)] at ih
    have h4 := h1 0 (by omega)
    have hi : i < L.length := by omega
    have hi1 : i + 1 < L.length := by omega
    have e1 : L.getD (i + 1) 0 = L[i + 1] := by simp [List.getD_eq_getElem?_getD, hi1]
    have e2 : L.getD i 0 = L[i] := by simp [List.getD_eq_getElem?_getD, hi]
    simp only [Nat.add_zero, e1, e2] at h4
    show (if L[i + 1] - L[i] = 1 then _ else 1) = _
    rw [if_pos h4, ih]
def isStart (L : List Int) (a : Nat) : Bool := a == 0 || decide (L.getD a 0 - L.getD (a - 1) 0 ≠ 1)
def rowsF (L : List Int) (n : Nat) : List R := ((List.range n).filter (isStart L)).map fun a => (L.getD a 0, (lng (L.drop a) : Int))
theorem rowsF_succ (L : List Int) (n : Nat) : rowsF L (n + 1) = rowsF L n ++ if isStart L n then [(L.getD n 0, (lng (L.drop n) : Int))] else [] := by
  unfold rowsF
  rw [List.range_succ, List.filter_append, List.map_append]
  congr 1
  cases h : isStart L n <;> simp [h]
theorem rowsF_len (L : List Int) (n : Nat) : (rowsF L n).length ≤ n := by
  unfold rowsF
  have := List.length_filter_le (isStart L) (List.range n)
  simpa using this
theorem run_get (x : R) (i : Nat) (h : (i : Int) < x.2) : (runL x).getD i 0 = x.1 + (i : Int) := by
  unfold runL
  have : i < x.2.toNat := by omega
  simp [List.getD_eq_getElem?_getD, this]
theorem rowsF_exp : ∀ {ls : List R}, Srt ls → rowsF (expd ls) (expd ls).length = ls
  | [], _ => rfl
  | x :: ls, h => by
    have hr := List.pairwise_cons.1 h.rise
    have hs : Srt ls := ⟨fun y hy => h.ok y (by simp [hy]), hr.2⟩
    have hx := h.ok x (by simp)
    have ih := rowsF_exp hs
    have hl := run_len hx
    have hlg := lng_exp h
    have hlow : ∀ m ∈ expd ls, x.1 + x.2 < m := fun m hm => by
      obtain ⟨y, hy, hi⟩ := mem_exp.1 hm
      have := hr.1 y hy
      unfold In at hi
      omega
    obtain ⟨t, ht⟩ := exp_head (ls := ls) hx
    have h1x : 1 ≤ x.2 := hx.2.1
    obtain ⟨M, hM⟩ : ∃ M, M = expd ls := ⟨_, rfl⟩
    obtain ⟨n, hn⟩ : ∃ n, n = (runL x).length := ⟨_, rfl⟩
    rw [exp_cons, ← hM] at hlg ht ⊢
    rw [← hM] at ih hlow
    have hn1 : 1 ≤ n := by omega
    have g1 : ∀ i, i < n → (runL x ++ M).getD i 0 = x.1 + (i : Int) := fun i hi => by
      rw [List.getD_eq_getElem?_getD, List.getElem?_append_left (by omega), ← List.getD_eq_getElem?_getD]
      exact run_get x i (by omega)
    have g2 : ∀ i, (runL x ++ M).getD (n + i) 0 = M.getD i 0 := fun i => by
      rw [List.getD_eq_getElem?_getD, List.getElem?_append_right (by omega), hn, Nat.add_sub_cancel_left, ← List.getD_eq_getElem?_getD]
    have s1 : (List.range n).filter (isStart (runL x ++ M)) = [0] := by
      obtain ⟨k, rfl⟩ : ∃ k, n = k + 1 := ⟨n - 1, by omega⟩
      rw [List.range_succ_eq_map, List.filter_cons, if_pos (by simp [isStart])]
      congr 1
      rw [List.filter_eq_nil_iff]
      intro a ha
      obtain ⟨b, hb, rfl⟩ := List.mem_map.1 ha
      rw [List.mem_range] at hb
      unfold isStart
      rw [g1 _ (by omega), g1 _ (by omega)]
      simp
      omega
    have s2 : ((List.range M.length).map (n + ·)).filter (isStart (runL x ++ M)) = ((List.range M.length).filter (isStart M)).map (n + ·) := by
      rw [List.filter_map]
      congr 1
      apply List.filter_congr
      intro b hb
      rw [List.mem_range] at hb
      show isStart (runL x ++ M) (n + b) = isStart M b
      unfold isStart
      rw [g2]
      by_cases e : b = 0
      · subst e
        have h2 : (runL x ++ M).getD (n + 0 - 1) 0 = x.1 + ((n - 1 : Nat) : Int) := g1 _ (by omega)
        rw [h2]
        have h3 := hlow (M.getD 0 0) (by rw [List.getD_eq_getElem?_getD]; simp [hb])
        have h5 : M.getD 0 0 - (x.1 + ((n - 1 : Nat) : Int)) ≠ 1 := by omega
        rw [decide_eq_true h5]
        simp
      · rw [show n + b - 1 = n + (b - 1) by omega, g2]
        have h2 : (n + b == 0) = false := by simp; omega
        have h3 : (b == 0) = false := by simp; omega
        rw [h2, h3]
    unfold rowsF
    rw [List.length_append, ← hn, List.range_add, List.filter_append, List.map_append, s1, s2, List.map_cons, List.map_nil, List.map_map]
    rw [List.drop_zero, hlg, g1 0 (by omega)]
    show (x.1 + 0, x.2) :: _ = _
    rw [Int.add_zero]
    congr 1
    have e : ((List.range M.length).filter (isStart M)).map ((fun a => ((runL x ++ M).getD a 0, (lng ((runL x ++ M).drop a) : Int))) ∘ (n + ·)) = rowsF M M.length := by
      unfold rowsF
      apply List.map_congr_left
      intro b _
      show ((runL x ++ M).getD (n + b) 0, (lng ((runL x ++ M).drop (n + b)) : Int)) = _
      rw [g2, List.drop_append, List.drop_eq_nil_of_le (by omega), List.nil_append]
      rw [show n + b - (runL x).length = b by omega]
    rw [e]
    exact ih
end Go.Proofs.YtpkkomifenlkaaaGreat.Gm
/- gap: the page's heap: Has, long. -/
namespace Go.Proofs.YtpkkomifenlkaaaGreat.Gp
open Go Go.RowKit Gm

abbrev TQh : Nat := 90
abbrev TU : Nat := 22
def uc (L : List Int) : List Value := L.map (Value.int .u64)
theorem uc_len (L : List Int) : (uc L).length = L.length := by simp [uc]
/-- the page's heap in block Q has the numbers L -/
structure QH (B : Nat) (W : World) (Q : Nat) (v : Value) (L : List Int) : Prop where
  box : W.heap[Q]? = some (.cells #[v] TQh (0, 0))
  low : B ≤ Q
  row : W.ownsRow B TU 1 v L.length (uc L)
  few : L.length ≤ 900
  rise : L.Pairwise (· < ·)
  bd : ∀ n ∈ L, 0 ≤ n ∧ n ≤ 18446744073709551614
theorem QH.lt {B Q : Nat} {W : World} {v : Value} {L : List Int} (h : QH B W Q v L) : Q < W.heap.size := (Array.getElem?_eq_some_iff.1 h.box).1
theorem QH.form {B Q : Nat} {W : World} {v : Value} {L : List Int} (h : QH B W Q v L) : ∃ A c, v = .slice A L.length c := own_form h.row
/-- a cell of the row -/
theorem QH.cell {B Q c : Nat} {W : World} {A : Option Addr} {L : List Int} (h : QH B W Q (.slice A L.length c) L) (i : Nat) (hi : i < L.length) : ∃ g, A = some ⟨g, 0, none⟩ ∧ B ≤ g ∧ g < W.heap.size ∧ W.cell? ⟨g, i, none⟩ = some (.int .u64 (L.getD i 0)) := by
  rcases h.row.2 with ⟨h2, h3⟩ | ⟨g, cap, cur, hv, hg, hh, h1, h2, h3, h4⟩
  · omega
  · injection hv with hv
    refine ⟨g, hv, hg, (Array.getElem?_eq_some_iff.1 hh).1, ?_⟩
    have e : (uc L)[i]? = some (.int .u64 (L.getD i 0)) := by simp [uc, List.getD_eq_getElem?_getD, hi]
    rw [← h4, List.getElem?_take_of_lt (by omega)] at e
    simp only [World.cell?, hh]
    simpa using e
set_option maxRecDepth 20000 in
theorem qhas_any (B Q : Nat) (v : Value) (L : List Int) (n : Int) (W : World) (h : QH B W Q v L) : Calls Tryz.prog 56 #[.pointer (some ⟨Q, 0, none⟩), .int .u64 n] W fun e w' => e = .returned (.bool (decide (n ∈ L))) ∧ w' = W := by
  obtain ⟨A, c, rfl⟩ := h.form
  have c0 := cell_of_row W Q 0 _ _ (0, 0) h.box
  have hfew := h.few
  have HQ := Lib.hid h
  obtain ⟨m, hm⟩ : ∃ m, m = L.length := ⟨_, rfl⟩
  have HM := Lib.hid hm
  rw [← hm] at c0 hfew
  clear h hm
  go_enter Tryz.func56, Tryz.ntmps56
  go_wp2
  go_loopw [5] (fun i wr => ∃ k : Nat, i = .int .i64 (k : Int) ∧ k ≤ m ∧ Hid (∀ j, j < k → L.getD j 0 ≠ n) ∧ wr = W) (fun i _ => m - (intOf i).toNat)
  case atStart => exact ⟨0, rfl, Nat.zero_le _, Lib.hid (fun j hj => by omega), rfl⟩
  case round =>
    obtain ⟨k, rfl, hk, HN, rfl⟩ := hrel
    by_cases hlt : k < m
    · obtain ⟨g, rfl, -, -, hc⟩ := HQ.out.cell k (by rw [← HM.out]; exact hlt)
      obtain ⟨x, hx⟩ : ∃ x, x = L.getD k 0 := ⟨_, rfl⟩
      rw [← hx] at hc
      have HX := Lib.hid hx
      clear hx
      by_cases hxn : x = n
      · have hin : decide (n ∈ L) = true := by
          rw [decide_eq_true_iff, ← hxn, HX.out, List.getD_eq_getElem?_getD, List.getElem?_eq_getElem (by rw [← HM.out]; exact hlt)]
          exact List.getElem_mem _
        have HIn := Lib.hid hin
        clear hin
        subst hxn
        go_wp2
        go_ret
        exact ⟨by rw [HIn.out]; rfl, rfl⟩
      · have HXn := Lib.hid hxn
        have hxb : (x == n) = false := by simpa using hxn
        clear hxn
        go_wp2
        exact ⟨⟨k + 1, by go_num, by omega, Lib.hid fun j hj => by
          by_cases e : j = k
          · subst e; rw [← HX.out]; exact HXn.out
          · exact HN.out j (by omega), trivial⟩, by simp [intOf]; omega⟩
    · have hin : decide (n ∈ L) = false := by
        rw [decide_eq_false_iff_not]
        intro hn
        obtain ⟨j, hj, rfl⟩ := List.mem_iff_getElem.1 hn
        exact HN.out j (by rw [← HM.out] at hj; omega) (by simp [List.getD_eq_getElem?_getD, hj])
      have HIn := Lib.hid hin
      clear hin
      go_wp2
      go_ret
      exact ⟨by rw [HIn.out]; rfl, rfl⟩
theorem rise_get {L : List Int} (h : L.Pairwise (· < ·)) (i : Nat) (hi : i + 1 < L.length) : L.getD i 0 < L.getD (i + 1) 0 := by
  have := List.pairwise_iff_getElem.1 h i (i + 1) (by omega) hi (by omega)
  simpa [List.getD_eq_getElem?_getD, hi, (by omega : i < L.length)] using this
theorem QH.getBd {B Q : Nat} {W : World} {v : Value} {L : List Int} (h : QH B W Q v L) (i : Nat) (hi : i < L.length) : 0 ≤ L.getD i 0 ∧ L.getD i 0 ≤ 18446744073709551614 := by
  have : L.getD i 0 ∈ L := by rw [List.getD_eq_getElem?_getD, List.getElem?_eq_getElem hi]; exact List.getElem_mem _
  exact h.bd _ this
set_option maxRecDepth 20000 in
set_option maxHeartbeats 4000000 in
theorem qlong_any (B Q : Nat) (v : Value) (L : List Int) (a : Nat) (ha : a < L.length) (W : World) (h : QH B W Q v L) : Calls Tryz.prog 57 #[.pointer (some ⟨Q, 0, none⟩), .int .i64 (a : Int)] W fun e w' => e = .returned (.int .u64 (lng (L.drop a) : Int)) ∧ ∃ q, w' = W.drewN q := by
  obtain ⟨A, c, rfl⟩ := h.form
  have c0 := cell_of_row W Q 0 _ _ (0, 0) h.box
  have hfew := h.few
  have HQ := Lib.hid h
  obtain ⟨g, rfl, -, -, -⟩ := h.cell a ha
  obtain ⟨m, hm⟩ : ∃ m, m = L.length := ⟨_, rfl⟩
  have HM := Lib.hid hm
  rw [← hm] at c0 hfew ha
  have hC : Hid (∀ i, i < m → W.cell? ⟨g, i, none⟩ = some (.int .u64 (L.getD i 0)) ∧ 0 ≤ L.getD i 0 ∧ L.getD i 0 ≤ 18446744073709551614) := Lib.hid fun i hi => by
    obtain ⟨g2, e, -, -, hc⟩ := HQ.out.cell i (by rw [← HM.out]; exact hi)
    obtain rfl : g = g2 := by injection e with e; injection e
    exact ⟨hc, HQ.out.getBd i (by rw [← HM.out]; exact hi)⟩
  clear h hm
  obtain ⟨r, hr⟩ : ∃ r : Int, r = (lng (L.drop a) : Int) := ⟨_, rfl⟩
  rw [← hr]
  have HR := Lib.hid hr
  clear hr
  go_enter Tryz.func57, Tryz.ntmps57
  go_wp2
  go_loopw [5, 6] (fun s i wr => ∃ k q : Nat, s = .int .u64 ((k : Int) + 1) ∧ i = .int .i64 ((a : Int) + 1 + (k : Int)) ∧ a + k < m ∧ Hid (∀ t, t < k → L.getD (a + t + 1) 0 - L.getD (a + t) 0 = 1) ∧ wr = W.drewN q) (fun _ i _ => m + 1 - (intOf i).toNat)
  case atStart => exact ⟨0, 0, rfl, by rw [show (a : Int) + 1 + ((0 : Nat) : Int) = (a : Int) + 1 by omega], by omega, Lib.hid (fun t ht => by omega), rfl⟩
  case round =>
    obtain ⟨k, q, rfl, rfl, hk, HN, rfl⟩ := hrel
    have e0 : (a : Int) + 1 + (k : Int) = ((a + k + 1 : Nat) : Int) := by omega
    have e1 : ((a + k + 1 : Nat) : Int) - 1 = ((a + k : Nat) : Int) := by omega
    rw [e0]
    by_cases hlt : a + k + 1 < m
    · have hc1 := hC.out (a + k + 1) hlt
      have hc2 := hC.out (a + k) (by omega)
      have hri := rise_get HQ.out.rise (a + k) (by rw [← HM.out]; exact hlt)
      have HRel := HN
      obtain ⟨x, hx⟩ : ∃ x, x = L.getD (a + k + 1) 0 := ⟨_, rfl⟩
      obtain ⟨y, hy⟩ : ∃ y, y = L.getD (a + k) 0 := ⟨_, rfl⟩
      rw [← hx] at hc1 hri
      rw [← hy] at hc2 hri
      have HXY := Lib.hid (And.intro hx hy)
      have d1 := hc1.1
      have d2 := hc2.1
      have b1 := hc1.2.1
      have b2 := hc1.2.2
      have b3 := hc2.2.1
      have hw : IntKind.u64.wrap (x - y) = x - y := IntWalk.u64_in _ (by omega)
      have hlz : decide (((a + k + 1 : Nat) : Int) < (m : Int)) = true := by simp; omega
      obtain ⟨p, hp⟩ : ∃ p, p = a + k + 1 := ⟨_, rfl⟩
      obtain ⟨p1, hp1⟩ : ∃ p1, p1 = a + k := ⟨_, rfl⟩
      rw [← hp] at d1 hlz e1 ⊢
      rw [← hp1] at d2 e1
      have HP := Lib.hid (And.intro hp hp1)
      have hpm : (p : Int) < (m : Int) := by omega
      have hpm1 : (p1 : Int) < (m : Int) := by omega
      have hp0 : (0 : Int) ≤ (p : Int) - 1 := by omega
      have hwp : IntKind.i64.wrap ((p : Int) - 1) = (p1 : Int) := by rw [e1]; exact IntWalk.i64_in _ (by omega)
      clear hc1 hc2 hx hy hp hp1 e0
      by_cases hd : x - y = 1
      · have hdb : (x - y == 1) = true := by simpa using hd
        have HD := Lib.hid hd
        clear hd hri
        go_wp2_with fail
        go_quiet (fail)
        clear hw hwp hdb d1 d2
        go_wp2
        go_roundw
        case rel => exact ⟨k + 1, _, by go_num, by rw [HP.out.1]; push_cast; congr 1; omega, by omega, Lib.hid fun t ht => by
          by_cases e : t = k
          · subst e; have := HD.out; rw [HXY.out.1, HXY.out.2] at this; exact this
          · exact HN.out t (by omega), rfl⟩
        case measure => simp [intOf]; omega
      · have hdb : (x - y == 1) = false := by simpa using hd
        have HD := Lib.hid hd
        clear hd hri
        go_wp2_with fail
        go_quiet (fail)
        clear hw hwp hdb d1 d2
        go_wp2
        go_ret
        refine ⟨?_, _, World.drewN_drewN _ _ _⟩
        have e := lng_eq k L a (by rw [← HM.out]; exact hk) HN.out (Or.inr (by have := HD.out; rw [HXY.out.1, HXY.out.2] at this; exact this))
        rw [HR.out, e]
        rfl
    · have hlz : decide (((a + k + 1 : Nat) : Int) < (m : Int)) = false := by simp; omega
      obtain ⟨p, hp⟩ : ∃ p, p = a + k + 1 := ⟨_, rfl⟩
      rw [← hp] at hlz ⊢
      have hlz2 : decide (p < m) = false := by simp; omega
      have HP := Lib.hid hp
      clear hp e0 e1
      go_wp2_with fail
      go_quiet (fail)
      go_wp2
      go_ret
      refine ⟨?_, _, World.drewN_drewN _ _ _⟩
      have e := lng_eq k L a (by rw [← HM.out]; exact hk) HN.out (Or.inl (by rw [← HM.out]; omega))
      rw [HR.out, e]
      rfl
end Go.Proofs.YtpkkomifenlkaaaGreat.Gp
/- gap: the page's Put. -/
namespace Go.Proofs.YtpkkomifenlkaaaGreat.Gp
open Go Go.RowKit Gm

theorem infoU : (Tryz.prog.info? TU).map (fun i => (i.zero, i.size, i.bytes)) = some (some (.int .u64 0), 1, 8) := by kernel_rfl
theorem uc_app (a b : List Int) : uc (a ++ b) = uc a ++ uc b := by simp [uc]
theorem uc_one (l : List Int) : ∀ u ∈ uc l, u.oneCell' = true := by
  intro u hu
  obtain ⟨n, _, rfl⟩ := List.mem_map.1 hu
  rfl
theorem own_lt {W : World} {B e size n : Nat} {v : Value} {xs : List Value} (h : W.ownsRow B e size v n xs) : ∀ k, v.ownBlock = some k → B ≤ k ∧ k < W.heap.size := by
  intro k hk
  rcases h.2 with ⟨h2, -⟩ | ⟨g, cap, cur, hv, hg, hh, r⟩
  · rw [h2] at hk; cases hk
  · rw [hv] at hk
    have : g = k := by injection hk
    rw [← this]
    exact ⟨hg, (Array.getElem?_eq_some_iff.1 hh).1⟩
theorem QH.below {B Q : Nat} {W V : World} {v : Value} {L : List Int} (h : QH B W Q v L) (hb : Below W.heap.size W V) : QH B V Q v L := by
  refine ⟨(hb.block _ h.lt).trans h.box, h.low, ⟨h.row.1, ?_⟩, h.few, h.rise, h.bd⟩
  rcases h.row.2 with h2 | ⟨g, cap, cur, hv, hg, hh, r⟩
  · exact Or.inl h2
  · exact Or.inr ⟨g, cap, cur, hv, hg, (hb.block g (Array.getElem?_eq_some_iff.1 hh).1).trans hh, r⟩
/-- a new row is stored -/
theorem QH.ended {B Q : Nat} {W X : World} {v v' : Value} {L L' : List Int} (h : QH B W Q v L) (hb : Below W.heap.size W X) (ho : X.ownsRow W.heap.size TU 1 v' L'.length (uc L')) (hf : L'.length ≤ 900) (hr : L'.Pairwise (· < ·)) (hbd : ∀ n ∈ L', 0 ≤ n ∧ n ≤ 18446744073709551614) :
    QH B (X.setCell ⟨Q, 0, none⟩ v') Q v' L' ∧ Fr Q v v' W (X.setCell ⟨Q, 0, none⟩ v') := by
  have hl := own_lt ho
  have hQ := h.lt
  have hle : B ≤ W.heap.size := by have := h.low; omega
  refine ⟨⟨(setCell_at _ ((hb.block _ hQ).trans h.box)).trans rfl, h.low, ?_, hf, hr, hbd⟩, ⟨hb.os, hb.tape, hb.output, by simpa using hb.size, fun k hk h1 _ => (Below.heap_setCell _ _ _ _ h1).trans (hb.block k hk), Or.inr fun k hk => (hl k hk).1⟩⟩
  have h2 : (X.setCell ⟨Q, 0, none⟩ v').ownsRow W.heap.size TU 1 v' L'.length (uc L') := ownsRow_setCell_other ho (fun e => by have := (hl Q e).1; omega) _
  refine ⟨h2.1, ?_⟩
  rcases h2.2 with h3 | ⟨g, cap, cur, hv, hg, r⟩
  · exact Or.inl h3
  · exact Or.inr ⟨g, cap, cur, hv, by omega, r⟩
/-- the row, parted -/
structure Pts (V : World) (A A2 : Option Addr) (n c j : Nat) (ls : List Int) : Prop where
  nc : n ≤ c
  no1 : A = none → j = 0 ∧ c = 0
  no2 : A2 = none → n - j = 0 ∧ c - j = 0
  f1 : ∀ ad, A = some ad → ∀ q u, (uc (ls.take j))[q]? = some u → V.cell? (ad.add q) = some u
  f2 : ∀ ad, A2 = some ad → ∀ q u, (uc (ls.drop j))[q]? = some u → V.cell? (ad.add q) = some u
theorem QH.pts {B Q n c : Nat} {V : World} {A : Option Addr} {ls : List Int} (h : QH B V Q (.slice A n c) ls) (hn : n = ls.length) (j : Nat) (hj : j ≤ n) : Pts V A (if c = j then A else Option.map (fun x => x.add j) A) n c j ls := by
  have hall := fun g hg => World.ownsRow.cells h.row (g := g) hg
  rcases h.row.2 with ⟨h3, h4⟩ | ⟨g, cap, cur, hv, hg, hh, hnc, hm, hs, ht⟩
  · injection h3 with h5 h6 h7
    subst h5 h6 h7
    obtain rfl : j = 0 := by omega
    have hl : ls = [] := List.eq_nil_of_length_eq_zero hn.symm
    subst hl
    exact ⟨Nat.le_refl _, fun _ => ⟨rfl, rfl⟩, fun _ => ⟨rfl, rfl⟩, fun _ h => (by cases h), fun _ h => (by cases h)⟩
  · injection hv with h5 h6 h7
    subst h5 h6 h7
    have hall2 := hall g rfl
    have e0 : ls = ls.take j ++ ls.drop j := (List.take_append_drop j ls).symm
    have e1 : uc ls = uc (ls.take j) ++ uc (ls.drop j) := by rw [← uc_app, ← e0]
    have l1 : (uc (ls.take j)).length = j := by rw [uc_len, List.length_take, Nat.min_eq_left (by omega)]
    refine ⟨by omega, fun h => by (cases h), fun h => ?_, fun ad h q u hu => ?_, fun ad h q u hu => ?_⟩
    · by_cases hc : c = j
      · rw [if_pos hc] at h; cases h
      · rw [if_neg hc] at h; cases h
    · injection h with h; subst h
      refine hall2 q u ?_
      rw [e1]
      have hq := (List.getElem?_eq_some_iff.1 hu).1
      rw [List.getElem?_append_left hq]; exact hu
    · by_cases hc : c = j
      · have : ls.drop j = [] := List.drop_eq_nil_of_le (by omega)
        rw [this] at hu
        cases hu
      · rw [if_neg hc] at h
        injection h with h; subst h
        have := hall2 (j + q) u (by rw [e1, List.getElem?_append_right (by omega), l1, Nat.add_sub_cancel_left]; exact hu)
        rw [show ((⟨g, 0, none⟩ : Addr).add j).add q = (⟨g, 0, none⟩ : Addr).add (j + q) by unfold Addr.add; by_cases hj0 : j = 0 <;> by_cases hq0 : q = 0 <;> simp [hj0, hq0] <;> omega]
        exact this
theorem Pts.below {V V' : World} {A A2 : Option Addr} {n c j : Nat} {ls : List Int} (h : Pts V A A2 n c j ls) (hb : Below V.heap.size V V') : Pts V' A A2 n c j ls :=
  ⟨h.nc, h.no1, h.no2, fun ad ha q u hu => (hb.cell (World.block_lt_of_cell? _ _ (h.f1 ad ha q u hu))).trans (h.f1 ad ha q u hu), fun ad ha q u hu => (hb.cell (World.block_lt_of_cell? _ _ (h.f2 ad ha q u hu))).trans (h.f2 ad ha q u hu)⟩
theorem tw_at (n : Int) : ∀ (L : List Int) (k : Nat), k ≤ L.length → (∀ j, j < k → L.getD j 0 < n) → (k = L.length ∨ ¬ L.getD k 0 < n) → L.takeWhile (fun m => decide (m < n)) = L.take k ∧ L.dropWhile (fun m => decide (m < n)) = L.drop k
  | [], k, hk, _, _ => by
    have : k = 0 := by simpa using hk
    subst this
    exact ⟨rfl, rfl⟩
  | x :: L, 0, _, _, h2 => by
    have h3 : ¬ x < n := by
      rcases h2 with h2 | h2
      · simp at h2
      · exact h2
    have h4 : decide (x < n) = false := by simpa using h3
    rw [List.takeWhile_cons, List.dropWhile_cons, h4]
    exact ⟨rfl, rfl⟩
  | x :: L, k + 1, hk, h1, h2 => by
    have h3 : decide (x < n) = true := by have := h1 0 (by omega); simpa using this
    have ih := tw_at n L k (by simpa using hk) (fun j hj => h1 (j + 1) (by omega)) (h2.imp (fun h => by simpa using h) (fun h => h))
    rw [List.takeWhile_cons, List.dropWhile_cons, h3]
    exact ⟨by rw [if_pos rfl, ih.1]; rfl, by rw [if_pos rfl, ih.2]; rfl⟩
theorem qput_top (Q : Nat) (W : World) : Calls Tryz.prog 43 #[.pointer (some ⟨Q, 0, none⟩), .int .u64 18446744073709551615] W fun e w' => e = .returned (.int .i64 5) ∧ w' = W := by
  go_enter Tryz.func43, Tryz.ntmps43
  go_wp2
  go_ret
  exact ⟨rfl, rfl⟩
set_option maxRecDepth 20000 in
theorem qput_has (B Q : Nat) (v : Value) (L : List Int) (n : Int) (W : World) (h : QH B W Q v L) (hn : n ≠ 18446744073709551615) (hm : n ∈ L) : Calls Tryz.prog 43 #[.pointer (some ⟨Q, 0, none⟩), .int .u64 n] W fun e w' => e = .returned (.int .i64 7) ∧ w' = W := by
  have HH := Lib.hid (qhas_any B Q v L n W h)
  rw [decide_eq_true hm] at HH
  clear h hm
  go_enter Tryz.func43, Tryz.ntmps43
  go_wp2_with fail
  refine HH.out.mono ?_
  rintro _ w1 ⟨rfl, rfl⟩
  go_wp2
  go_ret
  exact ⟨rfl, rfl⟩
set_option maxRecDepth 20000 in
set_option maxHeartbeats 8000000 in
theorem qput_go (B Q : Nat) (v : Value) (L : List Int) (n : Int) (W : World) (h : QH B W Q v L) (h0 : 0 ≤ n) (h1 : n ≤ 18446744073709551614) (hm : n ∉ L) (hf : L.length < 900) :
    Calls Tryz.prog 43 #[.pointer (some ⟨Q, 0, none⟩), .int .u64 n] W fun e w' => e = .returned (.int .i64 0) ∧ ∃ v', QH B w' Q v' (putL n L) ∧ Fr Q v v' W w' := by
  obtain ⟨i0, hi', hz0, hz1, hz2⟩ := info_partsN infoU
  have hn : n ≠ 18446744073709551615 := by omega
  have HH := Lib.hid (qhas_any B Q v L n W h)
  rw [decide_eq_false hm] at HH
  have hrise := putL_rise h.rise hm
  have hbd : ∀ x ∈ putL n L, 0 ≤ x ∧ x ≤ 18446744073709551614 := fun x hx => by
    rcases (mem_putL n x L).1 hx with rfl | hx
    · exact ⟨h0, h1⟩
    · exact h.bd x hx
  have HPl := Lib.hid (And.intro (show (putL n L).length ≤ 900 by rw [putL_len]; omega) (And.intro hrise hbd))
  obtain ⟨A, c, rfl⟩ := h.form
  have c0 := cell_of_row W Q 0 _ _ (0, 0) h.box
  have HQ := Lib.hid h
  obtain ⟨m, hmd⟩ : ∃ m, m = L.length := ⟨_, rfl⟩
  have HM : Hid (m = L.length) := Lib.hid hmd
  rw [← hmd] at c0 hf HQ ⊢
  clear h hmd hrise hbd hm
  go_enter Tryz.func43, Tryz.ntmps43
  go_wp2_with fail
  refine HH.out.mono ?_
  rintro _ w1 ⟨rfl, rfl⟩
  clear HH
  go_upto_block 0 with fail
  go_cut [5] from 11 to 30 (fun sv wx => ∃ k : Nat, sv = .int .i64 (k : Int) ∧ k ≤ m ∧ Hid (L.takeWhile (fun m => decide (m < n)) = L.take k ∧ L.dropWhile (fun m => decide (m < n)) = L.drop k) ∧ wx = w1)
  rotate_left
  · obtain ⟨k, rfl, hk, HTw, rfl⟩ := hcut
    have hk0 : (0 : Int) ≤ (k : Int) := by omega
    have hkm : (k : Int) ≤ (m : Int) := by omega
    have HE : Hid (putL n L = L.take k ++ ([n] ++ L.drop k) ∧ (putL n L).length ≤ 900 ∧ (putL n L).Pairwise (· < ·) ∧ ∀ x ∈ putL n L, 0 ≤ x ∧ x ≤ 18446744073709551614) := Lib.hid ⟨by unfold putL; rw [HTw.out.1, HTw.out.2]; rfl, HPl.out⟩
    clear HPl HTw
    have HQ8 := Lib.hid (HQ.out.below (Below.refl _ wc).drew)
    have HB8 : Hid (Below wc.heap.size wc wc.drew) := Lib.hid (Below.refl _ _).drew
    go_wp2
    refine wp_region_last (fun W => W.cell? ⟨Q, 0, none⟩ = some (.slice A m c)) 21 (by kernel_rfl) ?_
    generalize wc.drew = w8 at HQ8 HB8 ⊢
    have HS : Hid (∀ V, Below w8.heap.size w8 V → V.cell? ⟨Q, 0, none⟩ = some (.slice A m c)) := fun V hb => cell_of_row V Q 0 _ _ (0, 0) (HQ8.out.below hb).box
    have HP := Lib.hid (HQ8.out.pts HM.out k hk)
    have hkc : k ≤ c := by have := HP.out.nc; omega
    have hkc2 : (k : Int) ≤ (c : Int) := by omega
    have hmc2 : m ≤ c := HP.out.nc
    have hHeld := HS.out w8 (Below.refl _ _)
    refine wpL_take (i := 0) (oi := _) (v := ?_) [20, 19] rfl (by kernel_rfl) (by kernel_rfl) (by kernel_rfl) (by kernel_rfl) (by kernel_rfl) (fun _ _ _ h => h) (Or.inl ⟨by rfl, ?_⟩) (by assumption) ?_
    rotate_left
    · (intro W hSw; (try dsimp only at hSw); go_simp; try with_reducible rfl)
    try simp only [Act.put, List.getElem_toArray, List.getElem_cons_zero, List.setIfInBounds_toArray, List.set_cons_zero, List.set_cons_succ]
    refine wpL_take (i := 2) (oi := _) (v := ?_) [18, 11, 8, 7, 5, 4, 3] rfl (by kernel_rfl) (by kernel_rfl) (by kernel_rfl) (by kernel_rfl) (by kernel_rfl) (fun _ _ _ h => h) (Or.inl ⟨by rfl, ?_⟩) (by assumption) ?_
    rotate_left
    · (intro W hSw; (try dsimp only at hSw); go_simp; try with_reducible rfl)
    try simp only [Act.put, List.getElem_toArray, List.getElem_cons_succ, List.getElem_cons_zero, List.setIfInBounds_toArray, List.set_cons_zero, List.set_cons_succ]
    refine wpL_take (i := 3) (oi := _) (v := ?_) [18, 11, 8, 7, 5, 4] rfl (by kernel_rfl) (by kernel_rfl) (by kernel_rfl) (by kernel_rfl) (by kernel_rfl) (fun _ _ _ h => h) (Or.inl ⟨by rfl, ?_⟩) (by assumption) ?_
    rotate_left
    · (intro W hSw; (try dsimp only at hSw); go_simp; try with_reducible rfl)
    try simp only [Act.put, List.getElem_toArray, List.getElem_cons_succ, List.getElem_cons_zero, List.setIfInBounds_toArray, List.set_cons_zero, List.set_cons_succ]
    refine wpL_take (i := 4) (oi := _) (v := ?_) [18, 11, 8, 7, 5] rfl (by kernel_rfl) (by kernel_rfl) (by kernel_rfl) (by kernel_rfl) (by kernel_rfl) (fun _ _ _ h => h) (Or.inl ⟨by rfl, ?_⟩) (by assumption) ?_
    rotate_left
    · (intro W hSw; (try dsimp only at hSw); go_simp; try with_reducible rfl)
    try simp only [Act.put, List.getElem_toArray, List.getElem_cons_succ, List.getElem_cons_zero, List.setIfInBounds_toArray, List.set_cons_zero, List.set_cons_succ]
    refine wpL_take (i := 5) (oi := _) (v := ?_) [18, 11, 8, 7] rfl (by kernel_rfl) (by kernel_rfl) (by kernel_rfl) (by kernel_rfl) (by kernel_rfl) (fun _ _ _ h => h) (Or.inl ⟨by rfl, ?_⟩) (by assumption) ?_
    rotate_left
    · (intro W hSw; (try dsimp only at hSw); go_simp; try with_reducible rfl)
    try simp only [Act.put, List.getElem_toArray, List.getElem_cons_succ, List.getElem_cons_zero, List.setIfInBounds_toArray, List.set_cons_zero, List.set_cons_succ]
    refine wpL_take (i := 6) (oi := _) (v := ?_) [18, 11, 8, 7] rfl (by kernel_rfl) (by kernel_rfl) (by kernel_rfl) (by kernel_rfl) (by kernel_rfl) (fun _ _ _ h => h) (Or.inl ⟨by rfl, ?_⟩) (by assumption) ?_
    rotate_left
    · (intro W hSw; (try dsimp only at hSw); go_simp; try with_reducible rfl)
    try simp only [Act.put, List.getElem_toArray, List.getElem_cons_succ, List.getElem_cons_zero, List.setIfInBounds_toArray, List.set_cons_zero, List.set_cons_succ]
    refine wpL_take (i := 7) (oi := _) (v := ?_) [18, 11, 8] rfl (by kernel_rfl) (by kernel_rfl) (by kernel_rfl) (by kernel_rfl) (by kernel_rfl) (fun _ _ _ h => h) (Or.inl ⟨by rfl, ?_⟩) (by assumption) ?_
    rotate_left
    · (intro W hSw; (try dsimp only at hSw); go_simp; try with_reducible rfl)
    try simp only [Act.put, List.getElem_toArray, List.getElem_cons_succ, List.getElem_cons_zero, List.setIfInBounds_toArray, List.set_cons_zero, List.set_cons_succ]
    refine wpL_take (i := 9) (oi := _) (v := ?_) [18, 11, 10] rfl (by kernel_rfl) (by kernel_rfl) (by kernel_rfl) (by kernel_rfl) (by kernel_rfl) (fun _ _ _ h => h) (Or.inl ⟨by rfl, ?_⟩) (by assumption) ?_
    rotate_left
    · (intro W hSw; (try dsimp only at hSw); go_simp; try with_reducible rfl)
    try simp only [Act.put, List.getElem_toArray, List.getElem_cons_succ, List.getElem_cons_zero, List.setIfInBounds_toArray, List.set_cons_zero, List.set_cons_succ]
    refine wpL_take (i := 12) (oi := _) (v := ?_) [18, 17, 15, 14, 13] rfl (by kernel_rfl) (by kernel_rfl) (by kernel_rfl) (by kernel_rfl) (by kernel_rfl) (fun _ _ _ h => h) (Or.inl ⟨by rfl, ?_⟩) (by assumption) ?_
    rotate_left
    · (intro W hSw; (try dsimp only at hSw); go_simp; try with_reducible rfl)
    try simp only [Act.put, List.getElem_toArray, List.getElem_cons_succ, List.getElem_cons_zero, List.setIfInBounds_toArray, List.set_cons_zero, List.set_cons_succ]
    refine wpL_take (i := 13) (oi := _) (v := ?_) [18, 17, 15, 14] rfl (by kernel_rfl) (by kernel_rfl) (by kernel_rfl) (by kernel_rfl) (by kernel_rfl) (fun _ _ _ h => h) (Or.inl ⟨by rfl, ?_⟩) (by assumption) ?_
    rotate_left
    · (intro W hSw; (try dsimp only at hSw); go_simp; try with_reducible rfl)
    try simp only [Act.put, List.getElem_toArray, List.getElem_cons_succ, List.getElem_cons_zero, List.setIfInBounds_toArray, List.set_cons_zero, List.set_cons_succ]
    refine wpL_take (i := 14) (oi := _) (v := ?_) [18, 17, 15] rfl (by kernel_rfl) (by kernel_rfl) (by kernel_rfl) (by kernel_rfl) (by kernel_rfl) (fun _ _ _ h => h) (Or.inl ⟨by rfl, ?_⟩) (by assumption) ?_
    rotate_left
    · (intro W hSw; (try dsimp only at hSw); go_simp; try with_reducible rfl)
    try simp only [Act.put, List.getElem_toArray, List.getElem_cons_succ, List.getElem_cons_zero, List.setIfInBounds_toArray, List.set_cons_zero, List.set_cons_succ]
    refine wpL_take (i := 15) (oi := _) (v := ?_) [18, 17] rfl (by kernel_rfl) (by kernel_rfl) (by kernel_rfl) (by kernel_rfl) (by kernel_rfl) (fun _ _ _ h => h) (Or.inl ⟨by rfl, ?_⟩) (by assumption) ?_
    rotate_left
    · (intro W hSw; (try dsimp only at hSw); go_simp; try with_reducible rfl)
    try simp only [Act.put, List.getElem_toArray, List.getElem_cons_succ, List.getElem_cons_zero, List.setIfInBounds_toArray, List.set_cons_zero, List.set_cons_succ]
    refine wpL_take (i := 16) (oi := _) (v := ?_) [18, 17] rfl (by kernel_rfl) (by kernel_rfl) (by kernel_rfl) (by kernel_rfl) (by kernel_rfl) (fun _ _ _ h => h) (Or.inl ⟨by rfl, ?_⟩) (by assumption) ?_
    rotate_left
    · (intro W hSw; (try dsimp only at hSw); go_simp; try with_reducible rfl)
    try simp only [Act.put, List.getElem_toArray, List.getElem_cons_succ, List.getElem_cons_zero, List.setIfInBounds_toArray, List.set_cons_zero, List.set_cons_succ]
    refine wpL_take (i := 17) (oi := _) (v := ?_) [18] rfl (by kernel_rfl) (by kernel_rfl) (by kernel_rfl) (by kernel_rfl) (by kernel_rfl) (fun _ _ _ h => h) (Or.inl ⟨by rfl, ?_⟩) (by assumption) ?_
    rotate_left
    · (intro W hSw; (try dsimp only at hSw); go_simp; try with_reducible rfl)
    try simp only [Act.put, List.getElem_toArray, List.getElem_cons_succ, List.getElem_cons_zero, List.setIfInBounds_toArray, List.set_cons_zero, List.set_cons_succ]
    generalize hA2 : (if c = k then A else Option.map (fun x => x.add k) A) = A2 at HP ⊢
    clear hA2
    have HL1 : Hid ((uc (L.take k)).length = k * 1) := by show _ = _; rw [uc_len, List.length_take, Nat.min_eq_left (by have := HM.out; omega), Nat.mul_one]
    have HL2 : Hid ((uc (L.drop k)).length = (m - k) * 1) := by show _ = _; rw [uc_len, List.length_drop, ← HM.out, Nat.mul_one]
    clear hHeld
    have HB0 : Hid (Below w8.heap.size w8 w8) := Below.refl _ _
    refine wpL_ready (rs := [1, 10]) (by kernel_rfl) (by simp) ?_
    refine AllL.cons rfl (fun K hK => ?_) (AllL.cons rfl (fun K hK => ?_) AllL.nil)
    · simp only [List.getElem_toArray, List.getElem_cons_succ, List.getElem_cons_zero]
      rw [if_pos (by rfl)]
      go_simp
      refine hK.out _ _ (Or.inr (HS.out _ (HB0.out.alloc HB0.out.size (.cells #[] TU)))) ?_
      clear hK K
      try simp only [Act.put, List.getElem_toArray, List.getElem_cons_succ, List.getElem_cons_zero, List.setIfInBounds_toArray, List.set_cons_zero, List.set_cons_succ]
      obtain ⟨B3, hB3⟩ : ∃ b, b = w8.heap.size := ⟨_, rfl⟩
      obtain ⟨X1, hX1⟩ : ∃ V, V = w8.alloc (.cells #[] TU) := ⟨_, rfl⟩
      have HB2 : Hid (Below w8.heap.size w8 X1) := by rw [hX1]; exact HB0.out.alloc HB0.out.size _
      have O4 : Hid (X1.ownsRow w8.heap.size TU 1 (.slice (some ⟨B3, 0, none⟩) 0 0) 0 []) := by rw [hX1, hB3]; exact World.ownsRow_made w8 #[] 0 HB0.out.size (Nat.zero_le _) rfl
      rw [← hX1, ← hB3]
      clear hX1 hB3
      refine wpL_ready (rs := [8, 10]) (by kernel_rfl) (by simp) ?_
      refine AllL.cons rfl (fun K hK => ?_) (AllL.cons rfl (fun K hK => ?_) AllL.nil)
      · simp only [List.getElem_toArray, List.getElem_cons_succ, List.getElem_cons_zero]
        rw [if_pos (by rfl)]
        refine wp_append_any _ _ _ (by rfl) w8.heap.size TU i0 (.int .u64 0) 1 8 Tryz.underlying36 hi' hz0 hz1 hz2 rfl (by decide) _ _ _ (by rfl) O4.out A k c (uc (L.take k)) (by rfl) HL1.out (HP.out.below HB2.out).f1 HP.out.no1 (uc_one _) (by unfold maxLen; omega) (by omega) HB2.out.size ?_
        intro v8 X5 hown hg
        have HB6 : Hid (Below w8.heap.size w8 X5) := HB2.out.grown hg HB2.out.size fun k hk => (own_lt O4.out k hk).1
        have O7 := Lib.hid hown
        refine hK.out _ _ (Or.inr (HS.out _ HB6.out)) ?_
        clear hK K hown hg
        try simp only [Act.put, List.setIfInBounds_toArray, List.set_cons_zero, List.set_cons_succ]
        refine wpL_ready (rs := [10]) (by kernel_rfl) (by simp) ?_
        refine AllL.cons rfl (fun K hK => ?_) AllL.nil
        · simp only [List.getElem_toArray, List.getElem_cons_succ, List.getElem_cons_zero]
          rw [if_pos (by rfl)]
          go_simp
          refine hK.out _ _ (Or.inr (HS.out _ (HB6.out.alloc HB6.out.size (.cells #[.int .u64 n] TU)))) ?_
          clear hK K
          try simp only [Act.put, List.getElem_toArray, List.getElem_cons_succ, List.getElem_cons_zero, List.setIfInBounds_toArray, List.set_cons_zero, List.set_cons_succ]
          obtain ⟨B11, hB11⟩ : ∃ b, b = X5.heap.size := ⟨_, rfl⟩
          obtain ⟨X9, hX9⟩ : ∃ V, V = X5.alloc (.cells #[.int .u64 n] TU) := ⟨_, rfl⟩
          have HB10 : Hid (Below w8.heap.size w8 X9) := by rw [hX9]; exact HB6.out.alloc HB6.out.size _
          have NB12 : Hid (X9.heap[B11]? = some (.cells #[.int .u64 n] TU)) := by rw [hX9, hB11]; exact heap_alloc_new X5 _
          have O13 := Lib.hid (O7.out.alloc (.cells #[.int .u64 n] TU))
          rw [← hX9] at O13
          rw [← hX9, ← hB11]
          clear hX9 hB11
          refine wpL_ready (rs := [11]) (by kernel_rfl) (by simp) ?_
          refine AllL.cons rfl (fun K hK => ?_) AllL.nil
          · simp only [List.getElem_toArray, List.getElem_cons_succ, List.getElem_cons_zero]
            rw [if_pos (by rfl)]
            refine wp_append_any _ _ _ (by rfl) w8.heap.size TU i0 (.int .u64 0) 1 8 Tryz.underlying36 hi' hz0 hz1 hz2 rfl (by decide) _ _ _ (by rfl) O13.out (some ⟨B11, 0, none⟩) 1 1 [.int .u64 n] (by rfl) rfl (fun ad ha => by injection ha with ha; subst ha; exact World.news_of_block (cs := #[.int .u64 n]) NB12.out) (fun h => by cases h) (uc_one [n]) (by unfold maxLen; omega) (by omega) HB10.out.size ?_
            intro v17 X14 hown hg
            have HB15 : Hid (Below w8.heap.size w8 X14) := HB10.out.grown hg HB10.out.size fun k hk => (own_lt O13.out k hk).1
            have O16 := Lib.hid hown
            refine hK.out _ _ (Or.inr (HS.out _ HB15.out)) ?_
            clear hK K hown hg
            try simp only [Act.put, List.setIfInBounds_toArray, List.set_cons_zero, List.set_cons_succ]
            refine wpL_ready (rs := [18]) (by kernel_rfl) (by simp) ?_
            refine AllL.cons rfl (fun K hK => ?_) AllL.nil
            · simp only [List.getElem_toArray, List.getElem_cons_succ, List.getElem_cons_zero]
              rw [if_pos (by rfl)]
              refine wp_append_any _ _ _ (by rfl) w8.heap.size TU i0 (.int .u64 0) 1 8 Tryz.underlying36 hi' hz0 hz1 hz2 rfl (by decide) _ _ _ (by rfl) O16.out A2 (m - k) (c - k) (uc (L.drop k)) (by rfl) HL2.out (HP.out.below HB15.out).f2 HP.out.no2 (uc_one _) (by unfold maxLen; omega) (by omega) HB15.out.size ?_
              intro v21 X18 hown hg
              have HB19 : Hid (Below w8.heap.size w8 X18) := HB15.out.grown hg HB15.out.size fun k hk => (own_lt O16.out k hk).1
              have O20 := Lib.hid hown
              refine hK.out _ _ (Or.inr (HS.out _ HB19.out)) ?_
              clear hK K hown hg
              try simp only [Act.put, List.setIfInBounds_toArray, List.set_cons_zero, List.set_cons_succ]
              have hHeld := HS.out _ HB19.out
              refine wpL_take (i := 19) (oi := _) (v := ?_) [20] rfl (by kernel_rfl) (by kernel_rfl) (by kernel_rfl) (by kernel_rfl) (by kernel_rfl) (fun _ _ _ h => h) (Or.inl ⟨by rfl, ?_⟩) (by assumption) ?_
              rotate_left
              · (intro W hSw; (try dsimp only at hSw); go_simp; try with_reducible rfl)
              try simp only [Act.put, List.getElem_toArray, List.getElem_cons_succ, List.getElem_cons_zero, List.setIfInBounds_toArray, List.set_cons_zero, List.set_cons_succ]
              clear hHeld
              have hHeld := HS.out _ HB19.out
              refine wpL_take (i := 20) (oi := _) (v := ?_) [] rfl (by kernel_rfl) (by kernel_rfl) (by kernel_rfl) (by kernel_rfl) (by kernel_rfl) (fun _ _ _ h => h) (Or.inl ⟨by rfl, ?_⟩) (by assumption) ?_
              rotate_left
              · (intro W hSw; (try dsimp only at hSw); go_simp; try with_reducible rfl)
              try simp only [Act.put, List.getElem_toArray, List.getElem_cons_succ, List.getElem_cons_zero, List.setIfInBounds_toArray, List.set_cons_zero, List.set_cons_succ]
              clear hHeld
              refine wpL_ready (rs := [21]) (by kernel_rfl) (by simp) ?_
              refine AllL.cons rfl (fun K hK => ?_) AllL.nil
              · simp only [List.getElem_toArray, List.getElem_cons_succ, List.getElem_cons_zero]
                rw [if_pos (by rfl)]
                have q := cell_of_row X18 Q 0 _ _ (0, 0) (HQ8.out.below HB19.out).box
                have qf : X18.frozen? ⟨Q, 0, none⟩ = false := by simp [World.frozen?, (HQ8.out.below HB19.out).box]
                obtain ⟨A9, c9, hv9⟩ := own_form O20.out
                subst hv9
                go_simp
                refine hK.out _ _ (Or.inl rfl) ?_
                clear hK K q qf
                try simp only [Act.put, List.getElem_toArray, List.getElem_cons_succ, List.getElem_cons_zero, List.setIfInBounds_toArray, List.set_cons_zero, List.set_cons_succ]
                refine wpL_done (by kernel_rfl) ?_ _
                have hen := HQ8.out.ended HB19.out (L' := putL n L) (by have ho := O20.out; rw [HE.out.1, uc_app, uc_app, show uc [n] = [Value.int .u64 n] from rfl]; rw [show (L.take k ++ ([n] ++ L.drop k)).length = 0 + k + 1 + (m - k) by have := HM.out; simp [List.length_take, List.length_drop]; omega]; simpa only [List.nil_append, List.append_assoc] using ho) HE.out.2.1 HE.out.2.2.1 HE.out.2.2.2
                simp only [Nat.zero_add] at hen
                have HEn := Lib.hid hen
                clear hen
                go_wp2
                go_ret
                exact ⟨rfl, _, HEn.out.1, (Fr.of_below HB8.out).trans HEn.out.2⟩
      · simp only [List.getElem_toArray, List.getElem_cons_succ, List.getElem_cons_zero]
        rw [if_pos (by rfl)]
        go_simp
        refine hK.out _ _ (Or.inr (HS.out _ (HB2.out.alloc HB2.out.size (.cells #[.int .u64 n] TU)))) ?_
        clear hK K
        try simp only [Act.put, List.getElem_toArray, List.getElem_cons_succ, List.getElem_cons_zero, List.setIfInBounds_toArray, List.set_cons_zero, List.set_cons_succ]
        obtain ⟨B24, hB24⟩ : ∃ b, b = X1.heap.size := ⟨_, rfl⟩
        obtain ⟨X22, hX22⟩ : ∃ V, V = X1.alloc (.cells #[.int .u64 n] TU) := ⟨_, rfl⟩
        have HB23 : Hid (Below w8.heap.size w8 X22) := by rw [hX22]; exact HB2.out.alloc HB2.out.size _
        have NB25 : Hid (X22.heap[B24]? = some (.cells #[.int .u64 n] TU)) := by rw [hX22, hB24]; exact heap_alloc_new X1 _
        have O26 := Lib.hid (O4.out.alloc (.cells #[.int .u64 n] TU))
        rw [← hX22] at O26
        have HNE : Hid (B24 ≠ B3) := by have := (own_lt O4.out B3 rfl).2; show _ ≠ _; omega
        rw [← hX22, ← hB24]
        clear hX22 hB24
        refine wpL_ready (rs := [8]) (by kernel_rfl) (by simp) ?_
        refine AllL.cons rfl (fun K hK => ?_) AllL.nil
        · simp only [List.getElem_toArray, List.getElem_cons_succ, List.getElem_cons_zero]
          rw [if_pos (by rfl)]
          refine wp_append_any _ _ _ (by rfl) w8.heap.size TU i0 (.int .u64 0) 1 8 Tryz.underlying36 hi' hz0 hz1 hz2 rfl (by decide) _ _ _ (by rfl) O26.out A k c (uc (L.take k)) (by rfl) HL1.out (HP.out.below HB23.out).f1 HP.out.no1 (uc_one _) (by unfold maxLen; omega) (by omega) HB23.out.size ?_
          intro v30 X27 hown hg
          have HB28 : Hid (Below w8.heap.size w8 X27) := HB23.out.grown hg HB23.out.size fun k hk => (own_lt O26.out k hk).1
          have O29 := Lib.hid hown
          have NB31 : Hid (X27.heap[B24]? = some (.cells #[.int .u64 n] TU)) := (hg.block B24 (Array.getElem?_eq_some_iff.1 NB25.out).1 (fun e => HNE.out (by injection e))).trans NB25.out
          refine hK.out _ _ (Or.inr (HS.out _ HB28.out)) ?_
          clear hK K hown hg
          try simp only [Act.put, List.setIfInBounds_toArray, List.set_cons_zero, List.set_cons_succ]
          refine wpL_ready (rs := [11]) (by kernel_rfl) (by simp) ?_
          refine AllL.cons rfl (fun K hK => ?_) AllL.nil
          · simp only [List.getElem_toArray, List.getElem_cons_succ, List.getElem_cons_zero]
            rw [if_pos (by rfl)]
            refine wp_append_any _ _ _ (by rfl) w8.heap.size TU i0 (.int .u64 0) 1 8 Tryz.underlying36 hi' hz0 hz1 hz2 rfl (by decide) _ _ _ (by rfl) O29.out (some ⟨B24, 0, none⟩) 1 1 [.int .u64 n] (by rfl) rfl (fun ad ha => by injection ha with ha; subst ha; exact World.news_of_block (cs := #[.int .u64 n]) NB31.out) (fun h => by cases h) (uc_one [n]) (by unfold maxLen; omega) (by omega) HB28.out.size ?_
            intro v35 X32 hown hg
            have HB33 : Hid (Below w8.heap.size w8 X32) := HB28.out.grown hg HB28.out.size fun k hk => (own_lt O29.out k hk).1
            have O34 := Lib.hid hown
            refine hK.out _ _ (Or.inr (HS.out _ HB33.out)) ?_
            clear hK K hown hg
            try simp only [Act.put, List.setIfInBounds_toArray, List.set_cons_zero, List.set_cons_succ]
            refine wpL_ready (rs := [18]) (by kernel_rfl) (by simp) ?_
            refine AllL.cons rfl (fun K hK => ?_) AllL.nil
            · simp only [List.getElem_toArray, List.getElem_cons_succ, List.getElem_cons_zero]
              rw [if_pos (by rfl)]
              refine wp_append_any _ _ _ (by rfl) w8.heap.size TU i0 (.int .u64 0) 1 8 Tryz.underlying36 hi' hz0 hz1 hz2 rfl (by decide) _ _ _ (by rfl) O34.out A2 (m - k) (c - k) (uc (L.drop k)) (by rfl) HL2.out (HP.out.below HB33.out).f2 HP.out.no2 (uc_one _) (by unfold maxLen; omega) (by omega) HB33.out.size ?_
              intro v39 X36 hown hg
              have HB37 : Hid (Below w8.heap.size w8 X36) := HB33.out.grown hg HB33.out.size fun k hk => (own_lt O34.out k hk).1
              have O38 := Lib.hid hown
              refine hK.out _ _ (Or.inr (HS.out _ HB37.out)) ?_
              clear hK K hown hg
              try simp only [Act.put, List.setIfInBounds_toArray, List.set_cons_zero, List.set_cons_succ]
              have hHeld := HS.out _ HB37.out
              refine wpL_take (i := 19) (oi := _) (v := ?_) [20] rfl (by kernel_rfl) (by kernel_rfl) (by kernel_rfl) (by kernel_rfl) (by kernel_rfl) (fun _ _ _ h => h) (Or.inl ⟨by rfl, ?_⟩) (by assumption) ?_
              rotate_left
              · (intro W hSw; (try dsimp only at hSw); go_simp; try with_reducible rfl)
              try simp only [Act.put, List.getElem_toArray, List.getElem_cons_succ, List.getElem_cons_zero, List.setIfInBounds_toArray, List.set_cons_zero, List.set_cons_succ]
              clear hHeld
              have hHeld := HS.out _ HB37.out
              refine wpL_take (i := 20) (oi := _) (v := ?_) [] rfl (by kernel_rfl) (by kernel_rfl) (by kernel_rfl) (by kernel_rfl) (by kernel_rfl) (fun _ _ _ h => h) (Or.inl ⟨by rfl, ?_⟩) (by assumption) ?_
              rotate_left
              · (intro W hSw; (try dsimp only at hSw); go_simp; try with_reducible rfl)
              try simp only [Act.put, List.getElem_toArray, List.getElem_cons_succ, List.getElem_cons_zero, List.setIfInBounds_toArray, List.set_cons_zero, List.set_cons_succ]
              clear hHeld
              refine wpL_ready (rs := [21]) (by kernel_rfl) (by simp) ?_
              refine AllL.cons rfl (fun K hK => ?_) AllL.nil
              · simp only [List.getElem_toArray, List.getElem_cons_succ, List.getElem_cons_zero]
                rw [if_pos (by rfl)]
                have q := cell_of_row X36 Q 0 _ _ (0, 0) (HQ8.out.below HB37.out).box
                have qf : X36.frozen? ⟨Q, 0, none⟩ = false := by simp [World.frozen?, (HQ8.out.below HB37.out).box]
                obtain ⟨A9, c9, hv9⟩ := own_form O38.out
                subst hv9
                go_simp
                refine hK.out _ _ (Or.inl rfl) ?_
                clear hK K q qf
                try simp only [Act.put, List.getElem_toArray, List.getElem_cons_succ, List.getElem_cons_zero, List.setIfInBounds_toArray, List.set_cons_zero, List.set_cons_succ]
                refine wpL_done (by kernel_rfl) ?_ _
                have hen := HQ8.out.ended HB37.out (L' := putL n L) (by have ho := O38.out; rw [HE.out.1, uc_app, uc_app, show uc [n] = [Value.int .u64 n] from rfl]; rw [show (L.take k ++ ([n] ++ L.drop k)).length = 0 + k + 1 + (m - k) by have := HM.out; simp [List.length_take, List.length_drop]; omega]; simpa only [List.nil_append, List.append_assoc] using ho) HE.out.2.1 HE.out.2.2.1 HE.out.2.2.2
                simp only [Nat.zero_add] at hen
                have HEn := Lib.hid hen
                clear hen
                go_wp2
                go_ret
                exact ⟨rfl, _, HEn.out.1, (Fr.of_below HB8.out).trans HEn.out.2⟩
    · simp only [List.getElem_toArray, List.getElem_cons_succ, List.getElem_cons_zero]
      rw [if_pos (by rfl)]
      go_simp
      refine hK.out _ _ (Or.inr (HS.out _ (HB0.out.alloc HB0.out.size (.cells #[.int .u64 n] TU)))) ?_
      clear hK K
      try simp only [Act.put, List.getElem_toArray, List.getElem_cons_succ, List.getElem_cons_zero, List.setIfInBounds_toArray, List.set_cons_zero, List.set_cons_succ]
      obtain ⟨B42, hB42⟩ : ∃ b, b = w8.heap.size := ⟨_, rfl⟩
      obtain ⟨X40, hX40⟩ : ∃ V, V = w8.alloc (.cells #[.int .u64 n] TU) := ⟨_, rfl⟩
      have HB41 : Hid (Below w8.heap.size w8 X40) := by rw [hX40]; exact HB0.out.alloc HB0.out.size _
      have NB43 : Hid (X40.heap[B42]? = some (.cells #[.int .u64 n] TU)) := by rw [hX40, hB42]; exact heap_alloc_new w8 _
      rw [← hX40, ← hB42]
      clear hX40 hB42
      refine wpL_ready (rs := [1]) (by kernel_rfl) (by simp) ?_
      refine AllL.cons rfl (fun K hK => ?_) AllL.nil
      · simp only [List.getElem_toArray, List.getElem_cons_succ, List.getElem_cons_zero]
        rw [if_pos (by rfl)]
        go_simp
        refine hK.out _ _ (Or.inr (HS.out _ (HB41.out.alloc HB41.out.size (.cells #[] TU)))) ?_
        clear hK K
        try simp only [Act.put, List.getElem_toArray, List.getElem_cons_succ, List.getElem_cons_zero, List.setIfInBounds_toArray, List.set_cons_zero, List.set_cons_succ]
        obtain ⟨B46, hB46⟩ : ∃ b, b = X40.heap.size := ⟨_, rfl⟩
        obtain ⟨X44, hX44⟩ : ∃ V, V = X40.alloc (.cells #[] TU) := ⟨_, rfl⟩
        have HB45 : Hid (Below w8.heap.size w8 X44) := by rw [hX44]; exact HB41.out.alloc HB41.out.size _
        have O47 : Hid (X44.ownsRow w8.heap.size TU 1 (.slice (some ⟨B46, 0, none⟩) 0 0) 0 []) := by rw [hX44, hB46]; exact World.ownsRow_made X40 #[] 0 HB41.out.size (Nat.zero_le _) rfl
        have NB48 : Hid (X44.heap[B42]? = some (.cells #[.int .u64 n] TU)) := by rw [hX44]; exact (Below.heap_alloc _ _ _ (Array.getElem?_eq_some_iff.1 NB43.out).1).trans NB43.out
        have HNE : Hid (B42 ≠ B46) := by have := (Array.getElem?_eq_some_iff.1 NB43.out).1; show _ ≠ _; omega
        rw [← hX44, ← hB46]
        clear hX44 hB46
        refine wpL_ready (rs := [8]) (by kernel_rfl) (by simp) ?_
        refine AllL.cons rfl (fun K hK => ?_) AllL.nil
        · simp only [List.getElem_toArray, List.getElem_cons_succ, List.getElem_cons_zero]
          rw [if_pos (by rfl)]
          refine wp_append_any _ _ _ (by rfl) w8.heap.size TU i0 (.int .u64 0) 1 8 Tryz.underlying36 hi' hz0 hz1 hz2 rfl (by decide) _ _ _ (by rfl) O47.out A k c (uc (L.take k)) (by rfl) HL1.out (HP.out.below HB45.out).f1 HP.out.no1 (uc_one _) (by unfold maxLen; omega) (by omega) HB45.out.size ?_
          intro v52 X49 hown hg
          have HB50 : Hid (Below w8.heap.size w8 X49) := HB45.out.grown hg HB45.out.size fun k hk => (own_lt O47.out k hk).1
          have O51 := Lib.hid hown
          have NB53 : Hid (X49.heap[B42]? = some (.cells #[.int .u64 n] TU)) := (hg.block B42 (Array.getElem?_eq_some_iff.1 NB48.out).1 (fun e => HNE.out (by injection e))).trans NB48.out
          refine hK.out _ _ (Or.inr (HS.out _ HB50.out)) ?_
          clear hK K hown hg
          try simp only [Act.put, List.setIfInBounds_toArray, List.set_cons_zero, List.set_cons_succ]
          refine wpL_ready (rs := [11]) (by kernel_rfl) (by simp) ?_
          refine AllL.cons rfl (fun K hK => ?_) AllL.nil
          · simp only [List.getElem_toArray, List.getElem_cons_succ, List.getElem_cons_zero]
            rw [if_pos (by rfl)]
            refine wp_append_any _ _ _ (by rfl) w8.heap.size TU i0 (.int .u64 0) 1 8 Tryz.underlying36 hi' hz0 hz1 hz2 rfl (by decide) _ _ _ (by rfl) O51.out (some ⟨B42, 0, none⟩) 1 1 [.int .u64 n] (by rfl) rfl (fun ad ha => by injection ha with ha; subst ha; exact World.news_of_block (cs := #[.int .u64 n]) NB53.out) (fun h => by cases h) (uc_one [n]) (by unfold maxLen; omega) (by omega) HB50.out.size ?_
            intro v57 X54 hown hg
            have HB55 : Hid (Below w8.heap.size w8 X54) := HB50.out.grown hg HB50.out.size fun k hk => (own_lt O51.out k hk).1
            have O56 := Lib.hid hown
            refine hK.out _ _ (Or.inr (HS.out _ HB55.out)) ?_
            clear hK K hown hg
            try simp only [Act.put, List.setIfInBounds_toArray, List.set_cons_zero, List.set_cons_succ]
            refine wpL_ready (rs := [18]) (by kernel_rfl) (by simp) ?_
            refine AllL.cons rfl (fun K hK => ?_) AllL.nil
            · simp only [List.getElem_toArray, List.getElem_cons_succ, List.getElem_cons_zero]
              rw [if_pos (by rfl)]
              refine wp_append_any _ _ _ (by rfl) w8.heap.size TU i0 (.int .u64 0) 1 8 Tryz.underlying36 hi' hz0 hz1 hz2 rfl (by decide) _ _ _ (by rfl) O56.out A2 (m - k) (c - k) (uc (L.drop k)) (by rfl) HL2.out (HP.out.below HB55.out).f2 HP.out.no2 (uc_one _) (by unfold maxLen; omega) (by omega) HB55.out.size ?_
              intro v61 X58 hown hg
              have HB59 : Hid (Below w8.heap.size w8 X58) := HB55.out.grown hg HB55.out.size fun k hk => (own_lt O56.out k hk).1
              have O60 := Lib.hid hown
              refine hK.out _ _ (Or.inr (HS.out _ HB59.out)) ?_
              clear hK K hown hg
              try simp only [Act.put, List.setIfInBounds_toArray, List.set_cons_zero, List.set_cons_succ]
              have hHeld := HS.out _ HB59.out
              refine wpL_take (i := 19) (oi := _) (v := ?_) [20] rfl (by kernel_rfl) (by kernel_rfl) (by kernel_rfl) (by kernel_rfl) (by kernel_rfl) (fun _ _ _ h => h) (Or.inl ⟨by rfl, ?_⟩) (by assumption) ?_
              rotate_left
              · (intro W hSw; (try dsimp only at hSw); go_simp; try with_reducible rfl)
              try simp only [Act.put, List.getElem_toArray, List.getElem_cons_succ, List.getElem_cons_zero, List.setIfInBounds_toArray, List.set_cons_zero, List.set_cons_succ]
              clear hHeld
              have hHeld := HS.out _ HB59.out
              refine wpL_take (i := 20) (oi := _) (v := ?_) [] rfl (by kernel_rfl) (by kernel_rfl) (by kernel_rfl) (by kernel_rfl) (by kernel_rfl) (fun _ _ _ h => h) (Or.inl ⟨by rfl, ?_⟩) (by assumption) ?_
              rotate_left
              · (intro W hSw; (try dsimp only at hSw); go_simp; try with_reducible rfl)
              try simp only [Act.put, List.getElem_toArray, List.getElem_cons_succ, List.getElem_cons_zero, List.setIfInBounds_toArray, List.set_cons_zero, List.set_cons_succ]
              clear hHeld
              refine wpL_ready (rs := [21]) (by kernel_rfl) (by simp) ?_
              refine AllL.cons rfl (fun K hK => ?_) AllL.nil
              · simp only [List.getElem_toArray, List.getElem_cons_succ, List.getElem_cons_zero]
                rw [if_pos (by rfl)]
                have q := cell_of_row X58 Q 0 _ _ (0, 0) (HQ8.out.below HB59.out).box
                have qf : X58.frozen? ⟨Q, 0, none⟩ = false := by simp [World.frozen?, (HQ8.out.below HB59.out).box]
                obtain ⟨A9, c9, hv9⟩ := own_form O60.out
                subst hv9
                go_simp
                refine hK.out _ _ (Or.inl rfl) ?_
                clear hK K q qf
                try simp only [Act.put, List.getElem_toArray, List.getElem_cons_succ, List.getElem_cons_zero, List.setIfInBounds_toArray, List.set_cons_zero, List.set_cons_succ]
                refine wpL_done (by kernel_rfl) ?_ _
                have hen := HQ8.out.ended HB59.out (L' := putL n L) (by have ho := O60.out; rw [HE.out.1, uc_app, uc_app, show uc [n] = [Value.int .u64 n] from rfl]; rw [show (L.take k ++ ([n] ++ L.drop k)).length = 0 + k + 1 + (m - k) by have := HM.out; simp [List.length_take, List.length_drop]; omega]; simpa only [List.nil_append, List.append_assoc] using ho) HE.out.2.1 HE.out.2.2.1 HE.out.2.2.2
                simp only [Nat.zero_add] at hen
                have HEn := Lib.hid hen
                clear hen
                go_wp2
                go_ret
                exact ⟨rfl, _, HEn.out.1, (Fr.of_below HB8.out).trans HEn.out.2⟩
  go_wp2
  go_loopw [5] (fun i wr => ∃ k : Nat, i = .int .i64 (k : Int) ∧ k ≤ m ∧ Hid (∀ j, j < k → L.getD j 0 < n) ∧ wr = w1) (fun i _ => m - (intOf i).toNat)
  case atStart => exact ⟨0, rfl, Nat.zero_le _, Lib.hid (fun j hj => by omega), rfl⟩
  case round =>
    obtain ⟨k, rfl, hk, HN, rfl⟩ := hrel
    by_cases hlt : k < m
    · have hq := HQ.out
      rw [HM.out] at hq
      obtain ⟨g, rfl, -, -, hc⟩ := hq.cell k (by rw [← HM.out]; exact hlt)
      obtain ⟨x, hx⟩ : ∃ x, x = L.getD k 0 := ⟨_, rfl⟩
      rw [← hx] at hc
      have HX := Lib.hid hx
      clear hx hq
      have hlz : decide ((k : Int) < (m : Int)) = true := by simp; omega
      by_cases hxn : x < n
      · have HXn := Lib.hid hxn
        have hxb : decide (x < n) = true := decide_eq_true hxn
        clear hxn
        go_wp2
        go_roundw
        case rel => exact ⟨k + 1, by go_num, by omega, Lib.hid fun j hj => by
          by_cases e : j = k
          · subst e; rw [← HX.out]; exact HXn.out
          · exact HN.out j (by omega), trivial⟩
        case measure => simp [intOf]; omega
      · have HXn := Lib.hid hxn
        have hxb : decide (x < n) = false := decide_eq_false hxn
        clear hxn
        go_wp2
        go_meet
        exact ⟨k, rfl, by omega, Lib.hid (tw_at n L k (by rw [← HM.out]; omega) HN.out (Or.inr (by rw [← HX.out]; have := HXn.out; omega))), rfl⟩
    · obtain rfl : k = m := by omega
      have hlz : decide ((k : Int) < (k : Int)) = false := by simp
      go_wp2
      go_meet
      exact ⟨k, rfl, Nat.le_refl _, Lib.hid (tw_at n L k (by rw [← HM.out]; exact Nat.le_refl _) HN.out (Or.inl HM.out)), rfl⟩
end Go.Proofs.YtpkkomifenlkaaaGreat.Gp
/- gap: the page's Take. -/
namespace Go.Proofs.YtpkkomifenlkaaaGreat.Gp
open Go Go.RowKit Gm

set_option maxRecDepth 20000 in
theorem qtake_zero (Q : Nat) (W : World) : Calls Tryz.prog 55 #[.pointer (some ⟨Q, 0, none⟩), .int .u64 0] W fun e w' => e = .returned (.tuple #[.int .u64 0, .int .u64 0, .int .i64 1]) ∧ w' = W := by
  go_enter Tryz.func55, Tryz.ntmps55
  go_wp2
  exact bodyPost_ret (results_tmp3 rfl _ _ _) rfl ⟨rfl, rfl⟩
set_option maxRecDepth 20000 in
theorem qtake_none (Q cap : Nat) (A : Option Addr) (most : Int) (hm : 1 ≤ most) (W : World) (h : W.heap[Q]? = some (.cells #[.slice A 0 cap] TQh (0, 0))) : Calls Tryz.prog 55 #[.pointer (some ⟨Q, 0, none⟩), .int .u64 most] W fun e w' => e = .returned (.tuple #[.int .u64 0, .int .u64 0, .int .i64 8]) ∧ w' = W := by
  have c0 := cell_of_row W Q 0 _ _ (0, 0) h
  have hm0 : ¬ most = 0 := by omega
  have hmb : (most == 0) = false := by simpa using hm0
  clear h
  go_enter Tryz.func55, Tryz.ntmps55
  go_wp2
  exact bodyPost_ret (results_tmp3 rfl _ _ _) rfl ⟨rfl, rfl⟩
set_option maxRecDepth 20000 in
set_option maxHeartbeats 4000000 in
theorem qtake_go (B Q : Nat) (v : Value) (L : List Int) (most : Int) (mm : Nat) (W : World) (h : QH B W Q v L) (h0 : 0 < L.length) (hm : 1 ≤ most) (hmm : min (lng L : Int) most = (mm : Int)) (hml : mm ≤ L.length) (hll : lng L ≤ L.length) :
    Calls Tryz.prog 55 #[.pointer (some ⟨Q, 0, none⟩), .int .u64 most] W fun e w' => e = .returned (.tuple #[.int .u64 (L.getD 0 0), .int .u64 (mm : Int), .int .i64 0]) ∧ ∃ v', QH B w' Q v' (L.drop mm) ∧ Fr Q v v' W w' := by
  obtain ⟨i0, hi, hz0, hz1, hz2⟩ := info_partsN infoU
  have hm0 : ¬ most = 0 := by omega
  have hmb : (most == 0) = false := by simpa using hm0
  have HLg := Lib.hid (qlong_any B Q v L 0 h0 W h)
  rw [List.drop_zero] at HLg
  obtain ⟨A, c, rfl⟩ := h.form
  have c0 := cell_of_row W Q 0 _ _ (0, 0) h.box
  have hfew := h.few
  obtain ⟨g, rfl, -, -, d0⟩ := h.cell 0 h0
  obtain ⟨m, hmd⟩ : ∃ m, m = L.length := ⟨_, rfl⟩
  have HM : Hid (m = L.length) := Lib.hid hmd
  have HQ := Lib.hid h
  rw [← hmd] at c0 HQ hfew h0 hml hll ⊢
  obtain ⟨x, hx⟩ : ∃ x, x = L.getD 0 0 := ⟨_, rfl⟩
  rw [← hx] at d0 ⊢
  obtain ⟨k, hk⟩ : ∃ k, k = lng L := ⟨_, rfl⟩
  rw [← hk] at HLg hmm hll
  have HP := Lib.hid (HQ.out.pts HM.out mm hml)
  have hmc : mm ≤ c := by have := HP.out.nc; omega
  have hm0' : ((m : Int) == 0) = false := by simp; omega
  have hm3 : 0 < m := h0
  have HL2 : Hid ((uc (L.drop mm)).length = (m - mm) * 1) := by show _ = _; rw [uc_len, List.length_drop, ← HM.out, Nat.mul_one]
  have HEn : Hid ((L.drop mm).length ≤ 900 ∧ (L.drop mm).Pairwise (· < ·) ∧ ∀ n ∈ L.drop mm, 0 ≤ n ∧ n ≤ 18446744073709551614) := Lib.hid ⟨by rw [List.length_drop]; have := HQ.out.few; omega, HQ.out.rise.sublist (List.drop_sublist _ _), fun n hn => HQ.out.bd n (List.mem_of_mem_drop hn)⟩
  have hmc2 : (mm : Int) ≤ (c : Int) := by omega
  have hmm2 : (mm : Int) ≤ (m : Int) := by omega
  have hmc3 : m ≤ c := HP.out.nc
  clear h hmd hx hk hm0 h0
  by_cases hcm : c = mm
  · by_cases hgt : most < (k : Int)
    · have hk1 : decide (most < (k : Int)) = true := decide_eq_true hgt
      have hmk : most = (mm : Int) := by omega
      subst hmk
      have hkn : decide (mm < k) = true := by simp; omega
      clear hmm hgt
      go_enter Tryz.func55, Tryz.ntmps55
      go_wp2_with fail
      refine HLg.out.mono ?_
      rintro _ w1 ⟨rfl, q, rfl⟩
      obtain ⟨w2, hw2⟩ : ∃ X, X = W.drewN q := ⟨_, rfl⟩
      have b2 : Below W.heap.size W w2 := by rw [hw2]; exact below_drewN (Below.refl _ _) q
      have HQ2 := HQ.out.below b2
      have c2 := cell_of_row w2 Q 0 _ _ (0, 0) HQ2.box
      have hQl : Q < w2.heap.size := HQ2.lt
      have hE : (w2.alloc (.cells #[] TU)).ownsRow w2.heap.size TU 1 (.slice (some ⟨w2.heap.size, 0, none⟩) 0 0) 0 [] := ⟨rfl, Or.inr ⟨w2.heap.size, 0, #[], rfl, Nat.le_refl _, heap_alloc_new w2 _, Nat.le_refl _, by decide, rfl, rfl⟩⟩
      have hbl : Below W.heap.size W (w2.alloc (.cells #[] TU)) := b2.alloc b2.size _
      have hnews := Lib.hid ((HP.out.below hbl).f2 ⟨g, 0, none⟩ (by rw [if_pos hcm]))
      have H2 := Lib.hid (And.intro HQ2 (And.intro hE (And.intro b2 ((Below.refl w2.heap.size w2).alloc (Nat.le_refl _) (.cells #[] TU)))))
      clear b2 HQ2 hE hbl c0
      go_upto_region 9 with fail
      rw [← hw2]
      clear hw2
      go_wp2_with (at_builtin; go_loud (refine wpList_append_own _ rfl _ _ 36 rfl w2.heap.size TU i0 (.int .u64 0) 1 8 Tryz.underlying36 hi hz0 hz1 hz2 rfl (by decide) _ _ _ rfl H2.out.2.1 ⟨g, 0, none⟩ _ _ (uc (L.drop mm)) rfl HL2.out hnews.out (uc_one _) (by unfold maxLen; omega) (by omega) (by simp) ?_; intro v1 w3 hown hg _; have hbw := H2.out.2.2.2.grown hg (by simp) (fun k hk => by have : w2.heap.size = k := (by injection hk); omega); have ho := hown; simp only [List.nil_append, Nat.zero_add] at ho; have hen := H2.out.1.ended hbw (L' := L.drop mm) (by rw [List.length_drop, ← HM.out]; exact ho) HEn.out.1 HEn.out.2.1 HEn.out.2.2; obtain ⟨A9, c9, rfl⟩ := own_form ho; have HEnd := Lib.hid hen; have q2 := cell_of_row w3 Q 0 _ _ (0, 0) (H2.out.1.below hbw).box; have qf : w3.frozen? ⟨Q, 0, none⟩ = false := (by simp [World.frozen?, (H2.out.1.below hbw).box]); clear hown hg hbw ho hen c2))
      exact bodyPost_ret (results_tmp3 rfl _ _ _) rfl ⟨rfl, _, HEnd.out.1, (Fr.of_below H2.out.2.2.1).trans HEnd.out.2⟩
    · have hk1 : decide (most < (k : Int)) = false := decide_eq_false hgt
      obtain rfl : k = mm := by omega
      clear hmm
      go_enter Tryz.func55, Tryz.ntmps55
      go_wp2_with fail
      refine HLg.out.mono ?_
      rintro _ w1 ⟨rfl, q, rfl⟩
      obtain ⟨w2, hw2⟩ : ∃ X, X = W.drewN q := ⟨_, rfl⟩
      have b2 : Below W.heap.size W w2 := by rw [hw2]; exact below_drewN (Below.refl _ _) q
      have HQ2 := HQ.out.below b2
      have c2 := cell_of_row w2 Q 0 _ _ (0, 0) HQ2.box
      have hQl : Q < w2.heap.size := HQ2.lt
      have hE : (w2.alloc (.cells #[] TU)).ownsRow w2.heap.size TU 1 (.slice (some ⟨w2.heap.size, 0, none⟩) 0 0) 0 [] := ⟨rfl, Or.inr ⟨w2.heap.size, 0, #[], rfl, Nat.le_refl _, heap_alloc_new w2 _, Nat.le_refl _, by decide, rfl, rfl⟩⟩
      have hbl : Below W.heap.size W (w2.alloc (.cells #[] TU)) := b2.alloc b2.size _
      have hnews := Lib.hid ((HP.out.below hbl).f2 ⟨g, 0, none⟩ (by rw [if_pos hcm]))
      have H2 := Lib.hid (And.intro HQ2 (And.intro hE (And.intro b2 ((Below.refl w2.heap.size w2).alloc (Nat.le_refl _) (.cells #[] TU)))))
      clear b2 HQ2 hE hbl c0
      go_upto_region 9 with fail
      rw [← hw2]
      clear hw2
      go_wp2_with (at_builtin; go_loud (refine wpList_append_own _ rfl _ _ 36 rfl w2.heap.size TU i0 (.int .u64 0) 1 8 Tryz.underlying36 hi hz0 hz1 hz2 rfl (by decide) _ _ _ rfl H2.out.2.1 ⟨g, 0, none⟩ _ _ (uc (L.drop k)) rfl HL2.out hnews.out (uc_one _) (by unfold maxLen; omega) (by omega) (by simp) ?_; intro v1 w3 hown hg _; have hbw := H2.out.2.2.2.grown hg (by simp) (fun k hk => by have : w2.heap.size = k := (by injection hk); omega); have ho := hown; simp only [List.nil_append, Nat.zero_add] at ho; have hen := H2.out.1.ended hbw (L' := L.drop k) (by rw [List.length_drop, ← HM.out]; exact ho) HEn.out.1 HEn.out.2.1 HEn.out.2.2; obtain ⟨A9, c9, rfl⟩ := own_form ho; have HEnd := Lib.hid hen; have q2 := cell_of_row w3 Q 0 _ _ (0, 0) (H2.out.1.below hbw).box; have qf : w3.frozen? ⟨Q, 0, none⟩ = false := (by simp [World.frozen?, (H2.out.1.below hbw).box]); clear hown hg hbw ho hen c2))
      exact bodyPost_ret (results_tmp3 rfl _ _ _) rfl ⟨rfl, _, HEnd.out.1, (Fr.of_below H2.out.2.2.1).trans HEnd.out.2⟩
  · by_cases hgt : most < (k : Int)
    · have hk1 : decide (most < (k : Int)) = true := decide_eq_true hgt
      have hmk : most = (mm : Int) := by omega
      subst hmk
      have hkn : decide (mm < k) = true := by simp; omega
      clear hmm hgt
      go_enter Tryz.func55, Tryz.ntmps55
      go_wp2_with fail
      refine HLg.out.mono ?_
      rintro _ w1 ⟨rfl, q, rfl⟩
      obtain ⟨w2, hw2⟩ : ∃ X, X = W.drewN q := ⟨_, rfl⟩
      have b2 : Below W.heap.size W w2 := by rw [hw2]; exact below_drewN (Below.refl _ _) q
      have HQ2 := HQ.out.below b2
      have c2 := cell_of_row w2 Q 0 _ _ (0, 0) HQ2.box
      have hQl : Q < w2.heap.size := HQ2.lt
      have hE : (w2.alloc (.cells #[] TU)).ownsRow w2.heap.size TU 1 (.slice (some ⟨w2.heap.size, 0, none⟩) 0 0) 0 [] := ⟨rfl, Or.inr ⟨w2.heap.size, 0, #[], rfl, Nat.le_refl _, heap_alloc_new w2 _, Nat.le_refl _, by decide, rfl, rfl⟩⟩
      have hbl : Below W.heap.size W (w2.alloc (.cells #[] TU)) := b2.alloc b2.size _
      have hnews := Lib.hid ((HP.out.below hbl).f2 ⟨g, mm, none⟩ (by rw [if_neg hcm]; show some ((⟨g, 0, none⟩ : Addr).add mm) = _; rw [Addr.add_lit, Nat.zero_add]))
      have H2 := Lib.hid (And.intro HQ2 (And.intro hE (And.intro b2 ((Below.refl w2.heap.size w2).alloc (Nat.le_refl _) (.cells #[] TU)))))
      clear b2 HQ2 hE hbl c0
      go_upto_region 9 with fail
      rw [← hw2]
      clear hw2
      go_wp2_with (at_builtin; go_loud (refine wpList_append_own _ rfl _ _ 36 rfl w2.heap.size TU i0 (.int .u64 0) 1 8 Tryz.underlying36 hi hz0 hz1 hz2 rfl (by decide) _ _ _ rfl H2.out.2.1 ⟨g, mm, none⟩ _ _ (uc (L.drop mm)) rfl HL2.out hnews.out (uc_one _) (by unfold maxLen; omega) (by omega) (by simp) ?_; intro v1 w3 hown hg _; have hbw := H2.out.2.2.2.grown hg (by simp) (fun k hk => by have : w2.heap.size = k := (by injection hk); omega); have ho := hown; simp only [List.nil_append, Nat.zero_add] at ho; have hen := H2.out.1.ended hbw (L' := L.drop mm) (by rw [List.length_drop, ← HM.out]; exact ho) HEn.out.1 HEn.out.2.1 HEn.out.2.2; obtain ⟨A9, c9, rfl⟩ := own_form ho; have HEnd := Lib.hid hen; have q2 := cell_of_row w3 Q 0 _ _ (0, 0) (H2.out.1.below hbw).box; have qf : w3.frozen? ⟨Q, 0, none⟩ = false := (by simp [World.frozen?, (H2.out.1.below hbw).box]); clear hown hg hbw ho hen c2))
      exact bodyPost_ret (results_tmp3 rfl _ _ _) rfl ⟨rfl, _, HEnd.out.1, (Fr.of_below H2.out.2.2.1).trans HEnd.out.2⟩
    · have hk1 : decide (most < (k : Int)) = false := decide_eq_false hgt
      obtain rfl : k = mm := by omega
      clear hmm
      go_enter Tryz.func55, Tryz.ntmps55
      go_wp2_with fail
      refine HLg.out.mono ?_
      rintro _ w1 ⟨rfl, q, rfl⟩
      obtain ⟨w2, hw2⟩ : ∃ X, X = W.drewN q := ⟨_, rfl⟩
      have b2 : Below W.heap.size W w2 := by rw [hw2]; exact below_drewN (Below.refl _ _) q
      have HQ2 := HQ.out.below b2
      have c2 := cell_of_row w2 Q 0 _ _ (0, 0) HQ2.box
      have hQl : Q < w2.heap.size := HQ2.lt
      have hE : (w2.alloc (.cells #[] TU)).ownsRow w2.heap.size TU 1 (.slice (some ⟨w2.heap.size, 0, none⟩) 0 0) 0 [] := ⟨rfl, Or.inr ⟨w2.heap.size, 0, #[], rfl, Nat.le_refl _, heap_alloc_new w2 _, Nat.le_refl _, by decide, rfl, rfl⟩⟩
      have hbl : Below W.heap.size W (w2.alloc (.cells #[] TU)) := b2.alloc b2.size _
      have hnews := Lib.hid ((HP.out.below hbl).f2 ⟨g, k, none⟩ (by rw [if_neg hcm]; show some ((⟨g, 0, none⟩ : Addr).add k) = _; rw [Addr.add_lit, Nat.zero_add]))
      have H2 := Lib.hid (And.intro HQ2 (And.intro hE (And.intro b2 ((Below.refl w2.heap.size w2).alloc (Nat.le_refl _) (.cells #[] TU)))))
      clear b2 HQ2 hE hbl c0
      go_upto_region 9 with fail
      rw [← hw2]
      clear hw2
      go_wp2_with (at_builtin; go_loud (refine wpList_append_own _ rfl _ _ 36 rfl w2.heap.size TU i0 (.int .u64 0) 1 8 Tryz.underlying36 hi hz0 hz1 hz2 rfl (by decide) _ _ _ rfl H2.out.2.1 ⟨g, k, none⟩ _ _ (uc (L.drop k)) rfl HL2.out hnews.out (uc_one _) (by unfold maxLen; omega) (by omega) (by simp) ?_; intro v1 w3 hown hg _; have hbw := H2.out.2.2.2.grown hg (by simp) (fun k hk => by have : w2.heap.size = k := (by injection hk); omega); have ho := hown; simp only [List.nil_append, Nat.zero_add] at ho; have hen := H2.out.1.ended hbw (L' := L.drop k) (by rw [List.length_drop, ← HM.out]; exact ho) HEn.out.1 HEn.out.2.1 HEn.out.2.2; obtain ⟨A9, c9, rfl⟩ := own_form ho; have HEnd := Lib.hid hen; have q2 := cell_of_row w3 Q 0 _ _ (0, 0) (H2.out.1.below hbw).box; have qf : w3.frozen? ⟨Q, 0, none⟩ = false := (by simp [World.frozen?, (H2.out.1.below hbw).box]); clear hown hg hbw ho hen c2))
      exact bodyPost_ret (results_tmp3 rfl _ _ _) rfl ⟨rfl, _, HEnd.out.1, (Fr.of_below H2.out.2.2.1).trans HEnd.out.2⟩
end Go.Proofs.YtpkkomifenlkaaaGreat.Gp
/- gap: the page's Take, whole; its Runs. -/
namespace Go.Proofs.YtpkkomifenlkaaaGreat.Gp
open Go Go.RowKit Gm

theorem lng_le : ∀ L : List Int, lng L ≤ L.length
  | [] => Nat.le_refl _
  | [_] => Nat.le_refl _
  | a :: b :: r => by
    have := lng_le (b :: r)
    show (if b - a = 1 then lng (b :: r) + 1 else 1) ≤ _
    simp only [List.length_cons] at *
    split <;> omega
theorem lng_pos : ∀ L : List Int, L ≠ [] → 1 ≤ lng L
  | [], h => absurd rfl h
  | [_], _ => Nat.le_refl _
  | a :: b :: r, _ => by
    show 1 ≤ (if b - a = 1 then lng (b :: r) + 1 else 1)
    split <;> omega
theorem qtake_any (B Q : Nat) (v : Value) (L : List Int) (most : Int) (W : World) (h : QH B W Q v L) (h0 : 0 ≤ most) :
    Calls Tryz.prog 55 #[.pointer (some ⟨Q, 0, none⟩), .int .u64 most] W fun e w' => e = .returned (.tuple #[.int .u64 (tkF most L), .int .u64 (tkM most L), .int .i64 (tkC most L)]) ∧ ∃ v', QH B w' Q v' (L.drop (tkM most L).toNat) ∧ Fr Q v v' W w' := by
  unfold tkF tkM tkC
  by_cases hm : most = 0
  · subst hm
    simp only [true_or, if_true]
    refine (qtake_zero Q W).mono ?_
    rintro e w' ⟨rfl, rfl⟩
    exact ⟨rfl, v, h, Fr.of_below (Below.refl _ _)⟩
  · by_cases hL : L = []
    · subst hL
      rw [if_pos (Or.inr rfl), if_pos (Or.inr rfl), if_neg hm, if_pos rfl]
      obtain ⟨A, c, hv⟩ := h.form
      have hb := h.box
      rw [hv] at hb
      refine (qtake_none Q c A most (by omega) W hb).mono ?_
      rintro e w' ⟨rfl, rfl⟩
      exact ⟨rfl, v, h, Fr.of_below (Below.refl _ _)⟩
    · rw [if_neg (by rintro (e | e); exact hm e; exact hL e), if_neg (by rintro (e | e); exact hm e; exact hL e), if_neg hm, if_neg hL]
      have hpos : 0 < L.length := List.length_pos_iff.2 hL
      have h1 := lng_le L
      have h2 := lng_pos L hL
      obtain ⟨mm, hmm⟩ : ∃ mm : Nat, min (lng L : Int) most = (mm : Int) := ⟨(min (lng L : Int) most).toNat, by omega⟩
      rw [hmm, Int.toNat_natCast, show L.headD 0 = L.getD 0 0 by cases L <;> rfl]
      exact qtake_go B Q v L most mm W h hpos (by omega) hmm (by omega) h1
/-- two rows of numbers of the call's own -/
structure RR (W : World) (va vb : Value) (fs ms : List Int) (X : World) : Prop where
  a : X.ownsRow W.heap.size TU 1 va fs.length (uc fs)
  b : X.ownsRow W.heap.size TU 1 vb ms.length (uc ms)
  ap : ∀ k, va.ownBlock = some k → vb.ownBlock ≠ some k
  bel : Below W.heap.size W X
theorem RR.symm {W X : World} {va vb : Value} {fs ms : List Int} (h : RR W va vb fs ms X) : RR W vb va ms fs X := ⟨h.b, h.a, fun k h1 h2 => h.ap k h2 h1, h.bel⟩
theorem RR.below {W X Y : World} {va vb : Value} {fs ms : List Int} (h : RR W va vb fs ms X) (hb : Below X.heap.size X Y) : RR W va vb fs ms Y := ⟨own_below h.a hb, own_below h.b hb, h.ap, h.bel.trans (hb.mono h.bel.size)⟩
theorem RR.push {W X Y : World} {va vb : Value} {fs ms : List Int} {x : Int} {g cap : Nat} (h : RR W va vb fs ms X) (hown : Y.ownsRow W.heap.size TU 1 (.slice (some ⟨g, 0, none⟩) (fs.length + 1) cap) (fs.length + 1) (uc fs ++ [.int .u64 x]))
    (hg : X.grownBy Y va.ownBlock) (hat : va.ownBlock = some g ∨ g = X.heap.size) : RR W (.slice (some ⟨g, 0, none⟩) (fs ++ [x]).length cap) vb (fs ++ [x]) ms Y := by
  have e : (fs ++ [x]).length = fs.length + 1 := by simp
  refine ⟨by rw [e, uc_app]; exact hown, Msg.own_apart h.b ?_ hg, fun k hk hk2 => ?_, h.bel.grown hg h.bel.size (fun k hk => (own_lt h.a k hk).1)⟩
  · cases hv : vb.ownBlock with
    | none => exact Or.inl rfl
    | some k => exact Or.inr fun e => h.ap k e.symm hv
  · have hk : g = k := by injection hk
    subst hk
    rcases hat with h1 | h1
    · exact h.ap g h1 hk2
    · have := (own_lt h.b g hk2).2; omega
theorem rise_gap {L : List Int} (h : L.Pairwise (· < ·)) (a : Nat) (ha : 0 < a) (hl : a < L.length) : L.getD (a - 1) 0 < L.getD a 0 := by
  have := rise_get h (a - 1) (by omega)
  rwa [show a - 1 + 1 = a by omega] at this
set_option maxRecDepth 20000 in
set_option maxHeartbeats 8000000 in
theorem qruns_any (B Q : Nat) (v : Value) (L : List Int) (W : World) (h : QH B W Q v L) : Calls Tryz.prog 44 #[.pointer (some ⟨Q, 0, none⟩)] W fun e w' => ∃ va vb, e = .returned (.tuple #[va, vb]) ∧ RR W va vb ((rowsF L L.length).map (·.1)) ((rowsF L L.length).map (·.2)) w' := by
  obtain ⟨i0, hi, hz0, hz1, hz2⟩ := info_partsN infoU
  have HQ := Lib.hid h
  obtain ⟨A, c, rfl⟩ := h.form
  have hfew := h.few
  obtain ⟨m, hmd⟩ : ∃ m, m = L.length := ⟨_, rfl⟩
  have HM : Hid (m = L.length) := Lib.hid hmd
  rw [← hmd] at HQ hfew ⊢
  clear h hmd
  go_enter Tryz.func44, Tryz.ntmps44
  go_wp2
  go_loopw [4, 5, 6] (fun s4 s5 i wr => ∃ k : Nat, i = .int .i64 (k : Int) ∧ k ≤ m ∧ ∃ A1 A2 : Option Addr, ∃ n1 c1 c2 : Nat, s4 = .slice A1 n1 c1 ∧ s5 = .slice A2 n1 c2 ∧ Hid (n1 = (rowsF L k).length ∧ RR W (.slice A1 n1 c1) (.slice A2 n1 c2) ((rowsF L k).map (·.1)) ((rowsF L k).map (·.2)) wr)) (fun _ _ i _ => m - (intOf i).toNat)
  case atStart => exact ⟨0, rfl, Nat.zero_le _, none, none, 0, 0, 0, rfl, rfl, Lib.hid ⟨rfl, ⟨rfl, Or.inl ⟨rfl, rfl⟩⟩, ⟨rfl, Or.inl ⟨rfl, rfl⟩⟩, fun k h => (by cases h), Below.refl _ _⟩⟩
  case round =>
    obtain ⟨k, rfl, hk, A1, A2, n1, c1, c2, rfl, rfl, HR⟩ := hrel
    have hq2 := HQ.out.below HR.out.2.bel
    have c0 := cell_of_row wr Q 0 _ _ (0, 0) hq2.box
    have HQ2 := Lib.hid hq2
    clear hq2
    by_cases hlt : k < m
    · have hq3 := HQ2.out
      rw [HM.out] at hq3
      obtain ⟨g, hA, -, -, d0⟩ := hq3.cell k (by rw [← HM.out]; exact hlt)
      subst hA
      have d1 : 0 < k → wr.cell? ⟨g, k - 1, none⟩ = some (.int .u64 (L.getD (k - 1) 0)) := fun h0 => by
        obtain ⟨g', e, -, -, hc⟩ := hq3.cell (k - 1) (by rw [← HM.out]; omega)
        obtain rfl : g = g' := by injection e with e; injection e
        exact hc
      have bd := hq3.getBd k (by rw [← HM.out]; exact hlt)
      have hri := fun h0 => rise_gap HQ2.out.rise k h0 (by rw [← HM.out]; exact hlt)
      have bd1 := fun (h0 : 0 < k) => (hq3.getBd (k - 1) (by rw [← HM.out]; omega)).1
      have hsc := rowsF_succ L k
      have hst : isStart L k = (k == 0 || decide (L.getD k 0 - L.getD (k - 1) 0 ≠ 1)) := rfl
      have HLg := Lib.hid (fun (X : World) (hb : Below W.heap.size W X) => qlong_any B Q (.slice (some ⟨g, 0, none⟩) m c) L k (by rw [← HM.out]; exact hlt) X (HQ.out.below hb))
      obtain ⟨x, hx⟩ : ∃ x, x = L.getD k 0 := ⟨_, rfl⟩
      obtain ⟨y, hy⟩ : ∃ y, y = L.getD (k - 1) 0 := ⟨_, rfl⟩
      obtain ⟨z, hz⟩ : ∃ z : Int, z = (lng (L.drop k) : Int) := ⟨_, rfl⟩
      rw [← hx] at d0 bd hri hsc hst
      rw [← hy] at d1 hri bd1 hst
      rw [← hz] at HLg hsc
      have hn1 : n1 ≤ 900 := by have := rowsF_len L k; have := HR.out.1; omega
      have HS := Lib.hid hsc
      clear hq3 hx hy hz hsc
      by_cases hk0 : k = 0
      · have HSt : Hid (isStart L k = true) := Lib.hid (by rw [hst, hk0]; rfl)
        have hkb : ((k : Int) == 0) = true := by simp; omega
        clear hst hri bd1 d1 bd hk0
        go_wp2_with fail
        go_quiet (fail)
        have b2 : Below wr.heap.size wr (wr.drewN nq) := below_drewN (Below.refl _ _) _
        generalize wr.drewN nq = w2 at b2 ⊢
        have R2 := HR.out.2.below b2
        have HQ3 := HQ2.out.below b2
        have c2' := cell_of_row w2 Q 0 _ _ (0, 0) HQ3.box
        have d2' : w2.cell? ⟨g, k, none⟩ = some (.int .u64 x) := (b2.cell (World.block_lt_of_cell? _ _ d0)).trans d0
        have bA := (Below.refl w2.heap.size w2).alloc (Nat.le_refl _) (.cells #[.int .u64 x] TU)
        have RA := R2.below bA
        have hN := World.news_of_block (heap_alloc_new w2 (.cells #[.int .u64 x] TU))
        have HA := Lib.hid (And.intro RA (And.intro hN (And.intro b2 bA)))
        have e1 : ((rowsF L k).map (·.1)).length = n1 := by rw [List.length_map]; exact HR.out.1.symm
        have e2 : ((rowsF L k).map (·.2)).length = n1 := by rw [List.length_map]; exact HR.out.1.symm
        have HE := Lib.hid (And.intro e1 e2)
        clear R2 RA hN e1 e2 c0 d0 bA
        go_wp2_with (at_builtin; go_loud (refine wpList_append_lies _ rfl _ _ 36 rfl W.heap.size TU i0 (.int .u64 0) 1 8 Tryz.underlying36 hi hz0 hz1 hz2 rfl (by decide) _ _ _ rfl (by have := HA.out.1.a; rw [HE.out.1] at this; exact this) ⟨w2.heap.size, 0, none⟩ 1 1 [.int .u64 x] rfl rfl HA.out.2.1 (uc_one [x]) (by decide) (by unfold maxLen; omega) (by omega) HA.out.1.bel.size _ rfl ?_; intro g1 cp1 w3 hown1 hg1 hat1 hlt1; have R3 := HA.out.1.push (x := x) (g := g1) (cap := cp1) (by rw [HE.out.1]; exact hown1) hg1 hat1; have H3 := Lib.hid R3; clear hown1 hg1 hat1 hlt1 R3 c2' d2' b2))
        refine (HLg.out _ H3.out.bel).mono ?_
        rintro _ w4 ⟨rfl, q4, rfl⟩
        obtain ⟨w5, hw5⟩ : ∃ X, X = w3.drewN q4 := ⟨_, rfl⟩
        have R5 : RR W _ _ _ _ w5 := H3.out.below (by rw [hw5]; exact below_drewN (Below.refl _ _) q4)
        have bB := (Below.refl w5.heap.size w5).alloc (Nat.le_refl _) (.cells #[.int .u64 z] TU)
        have RB5 := R5.symm.below bB
        have hN5 := World.news_of_block (heap_alloc_new w5 (.cells #[.int .u64 z] TU))
        have H5 := Lib.hid (And.intro RB5 hN5)
        clear R5 RB5 hN5 bB
        rw [← hw5]
        clear hw5
        go_wp2_with (at_builtin; go_loud (refine wpList_append_lies _ rfl _ _ 36 rfl W.heap.size TU i0 (.int .u64 0) 1 8 Tryz.underlying36 hi hz0 hz1 hz2 rfl (by decide) _ _ _ rfl (by have := H5.out.1.a; rw [HE.out.2] at this; exact this) ⟨w5.heap.size, 0, none⟩ 1 1 [.int .u64 z] rfl rfl H5.out.2 (uc_one [z]) (by decide) (by unfold maxLen; omega) (by omega) H5.out.1.bel.size _ rfl ?_; intro g2 cp2 w6 hown2 hg2 hat2 hlt2; have R6 := (H5.out.1.push (x := z) (g := g2) (cap := cp2) (by rw [HE.out.2]; exact hown2) hg2 hat2).symm; have H6 := Lib.hid R6; clear hown2 hg2 hat2 hlt2 R6))
        go_roundw
        case rel =>
          have el : (rowsF L (k + 1)).length = n1 + 1 := by rw [HS.out, HSt.out, HR.out.1]; simp
          refine ⟨k + 1, by go_num, by omega, _, _, n1 + 1, cp1, cp2, rfl, rfl, Lib.hid ⟨el.symm, ?_⟩⟩
          have e := H6.out
          rw [List.length_append, List.length_append, HE.out.1, HE.out.2] at e
          rw [HS.out, HSt.out, if_pos rfl, List.map_append, List.map_append]
          exact e
        case measure => simp [intOf]; omega
      · have h0 : 0 < k := by omega
        have hkb : ((k : Int) == 0) = false := by simp; omega
        have d1' := d1 h0
        have hri' := hri h0
        have bd1' := bd1 h0
        have hb1 := bd.1
        have hb2 := bd.2
        obtain ⟨p, hp⟩ : ∃ p, p = k - 1 := ⟨_, rfl⟩
        rw [← hp] at d1'
        have e1 : (k : Int) - 1 = (p : Int) := by omega
        have hwp : IntKind.i64.wrap ((k : Int) - 1) = (p : Int) := by rw [e1]; exact IntWalk.i64_in _ (by omega)
        have hpm : (p : Int) < (m : Int) := by omega
        have hw : IntKind.u64.wrap (x - y) = x - y := IntWalk.u64_in _ (by omega)
        have hkb2 : (k == 0) = false := by simp; omega
        rw [hkb2, Bool.false_or] at hst
        clear d1 hri bd1 bd hp
        by_cases hd : x - y = 1
        · have HSt : Hid (isStart L k = false) := Lib.hid (by rw [hst, hd]; rfl)
          have hdb : (x - y != 1) = false := by simpa using hd
          clear hst hd
          go_wp2_with fail
          go_quiet (fail)
          clear hwp hw hdb e1 hkb hkb2
          go_wp2
          go_roundw
          case rel => exact ⟨k + 1, by go_num, by omega, A1, A2, n1, c1, c2, rfl, rfl, Lib.hid ⟨by rw [HS.out, HSt.out]; simpa using HR.out.1, by rw [HS.out, HSt.out]; simpa using HR.out.2.below (below_drewN (Below.refl _ _) _)⟩⟩
          case measure => simp [intOf]; omega
        · have HSt : Hid (isStart L k = true) := Lib.hid (by rw [hst]; exact decide_eq_true hd)
          have hdb : (x - y != 1) = true := by simpa using hd
          clear hst hd
          go_wp2_with fail
          go_quiet (fail)
          clear hwp hw hdb e1 hkb hkb2 hri' bd1' hb1 hb2 hpm
          have b2 : Below wr.heap.size wr (wr.drewN nq) := below_drewN (Below.refl _ _) _
          generalize wr.drewN nq = w2 at b2 ⊢
          have R2 := HR.out.2.below b2
          have HQ3 := HQ2.out.below b2
          have c2' := cell_of_row w2 Q 0 _ _ (0, 0) HQ3.box
          have d2' : w2.cell? ⟨g, k, none⟩ = some (.int .u64 x) := (b2.cell (World.block_lt_of_cell? _ _ d0)).trans d0
          have bA := (Below.refl w2.heap.size w2).alloc (Nat.le_refl _) (.cells #[.int .u64 x] TU)
          have RA := R2.below bA
          have hN := World.news_of_block (heap_alloc_new w2 (.cells #[.int .u64 x] TU))
          have HA := Lib.hid (And.intro RA (And.intro hN (And.intro b2 bA)))
          have e1 : ((rowsF L k).map (·.1)).length = n1 := by rw [List.length_map]; exact HR.out.1.symm
          have e2 : ((rowsF L k).map (·.2)).length = n1 := by rw [List.length_map]; exact HR.out.1.symm
          have HE := Lib.hid (And.intro e1 e2)
          clear R2 RA hN e1 e2 c0 d0 bA
          go_wp2_with (at_builtin; go_loud (refine wpList_append_lies _ rfl _ _ 36 rfl W.heap.size TU i0 (.int .u64 0) 1 8 Tryz.underlying36 hi hz0 hz1 hz2 rfl (by decide) _ _ _ rfl (by have := HA.out.1.a; rw [HE.out.1] at this; exact this) ⟨w2.heap.size, 0, none⟩ 1 1 [.int .u64 x] rfl rfl HA.out.2.1 (uc_one [x]) (by decide) (by unfold maxLen; omega) (by omega) HA.out.1.bel.size _ rfl ?_; intro g1 cp1 w3 hown1 hg1 hat1 hlt1; have R3 := HA.out.1.push (x := x) (g := g1) (cap := cp1) (by rw [HE.out.1]; exact hown1) hg1 hat1; have H3 := Lib.hid R3; clear hown1 hg1 hat1 hlt1 R3 c2' d2' b2))
          refine (HLg.out _ H3.out.bel).mono ?_
          rintro _ w4 ⟨rfl, q4, rfl⟩
          obtain ⟨w5, hw5⟩ : ∃ X, X = w3.drewN q4 := ⟨_, rfl⟩
          have R5 : RR W _ _ _ _ w5 := H3.out.below (by rw [hw5]; exact below_drewN (Below.refl _ _) q4)
          have bB := (Below.refl w5.heap.size w5).alloc (Nat.le_refl _) (.cells #[.int .u64 z] TU)
          have RB5 := R5.symm.below bB
          have hN5 := World.news_of_block (heap_alloc_new w5 (.cells #[.int .u64 z] TU))
          have H5 := Lib.hid (And.intro RB5 hN5)
          clear R5 RB5 hN5 bB
          rw [← hw5]
          clear hw5
          go_wp2_with (at_builtin; go_loud (refine wpList_append_lies _ rfl _ _ 36 rfl W.heap.size TU i0 (.int .u64 0) 1 8 Tryz.underlying36 hi hz0 hz1 hz2 rfl (by decide) _ _ _ rfl (by have := H5.out.1.a; rw [HE.out.2] at this; exact this) ⟨w5.heap.size, 0, none⟩ 1 1 [.int .u64 z] rfl rfl H5.out.2 (uc_one [z]) (by decide) (by unfold maxLen; omega) (by omega) H5.out.1.bel.size _ rfl ?_; intro g2 cp2 w6 hown2 hg2 hat2 hlt2; have R6 := (H5.out.1.push (x := z) (g := g2) (cap := cp2) (by rw [HE.out.2]; exact hown2) hg2 hat2).symm; have H6 := Lib.hid R6; clear hown2 hg2 hat2 hlt2 R6))
          go_roundw
          case rel =>
            have el : (rowsF L (k + 1)).length = n1 + 1 := by rw [HS.out, HSt.out, HR.out.1]; simp
            refine ⟨k + 1, by go_num, by omega, _, _, n1 + 1, cp1, cp2, rfl, rfl, Lib.hid ⟨el.symm, ?_⟩⟩
            have e := H6.out
            rw [List.length_append, List.length_append, HE.out.1, HE.out.2] at e
            rw [HS.out, HSt.out, if_pos rfl, List.map_append, List.map_append]
            exact e
          case measure => simp [intOf]; omega
    · obtain rfl : k = m := by omega
      go_wp2
      exact bodyPost_ret (results_tmp2 rfl _ _ _) rfl ⟨.slice A1 n1 c1, .slice A2 n1 c2, rfl, HR.out.2⟩
end Go.Proofs.YtpkkomifenlkaaaGreat.Gp
