/- picks.Fair: windows of a row. -/
import Derived.Test.YtnopmeadliaiiaaPickSort
namespace Go.Proofs.Ytnopmeadliaiiaa.Picks
open Go Go.RowKit picksNext

/-- The i-th window of a length. -/
def win (row : List Int) (l i : Nat) : List Int := (row.drop (i * l)).take l
/-- Each of the first k windows has all. -/
def fairTo (row who : List Int) (l k : Nat) : Prop := ∀ i, i < k → ∀ x ∈ who, x ∈ win row l i
theorem miss_nil (row who : List Int) : miss row who = [] ↔ ∀ x ∈ who, x ∈ row := by
  unfold miss
  rw [List.filter_eq_nil_iff]
  constructor
  · intro h x hx
    have := h x hx
    simp only [decide_eq_true_eq] at this
    exact List.count_pos_iff.1 (by omega)
  · intro h x hx
    have := List.count_pos_iff.2 (h x hx)
    simp only [decide_eq_true_eq]
    omega
theorem mul_facts (k l m0 m1 n : Nat) (h0 : k * l = m0) (h1 : (k + 1) * l = m1) (hn : m1 ≤ n) : 0 ≤ (k : Int) * (l : Int) ∧ 0 ≤ ((k : Int) + 1) * (l : Int) ∧ ((k : Int) + 1) * (l : Int) ≤ (n : Int) ∧ (k : Int) * (l : Int) ≤ ((k : Int) + 1) * (l : Int) := by
  have e0 : (k : Int) * (l : Int) = (m0 : Int) := by rw [← Int.natCast_mul, h0]
  have e1 : ((k : Int) + 1) * (l : Int) = (m1 : Int) := by rw [← h1, Int.natCast_mul, Int.natCast_add]; rfl
  have hm : m0 ≤ m1 := by rw [← h0, ← h1]; exact Nat.mul_le_mul_right l (by omega)
  rw [e0, e1]
  omega
theorem div_run (k G a : Nat) (hG : 0 < G) (h : a = k / G) (hk : k ≤ 1000) (hl : G ≤ 9223372036854775807) (W : World) : (binOp .quo 3 (.int .i64 (k : Int)) (.int .i64 (G : Int))).run Try.prog W = .ok (.int .i64 (a : Int)) W := by
  have hdiv : (k : Int).tdiv (G : Int) = (a : Int) := by rw [Int.tdiv_eq_ediv_of_nonneg (by omega), h, Int.natCast_ediv]
  have ha : a ≤ k := h ▸ Nat.div_le_self _ _
  have hG0 : ¬ (G : Int) = 0 := by omega
  have hG0b : ((G : Int) == 0) = false := by simpa using hG0
  have hGn : ¬ G = 0 := by omega
  have hkw : IntKind.i64.wrap (a : Int) = (a : Int) := IntWalk.i64_in _ ⟨by omega, by omega⟩
  clear h
  go_simp

theorem win_len (row : List Int) (l i : Nat) (h : (i + 1) * l ≤ row.length) : (win row l i).length = l := by
  unfold win
  rw [List.length_take, List.length_drop]
  have : (i + 1) * l = i * l + l := by rw [Nat.add_mul, Nat.one_mul]
  omega
theorem win_at (row : List Int) (l i j : Nat) (hj : j < l) : (win row l i).getD j 0 = row.getD (i * l + j) 0 := by
  unfold win
  rw [List.getD_eq_getElem?_getD, List.getElem?_take_of_lt hj, List.getElem?_drop, List.getD_eq_getElem?_getD]
theorem win_sub (row : List Int) (l i : Nat) : ∀ x ∈ win row l i, x ∈ row := fun _ hx => List.mem_of_mem_drop (List.mem_of_mem_take hx)

set_option maxRecDepth 100000 in
set_option maxHeartbeats 400000 in
theorem fair_pos (A B : Option Addr) (n m : Nat) (c d : Nat) (row who : List Int) (w : World) (l : Nat) (hl1 : 1 ≤ l) (hl2 : l ≤ 9223372036854775807) (hrl : row.length = n) (hwl : who.length = m) (hn : n ≤ 1000) (hm : m ≤ 1000) (hnc : n ≤ c) (ha : Rd w A n row) (hb : Rd w B m who) (hwr : Wf row) (hww : Wf who) :
    Calls Try.prog 10 #[.slice A n c, .slice B m d, .int .i64 (l : Int)] w fun e w' => (∃ b, e = .returned (.bool b) ∧ (b = true ↔ fairTo row who l (n / l))) ∧ Below w.heap.size w w' := by
  have hlp : ¬ (l : Int) < 1 := by omega
  have hBox := Lib.hid (show Below w.heap.size w (w.alloc (.cells #[.slice B m d] 22)) from (Below.refl _ _).alloc (Nat.le_refl _) _)
  have HV := Lib.hid (values_any B m d w)
  have HS := Lib.hid (sorted_any w.heap.size B m d who (w.alloc (.cells #[.slice B m d] 22)) (hb.below hBox.out) hwl (by omega) (by simp) (by simp))
  have HA := Lib.hid (And.intro ha (And.intro hrl hwr))
  have HW := Lib.hid hww
  obtain ⟨q, hq⟩ : ∃ q, q = n / l := ⟨_, rfl⟩
  have hqn : q ≤ n := hq ▸ Nat.div_le_self _ _
  have e0 : (n : Int) / (l : Int) = (q : Int) := by rw [hq, Int.natCast_ediv]
  have e0t : (n : Int).tdiv (l : Int) = (q : Int) := by rw [Int.tdiv_eq_ediv_of_nonneg (by omega)]; exact e0
  rw [← hq]
  have HQ := Lib.hid hq
  clear ha hb hrl hwl hwr hww hq
  go_enter Try.func10, Try.ntmps10
  go_wp2_with fail
  refine HV.out.mono ?_
  rintro e w1 ⟨rfl, rfl⟩
  go_wp2_with fail
  refine HS.out.mono ?_
  rintro e w2 ⟨⟨u, rfl, hrow⟩, hb2⟩
  obtain ⟨A1, c1, hu⟩ := own_form hrow
  subst hu
  have HB2 := Lib.hid (And.intro hrow (hBox.out.trans (hb2.mono (by simp))))
  have HC := Lib.hid (compact_own A1 m c1 _ _ w2 hrow (by omega))
  clear hrow hb2
  go_wp2_with fail
  refine HC.out.mono ?_
  rintro e w3 ⟨⟨A2, c2, n2, rfl, ys, hys, hn2, hrow3, hmem⟩, hb3⟩
  have HB3 := Lib.hid (show Below w.heap.size w w3 from HB2.out.2.trans (hb3.mono (by simp)))
  have HE := Lib.hid (And.intro (rd_own hrow3) (And.intro hys hmem))
  clear hrow3 hb3 hmem hys
  go_wp2
  go_loopw [19] (fun i wr => ∃ k : Nat, i = .int .i64 (k : Int) ∧ k ≤ q ∧ Hid (Below w.heap.size w wr) ∧ Hid (Below w3.heap.size w3 wr) ∧ Hid (fairTo row who l k)) (fun i _ => q - (intOf i).toNat)
  case atStart => exact ⟨0, rfl, Nat.zero_le _, HB3, Lib.hid (Below.refl _ _), Lib.hid (fun i hi => absurd hi (by omega))⟩
  case round =>
    obtain ⟨k, rfl, hk, hbw, hb3, hfa⟩ := hrel
    by_cases hlt : k < q
    · have hmul : (k + 1) * l ≤ n := Nat.le_trans (Nat.mul_le_mul_right l (by omega : k + 1 ≤ q)) (by rw [HQ.out]; exact Nat.div_mul_le_self n l)
      obtain ⟨m0, hm0⟩ : ∃ m0, k * l = m0 := ⟨_, rfl⟩
      obtain ⟨m1, hm1⟩ : ∃ m1, (k + 1) * l = m1 := ⟨_, rfl⟩
      have hm1e : m1 = m0 + l := by rw [← hm1, Nat.add_mul, Nat.one_mul, hm0]
      rw [hm1] at hmul
      have HM := Lib.hid (And.intro hm0 (And.intro hmul (And.intro hm1 hm1e)))
      have HI := Lib.hid (mul_facts k l m0 m1 n hm0 hm1 hmul)
      clear hm0 hm1 hm1e hmul
      obtain ⟨q1, q3, q4, q5⟩ := HI.out
      obtain ⟨b, off, hA, hbl, hcl⟩ := HA.out.1.below hbw.out (by omega)
      subst hA
      have hm1 := HM.out
      have hs1 : (k + 1) * l - k * l = l := by rw [Nat.add_mul, Nat.one_mul, Nat.add_sub_cancel_left]
      have hkn : (k + 1) * l ≤ n := by rw [HM.out.2.2.1]; exact HM.out.2.1
      have hll : l ≤ 1000 := Nat.le_trans (by rw [Nat.add_mul, Nat.one_mul]; exact Nat.le_add_left _ _ : l ≤ (k + 1) * l) (by omega)
      have hrn := HA.out.2.1
      have hR1 : Rd wr (some ⟨b, off + k * l, none⟩) l (win row l k) := fun _ => ⟨b, off + k * l, rfl, hbl, fun i hi => by
        rw [win_at _ _ _ _ hi, Nat.add_assoc]
        exact hcl _ (by have : (k + 1) * l = k * l + l := by rw [Nat.add_mul, Nat.one_mul]
                        omega)⟩
      have HMi := missing_any (some ⟨b, off + k * l, none⟩) A2 l n2 (c - k * l) c2 (win row l k) ys wr (win_len row l k (by omega)) HE.out.2.1.symm hll (by omega) hR1 (HE.out.1.below hb3.out)
        (fun x hx => HA.out.2.2 x (win_sub _ _ _ x hx)) (fun x hx => HW.out x (List.mem_mergeSort.1 ((HE.out.2.2 x).1 hx)))
      have HMj : ∀ l', l' = l → Calls Try.prog 8 #[.slice (some ⟨b, off + k * l, none⟩) l' (c - k * l), .slice A2 n2 c2] wr fun e w' => ∃ A' r c', e = .returned (.slice A' r c') ∧ r = (miss (win row l k) ys).length ∧ w'.ownsRow wr.heap.size 3 1 (.slice A' r c') r (ints (miss (win row l k) ys)) ∧ Below wr.heap.size wr w' := fun l' hl' => by subst hl'; exact HMi
      have HMi := Lib.hid (HMj _ hs1)
      clear HMj
      have hcm : ¬ c = k * l := fun h => by
        have : (k + 1) * l = k * l + l := by rw [Nat.add_mul, Nat.one_mul]
        omega
      have hFa : Hid (∀ r, r = (miss (win row l k) ys).length → (r = 0 → fairTo row who l (k + 1)) ∧ (0 < r → ¬ fairTo row who l q)) := Lib.hid fun r hr => by
        refine ⟨fun h0 i hi x hx => ?_, fun h0 hall => ?_⟩
        · by_cases hik : i = k
          · subst hik
            have hn0 := List.eq_nil_of_length_eq_zero (hr.symm.trans h0)
            exact (miss_nil _ _).1 hn0 x ((HE.out.2.2 x).2 (List.mem_mergeSort.2 hx))
          · exact hfa.out i (by omega) x hx
        · have : miss (win row l k) ys = [] := (miss_nil _ _).2 fun x hx => hall k hlt x (List.mem_mergeSort.1 ((HE.out.2.2 x).1 hx))
          rw [this] at hr
          simp at hr
          omega
      have hkl := HM.out.1
      clear hcl hm1 hs1 hrn hR1 hkl hkn
      go_wp2_with fail
      refine HMi.out.mono ?_
      rintro e w4 ⟨A4, r, c4, rfl, hr, _, hb4⟩
      have HR := Lib.hid (hFa.out r hr)
      have HB4 := Lib.hid (And.intro (hbw.out.trans (hb4.mono hbw.out.size)) (hb3.out.trans (hb4.mono hb3.out.size)))
      clear hr hb4
      by_cases h0 : r = 0
      · have HF := Lib.hid (HR.out.1 h0)
        subst h0
        clear HR
        go_wp2
        exact ⟨⟨k + 1, by go_num, by omega, Lib.hid HB4.out.1, Lib.hid HB4.out.2, HF⟩, by simp [intOf]; omega⟩
      · have hr0 : (0 : Int) < (r : Int) := by omega
        have h0b : ((r : Int) == 0) = false := by simp; omega
        have HF := Lib.hid (HR.out.2 (by omega))
        go_wp2
        go_ret
        exact ⟨⟨false, rfl, by simp [HF.out]⟩, HB4.out.1⟩
    · obtain rfl : k = q := by omega
      go_wp2
      go_ret
      exact ⟨⟨true, rfl, by simp [hfa.out]⟩, hbw.out⟩

theorem fair_no (A B : Option Addr) (n m c d : Nat) (L : Int) (h : L < 1) (w : World) :
    Calls Try.prog 10 #[.slice A n c, .slice B m d, .int .i64 L] w fun e w' => e = .returned (.bool false) ∧ w' = w := by
  go_enter Try.func10, Try.ntmps10
  go_wp2
  go_ret
  exact ⟨rfl, rfl⟩
end Go.Proofs.Ytnopmeadliaiiaa.Picks
