/- The page's Fair. -/
import Derived.Test.YteajilefhkckeaaPickFRef
namespace Go.Proofs.Yteajilefhkckeaa.Picks
open Go Go.RowKit picksNext

theorem step_facts (k l q n a : Nat) (hq : q = n / l) (hl : 1 ≤ l) (ha : a = k * l) : (a + l ≤ n → k < q ∧ a + l = (k + 1) * l) ∧ (k ≤ q → ¬ a + l ≤ n → k = q) := by
  have e : (k + 1) * l = a + l := by rw [Nat.add_mul, Nat.one_mul, ha]
  constructor
  · intro h
    refine ⟨?_, e.symm⟩
    rw [hq]
    exact (Nat.le_div_iff_mul_le (by omega)).2 (by rw [Nat.succ_eq_add_one, e]; exact h)
  · intro hk h
    rcases Nat.lt_or_ge k q with h1 | h1
    · have := (Nat.le_div_iff_mul_le (by omega)).1 (hq ▸ h1 : k + 1 ≤ n / l)
      rw [e] at this
      exact absurd this h
    · omega

set_option maxRecDepth 100000 in
set_option maxHeartbeats 1000000 in
theorem rfair_far (A B : Option Addr) (n m c d : Nat) (row who : List Int) (l : Nat) (w : World) (h : n < l) :
    Calls Try.prog 22 #[.slice A n c, .slice B m d, .int .i64 (l : Int)] w fun e w' => (∃ b, e = .returned (.bool b) ∧ (b = true ↔ fairTo row who l (n / l))) ∧ Below w.heap.size w w' := by
  have hp : (n : Int) < (l : Int) := by omega
  have HF := Lib.hid (show fairTo row who l (n / l) from fun i hi => absurd hi (by rw [Nat.div_eq_of_lt h]; omega))
  go_enter Try.func22, Try.ntmps22
  go_wp2
  go_ret
  exact ⟨⟨true, rfl, by simp [HF.out]⟩, Below.refl _ _⟩

set_option maxRecDepth 100000 in
set_option maxHeartbeats 1000000 in
theorem rfair_any (A B : Option Addr) (n m c d : Nat) (row who : List Int) (l : Nat) (w : World) (hl1 : 1 ≤ l) (hl2 : l ≤ n) (hrl : row.length = n) (hwl : who.length = m) (hn : n ≤ 100) (hm : m ≤ 100) (hnc : n ≤ c) (ha : Rd w A n row) (hb : Rd w B m who) :
    Calls Try.prog 22 #[.slice A n c, .slice B m d, .int .i64 (l : Int)] w fun e w' => (∃ b, e = .returned (.bool b) ∧ (b = true ↔ fairTo row who l (n / l))) ∧ Below w.heap.size w w' := by
  have HA := Lib.hid (And.intro ha hrl)
  have HB := Lib.hid (And.intro hb hwl)
  clear ha hb hrl hwl
  obtain ⟨q, hq⟩ : ∃ q, q = n / l := ⟨_, rfl⟩
  rw [← hq]
  have HQ := Lib.hid hq
  have hqn : q ≤ n := hq ▸ Nat.div_le_self _ _
  clear hq
  have hnl : ¬ n < l := by omega
  have hd : decide (n < l) = false := by simpa using hl2
  go_enter Try.func22, Try.ntmps22
  go_wp2
  go_loopw [7] (fun i wr => ∃ a : Nat, i = .int .i64 (a : Int) ∧ a ≤ n ∧ Hid (Below w.heap.size w wr) ∧ Hid (∃ k, a = k * l ∧ k ≤ q ∧ fairTo row who l k)) (fun i _ => n - (intOf i).toNat)
  case atStart => exact ⟨0, rfl, Nat.zero_le _, Lib.hid (Below.refl _ _), Lib.hid ⟨0, by simp, Nat.zero_le _, fun i hi => absurd hi (by omega)⟩⟩
  case round =>
    obtain ⟨a, rfl, hk, hbw, hka⟩ := hrel
    by_cases hlt : a + l ≤ n
    · obtain ⟨b, off, hA, hbl, hc⟩ := HA.out.1.below hbw.out (by omega)
      subst hA
      have hR1 : Rd wr (some ⟨b, off + a, none⟩) l ((row.drop a).take l) := fun _ => ⟨b, off + a, rfl, hbl, fun i hi => by
        rw [List.getD_eq_getElem?_getD, List.getElem?_take_of_lt hi, List.getElem?_drop, ← List.getD_eq_getElem?_getD, Nat.add_assoc]
        exact hc _ (by omega)⟩
      have hlen : ((row.drop a).take l).length = l := by have := HA.out.2; simp; omega
      have HMi := rmissing_any (some ⟨b, off + a, none⟩) B l m (c - a) d ((row.drop a).take l) who wr hlen HB.out.2 (by omega) hm hR1 (HB.out.1.below hbw.out)
      have HMi := Lib.hid HMi
      have hca : ¬ c = a := by omega
      have hFa : Hid (∀ r, r = (miss ((row.drop a).take l) who).length → (r = 0 → ∃ k, a + l = k * l ∧ k ≤ q ∧ fairTo row who l k) ∧ (0 < r → ¬ fairTo row who l q)) := Lib.hid fun r hr => by
        obtain ⟨k, hk, hkq, hf⟩ := hka.out
        obtain ⟨h1, h2⟩ := (step_facts k l q n a HQ.out hl1 hk).1 hlt
        subst hk
        refine ⟨fun h0 => ⟨k + 1, h2, by omega, fun i hi x hx => ?_⟩, fun h0 hall => ?_⟩
        · by_cases hik : i = k
          · subst hik
            have hn0 := List.eq_nil_of_length_eq_zero (hr.symm.trans h0)
            exact (miss_nil _ _).1 hn0 x hx
          · exact hf i (by omega) x hx
        · have : miss ((row.drop (k * l)).take l) who = [] := (miss_nil _ _).2 fun x hx => hall k h1 x hx
          rw [this] at hr
          simp at hr
          omega
      clear hc hR1 hlen
      go_wp2_with fail
      refine HMi.out.mono ?_
      rintro e w4 ⟨A4, r, c4, rfl, hr, _, hb4⟩
      have HR := Lib.hid (hFa.out r hr)
      have HB4 := Lib.hid (hbw.out.trans (hb4.mono hbw.out.size))
      clear hr hb4
      by_cases h0 : r = 0
      · have HF := Lib.hid (HR.out.1 h0)
        subst h0
        clear HR
        go_wp2
        go_roundw
        case rel => exact ⟨a + l, by go_num, by omega, HB4, HF⟩
        case measure => simp [intOf]; omega
      · have hr0 : (0 : Int) < (r : Int) := by omega
        have h0b : ((r : Int) == 0) = false := by simp; omega
        have HF := Lib.hid (HR.out.2 (by omega))
        go_wp2
        go_ret
        exact ⟨⟨false, rfl, by simp [HF.out]⟩, HB4.out⟩
    · have HF := Lib.hid (show fairTo row who l q by
        obtain ⟨k, hk, hkq, hf⟩ := hka.out
        have := (step_facts k l q n a HQ.out hl1 hk).2 hkq hlt
        subst this
        exact hf)
      go_wp2
      go_ret
      exact ⟨⟨true, rfl, by simp [HF.out]⟩, hbw.out⟩
end Go.Proofs.Yteajilefhkckeaa.Picks
