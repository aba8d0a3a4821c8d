/- Which events are right: event.Right, and the page's. -/
import Derived.Test.YthamemaomedldaaEventRows
import Derived.Test.YthamemaomedldaaPacketRef
namespace Go.Proofs.Ythamemaomedldaa.Ev
open Go Go.RowKit Num Texts
open Packet (P5 textB)

def E8.p (m : E8) : P5 := ⟨m.c, m.f, m.s, m.t, m.d⟩
def E8.wf (m : E8) : Prop := (0 ≤ m.h ∧ m.h < 18446744073709551616) ∧ 0 ≤ m.s ∧ m.s < 18446744073709551616 ∧ 0 ≤ m.t ∧ m.t < 18446744073709551616 ∧ m.d.size ≤ maxLen
def pB (p : P5) : Bool := decide (0 ≤ p.c ∧ p.c < 4 ∧ (p.f = 0 ∨ p.f = 1) ∧ p.d.size ≤ 64)
theorem pB_iff (p : P5) : pB p = true ↔ p.right := by unfold pB P5.right; exact decide_eq_true_iff
/-- Is an event right? -/
def eright (m : E8) : Bool := pB m.p && decide (m.a.size ≤ 64) && decide ((m.k = 2 ∨ m.k = 3) ∨ ((m.k = 1 ∨ m.k = 4 ∨ m.k = 5) ∧ m.a.size = 0))
theorem pright_b (p : P5) (w : World) : Calls Try.prog 47 #[.agg #[.int .i64 p.c, .int .i64 p.f, .int .u64 p.s, .int .u64 p.t, .string p.d]] w fun e w' => e = .returned (.bool (pB p)) ∧ Below w.heap.size w w' := by
  cases h : pB p with
  | true => exact Packet.right_yes p ((pB_iff p).1 h) w
  | false => exact Packet.right_no p (fun hr => by rw [(pB_iff p).2 hr] at h; cases h) w
theorem rpright_b (p : P5) (w : World) : Calls Try.prog 15 #[.agg #[.int .i64 p.c, .int .i64 p.f, .int .u64 p.s, .int .u64 p.t, .string p.d]] w fun e w' => e = .returned (.bool (pB p)) ∧ Below w.heap.size w w' := by
  cases h : pB p with
  | true => exact Packet.rright_yes p ((pB_iff p).1 h) w
  | false => exact Packet.rright_no p (fun hr => by rw [(pB_iff p).2 hr] at h; cases h) w
theorem empty_facts {a : ByteArray} (h : a.size = 0) : a.toList = [] ∧ a.toList.isEmpty = true ∧ (a.size : Int) ≤ 64 := by
  have hl : a.toList = [] := by rw [ByteArray.toList_eq]; exact List.eq_nil_of_length_eq_zero h
  exact ⟨hl, by rw [hl]; rfl, by omega⟩
theorem full_facts {a : ByteArray} (h : ¬ a.size = 0) : (¬ a.toList = []) ∧ a.toList.isEmpty = false := by
  have hl : ¬ a.toList = [] := fun e => h (by have := congrArg List.length e; rw [ByteArray.toList_eq] at this; exact this)
  refine ⟨hl, ?_⟩
  cases hx : a.toList with
  | nil => exact absurd hx hl
  | cons _ _ => rfl

set_option maxHeartbeats 4000000 in
theorem eright_any (m : E8) (w : World) :
    Calls Try.prog 27 #[.agg #[.int .i64 m.k, .int .u64 m.h, .int .i64 m.c, .int .i64 m.f, .int .u64 m.s, .int .u64 m.t, .string m.d, .string m.a]] w fun e w' => e = .returned (.bool (eright m)) ∧ Below w.heap.size w w' := by
  have hB : ∀ o, Below w.heap.size w (w.alloc o) := fun o => (Below.refl _ _).alloc (Nat.le_refl _) _
  have HP : Hid (∀ W, Calls Try.prog 47 #[.agg #[.int .i64 m.c, .int .i64 m.f, .int .u64 m.s, .int .u64 m.t, .string m.d]] W fun e w' => e = .returned (.bool (pB m.p)) ∧ Below W.heap.size W w') := Lib.hid (fun W => pright_b m.p W)
  have HR : Hid (eright m = (pB m.p && decide (m.a.size ≤ 64) && decide ((m.k = 2 ∨ m.k = 3) ∨ ((m.k = 1 ∨ m.k = 4 ∨ m.k = 5) ∧ m.a.size = 0)))) := Lib.hid rfl
  generalize eright m = r at HR ⊢
  generalize pB m.p = pb at HP HR
  by_cases hk : m.k = 1 ∨ m.k = 4 ∨ m.k = 5
  · by_cases ha : m.a.size = 0
    · obtain ⟨a1, a2, a3⟩ := empty_facts ha
      have hr : r = pb := by rw [HR.out, decide_eq_true (show m.a.size ≤ 64 by omega), decide_eq_true (.inr ⟨hk, ha⟩)]; simp
      subst hr
      clear HR ha
      rcases hk with hk | hk | hk
      all_goals
        cases r
        all_goals
          go_enter Try.func27, Try.ntmps27
          go_wp2_with fail
          refine (HP.out _).mono ?_
          rintro _ w1 ⟨rfl, b1⟩
          have hb1 : Below w.heap.size w w1 := Below.trans (hB _) (Below.mono (B' := w.heap.size) b1 (by simp))
          have c0 : w1.cell? ⟨w.heap.size, 0, none⟩ = some (.int .i64 m.k) := (b1.cell (p := ⟨w.heap.size, 0, none⟩) (by simp)).trans (by first | (simp; done) | (simp; omega))
          have c7 : w1.cell? ⟨w.heap.size, 7, none⟩ = some (.string m.a) := (b1.cell (p := ⟨w.heap.size, 7, none⟩) (by simp)).trans (by simp)
          clear b1
          go_wp2
          go_ret
          exact ⟨by rfl, hb1⟩
    · obtain ⟨a1, a2⟩ := full_facts ha
      have hr : r = false := by rw [HR.out, decide_eq_false (show ¬ ((m.k = 2 ∨ m.k = 3) ∨ ((m.k = 1 ∨ m.k = 4 ∨ m.k = 5) ∧ m.a.size = 0)) by omega)]; simp
      subst hr
      clear HR ha HP
      rcases hk with hk | hk | hk
      all_goals
        go_enter Try.func27, Try.ntmps27
        go_wp2
        go_ret
        exact ⟨rfl, hB _⟩
  · by_cases hk2 : m.k = 2 ∨ m.k = 3
    · by_cases ha : m.a.size ≤ 64
      · have a1 : (m.a.size : Int) ≤ 64 := by omega
        have hr : r = pb := by rw [HR.out, decide_eq_true ha, decide_eq_true (.inl hk2)]; simp
        subst hr
        clear HR ha hk
        rcases hk2 with hk | hk
        all_goals
          cases r
          all_goals
            go_enter Try.func27, Try.ntmps27
            go_wp2_with fail
            refine (HP.out _).mono ?_
            rintro _ w1 ⟨rfl, b1⟩
            have hb1 : Below w.heap.size w w1 := Below.trans (hB _) (Below.mono (B' := w.heap.size) b1 (by simp))
            have c0 : w1.cell? ⟨w.heap.size, 0, none⟩ = some (.int .i64 m.k) := (b1.cell (p := ⟨w.heap.size, 0, none⟩) (by simp)).trans (by first | (simp; done) | (simp; omega))
            have c7 : w1.cell? ⟨w.heap.size, 7, none⟩ = some (.string m.a) := (b1.cell (p := ⟨w.heap.size, 7, none⟩) (by simp)).trans (by simp)
            clear b1
            go_wp2
            go_ret
            exact ⟨by rfl, hb1⟩
      · have a1 : ¬ (m.a.size : Int) ≤ 64 := by omega
        have a2 : decide ((m.a.size : Int) ≤ 64) = false := decide_eq_false a1
        have hr : r = false := by rw [HR.out, decide_eq_false ha]; simp
        subst hr
        clear HR ha hk
        rcases hk2 with hk | hk
        all_goals
          cases pb
          all_goals
            go_enter Try.func27, Try.ntmps27
            go_wp2_with fail
            refine (HP.out _).mono ?_
            rintro _ w1 ⟨rfl, b1⟩
            have hb1 : Below w.heap.size w w1 := Below.trans (hB _) (Below.mono (B' := w.heap.size) b1 (by simp))
            have c0 : w1.cell? ⟨w.heap.size, 0, none⟩ = some (.int .i64 m.k) := (b1.cell (p := ⟨w.heap.size, 0, none⟩) (by simp)).trans (by first | (simp; done) | (simp; omega))
            have c7 : w1.cell? ⟨w.heap.size, 7, none⟩ = some (.string m.a) := (b1.cell (p := ⟨w.heap.size, 7, none⟩) (by simp)).trans (by simp)
            clear b1
            go_wp2
            go_ret
            exact ⟨by first | rfl | (rw [← a2]; rfl), hb1⟩
    · have hr : r = false := by rw [HR.out, decide_eq_false (show ¬ ((m.k = 2 ∨ m.k = 3) ∨ ((m.k = 1 ∨ m.k = 4 ∨ m.k = 5) ∧ m.a.size = 0)) by omega)]; simp
      subst hr
      have k1 : (m.k == 1) = false := by simp; omega
      have k2 : (m.k == 2) = false := by simp; omega
      have k3 : (m.k == 3) = false := by simp; omega
      have k4 : (m.k == 4) = false := by simp; omega
      have k5 : (m.k == 5) = false := by simp; omega
      clear HR hk hk2 HP
      go_enter Try.func27, Try.ntmps27
      go_wp2
      go_ret
      exact ⟨rfl, hB _⟩

set_option maxHeartbeats 4000000 in
theorem reright_any (m : E8) (w : World) :
    Calls Try.prog 6 #[.agg #[.int .i64 m.k, .int .u64 m.h, .int .i64 m.c, .int .i64 m.f, .int .u64 m.s, .int .u64 m.t, .string m.d, .string m.a]] w fun e w' => e = .returned (.bool (eright m)) ∧ Below w.heap.size w w' := by
  have hB : ∀ o, Below w.heap.size w (w.alloc o) := fun o => (Below.refl _ _).alloc (Nat.le_refl _) _
  have HP : Hid (∀ W, Calls Try.prog 15 #[.agg #[.int .i64 m.c, .int .i64 m.f, .int .u64 m.s, .int .u64 m.t, .string m.d]] W fun e w' => e = .returned (.bool (pB m.p)) ∧ Below W.heap.size W w') := Lib.hid (fun W => rpright_b m.p W)
  have HR : Hid (eright m = (pB m.p && decide (m.a.size ≤ 64) && decide ((m.k = 2 ∨ m.k = 3) ∨ ((m.k = 1 ∨ m.k = 4 ∨ m.k = 5) ∧ m.a.size = 0)))) := Lib.hid rfl
  generalize eright m = r at HR ⊢
  generalize pB m.p = pb at HP HR
  by_cases h1 : m.k < 1
  · have hr : r = false := by rw [HR.out, decide_eq_false (show ¬ ((m.k = 2 ∨ m.k = 3) ∨ ((m.k = 1 ∨ m.k = 4 ∨ m.k = 5) ∧ m.a.size = 0)) by omega)]; simp
    subst hr
    clear HR HP
    go_enter Try.func6, Try.ntmps6
    go_wp2
    go_ret
    exact ⟨rfl, hB _⟩
  · by_cases h5 : 5 < m.k
    · have hr : r = false := by rw [HR.out, decide_eq_false (show ¬ ((m.k = 2 ∨ m.k = 3) ∨ ((m.k = 1 ∨ m.k = 4 ∨ m.k = 5) ∧ m.a.size = 0)) by omega)]; simp
      subst hr
      clear HR HP
      go_enter Try.func6, Try.ntmps6
      go_wp2
      go_ret
      exact ⟨rfl, hB _⟩
    · cases pb with
      | false =>
        have hr : r = false := by rw [HR.out]; simp
        subst hr
        clear HR
        go_enter Try.func6, Try.ntmps6
        go_wp2_with fail
        refine (HP.out _).mono ?_
        rintro _ w1 ⟨rfl, b1⟩
        have hb1 : Below w.heap.size w w1 := Below.trans (hB _) (Below.mono (B' := w.heap.size) b1 (by simp))
        have c0 : w1.cell? ⟨w.heap.size, 0, none⟩ = some (.int .i64 m.k) := (b1.cell (p := ⟨w.heap.size, 0, none⟩) (by simp)).trans (by first | (simp; done) | (simp; omega))
        have c7 : w1.cell? ⟨w.heap.size, 7, none⟩ = some (.string m.a) := (b1.cell (p := ⟨w.heap.size, 7, none⟩) (by simp)).trans (by simp)
        clear b1
        go_wp2
        go_ret
        exact ⟨by rfl, hb1⟩
      | true =>
        by_cases ha : m.a.size ≤ 64
        · have a1 : (m.a.size : Int) ≤ 64 := by omega
          by_cases ha0 : m.a.size = 0
          · obtain ⟨a2, a3, _⟩ := empty_facts ha0
            have hr : r = true := by rw [HR.out, decide_eq_true ha, decide_eq_true (show ((m.k = 2 ∨ m.k = 3) ∨ ((m.k = 1 ∨ m.k = 4 ∨ m.k = 5) ∧ m.a.size = 0)) by omega)]; simp
            subst hr
            clear HR ha ha0
            go_enter Try.func6, Try.ntmps6
            go_wp2_with fail
            refine (HP.out _).mono ?_
            rintro _ w1 ⟨rfl, b1⟩
            have hb1 : Below w.heap.size w w1 := Below.trans (hB _) (Below.mono (B' := w.heap.size) b1 (by simp))
            have c0 : w1.cell? ⟨w.heap.size, 0, none⟩ = some (.int .i64 m.k) := (b1.cell (p := ⟨w.heap.size, 0, none⟩) (by simp)).trans (by first | (simp; done) | (simp; omega))
            have c7 : w1.cell? ⟨w.heap.size, 7, none⟩ = some (.string m.a) := (b1.cell (p := ⟨w.heap.size, 7, none⟩) (by simp)).trans (by simp)
            clear b1
            go_wp2
            go_ret
            exact ⟨by rfl, hb1⟩
          · obtain ⟨a2, a3⟩ := full_facts ha0
            by_cases h2 : m.k = 2
            · have hr : r = true := by rw [HR.out, decide_eq_true ha, decide_eq_true (show ((m.k = 2 ∨ m.k = 3) ∨ ((m.k = 1 ∨ m.k = 4 ∨ m.k = 5) ∧ m.a.size = 0)) by omega)]; simp
              subst hr
              clear HR ha ha0
              go_enter Try.func6, Try.ntmps6
              go_wp2_with fail
              refine (HP.out _).mono ?_
              rintro _ w1 ⟨rfl, b1⟩
              have hb1 : Below w.heap.size w w1 := Below.trans (hB _) (Below.mono (B' := w.heap.size) b1 (by simp))
              have c0 : w1.cell? ⟨w.heap.size, 0, none⟩ = some (.int .i64 m.k) := (b1.cell (p := ⟨w.heap.size, 0, none⟩) (by simp)).trans (by first | (simp; done) | (simp; omega))
              have c7 : w1.cell? ⟨w.heap.size, 7, none⟩ = some (.string m.a) := (b1.cell (p := ⟨w.heap.size, 7, none⟩) (by simp)).trans (by simp)
              clear b1
              go_wp2
              go_ret
              exact ⟨by rfl, hb1⟩
            · have h2b : (m.k == 2) = false := by simpa using h2
              by_cases h3 : m.k = 3
              · have hr : r = true := by rw [HR.out, decide_eq_true ha, decide_eq_true (show ((m.k = 2 ∨ m.k = 3) ∨ ((m.k = 1 ∨ m.k = 4 ∨ m.k = 5) ∧ m.a.size = 0)) by omega)]; simp
                subst hr
                clear HR ha ha0
                go_enter Try.func6, Try.ntmps6
                go_wp2_with fail
                refine (HP.out _).mono ?_
                rintro _ w1 ⟨rfl, b1⟩
                have hb1 : Below w.heap.size w w1 := Below.trans (hB _) (Below.mono (B' := w.heap.size) b1 (by simp))
                have c0 : w1.cell? ⟨w.heap.size, 0, none⟩ = some (.int .i64 m.k) := (b1.cell (p := ⟨w.heap.size, 0, none⟩) (by simp)).trans (by first | (simp; done) | (simp; omega))
                have c7 : w1.cell? ⟨w.heap.size, 7, none⟩ = some (.string m.a) := (b1.cell (p := ⟨w.heap.size, 7, none⟩) (by simp)).trans (by simp)
                clear b1
                go_wp2
                go_ret
                exact ⟨by rfl, hb1⟩
              · have h3b : (m.k == 3) = false := by simpa using h3
                have hr : r = false := by rw [HR.out, decide_eq_false (show ¬ ((m.k = 2 ∨ m.k = 3) ∨ ((m.k = 1 ∨ m.k = 4 ∨ m.k = 5) ∧ m.a.size = 0)) by omega)]; simp
                subst hr
                clear HR ha ha0
                go_enter Try.func6, Try.ntmps6
                go_wp2_with fail
                refine (HP.out _).mono ?_
                rintro _ w1 ⟨rfl, b1⟩
                have hb1 : Below w.heap.size w w1 := Below.trans (hB _) (Below.mono (B' := w.heap.size) b1 (by simp))
                have c0 : w1.cell? ⟨w.heap.size, 0, none⟩ = some (.int .i64 m.k) := (b1.cell (p := ⟨w.heap.size, 0, none⟩) (by simp)).trans (by first | (simp; done) | (simp; omega))
                have c7 : w1.cell? ⟨w.heap.size, 7, none⟩ = some (.string m.a) := (b1.cell (p := ⟨w.heap.size, 7, none⟩) (by simp)).trans (by simp)
                clear b1
                go_wp2
                go_ret
                exact ⟨by rfl, hb1⟩
        · have a1 : ¬ (m.a.size : Int) ≤ 64 := by omega
          have a2 : (64 : Int) < (m.a.size : Int) := by omega
          have hr : r = false := by rw [HR.out, decide_eq_false ha]; simp
          subst hr
          clear HR ha
          go_enter Try.func6, Try.ntmps6
          go_wp2_with fail
          refine (HP.out _).mono ?_
          rintro _ w1 ⟨rfl, b1⟩
          have hb1 : Below w.heap.size w w1 := Below.trans (hB _) (Below.mono (B' := w.heap.size) b1 (by simp))
          have c0 : w1.cell? ⟨w.heap.size, 0, none⟩ = some (.int .i64 m.k) := (b1.cell (p := ⟨w.heap.size, 0, none⟩) (by simp)).trans (by first | (simp; done) | (simp; omega))
          have c7 : w1.cell? ⟨w.heap.size, 7, none⟩ = some (.string m.a) := (b1.cell (p := ⟨w.heap.size, 7, none⟩) (by simp)).trans (by simp)
          clear b1
          go_wp2
          go_ret
          exact ⟨by rfl, hb1⟩
end Go.Proofs.Ythamemaomedldaa.Ev
