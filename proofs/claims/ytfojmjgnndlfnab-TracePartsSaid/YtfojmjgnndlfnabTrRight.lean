/- Marks; which events are right: event.Right, and the page's. -/
import Derived.Test.YtfojmjgnndlfnabCommon
import Derived.Deep.RegionHeld3
namespace Go.Proofs.Ytfojmjgnndlfnab.Tr
open Go Go.RowKit
set_option linter.unusedVariables false

/-- a mark -/
structure Mk where
  sd : Int
  k : Int
  h : Int
  c : Int
  f : Int
  s : Int
  t : Int
  d : ByteArray
  a : ByteArray
def Mk.cells (m : Mk) : Array Value := #[.int .i64 m.sd, .int .i64 m.k, .int .u64 m.h, .int .i64 m.c, .int .i64 m.f, .int .u64 m.s, .int .u64 m.t, .string m.d, .string m.a]
def pright (c f : Int) (d : ByteArray) : Bool := decide (0 ≤ c ∧ c < 4 ∧ (f = 0 ∨ f = 1) ∧ d.size ≤ 64)
/-- Is an event right? -/
def eright (m : Mk) : Bool := pright m.c m.f m.d && decide (m.a.size ≤ 64) && decide ((m.k = 2 ∨ m.k = 3) ∨ ((m.k = 1 ∨ m.k = 4 ∨ m.k = 5) ∧ m.a.size = 0))

set_option maxHeartbeats 1000000 in
theorem pright_any (c f s t : Int) (d : ByteArray) (w : World) :
    Calls Try.prog 31 #[.agg #[.int .i64 c, .int .i64 f, .int .u64 s, .int .u64 t, .string d]] w fun e w' => e = .returned (.bool (pright c f d)) ∧ Below w.heap.size w w' := by
  have hB : ∀ o, Below w.heap.size w (w.alloc o) := fun o => (Below.refl _ _).alloc (Nat.le_refl _) _
  by_cases h : 0 ≤ c ∧ c < 4 ∧ (f = 0 ∨ f = 1) ∧ d.size ≤ 64
  · have hp := Lib.hid (show pright c f d = true from decide_eq_true h)
    obtain ⟨h0, h1, h2, h3⟩ := h
    have h3 : (d.size : Int) ≤ 64 := by omega
    rcases h2 with rfl | rfl
    · go_enter Try.func31, Try.ntmps31
      go_wp2
      go_ret
      exact ⟨by rw [hp.out]; rfl, hB _⟩
    · go_enter Try.func31, Try.ntmps31
      go_wp2
      go_ret
      exact ⟨by rw [hp.out]; rfl, hB _⟩
  · have hp := Lib.hid (show pright c f d = false from decide_eq_false h)
    by_cases h0 : 0 ≤ c
    · by_cases h1 : c < 4
      · by_cases h2 : f = 0
        · subst h2
          have h4 : (64 : Int) < (d.size : Int) := by omega
          have h5 : ¬ (d.size : Int) ≤ 64 := by omega
          clear h
          go_enter Try.func31, Try.ntmps31
          go_wp2
          go_ret
          exact ⟨by rw [hp.out]; rfl, hB _⟩
        · by_cases h3 : f = 1
          · subst h3
            have h4 : (64 : Int) < (d.size : Int) := by omega
            have h5 : ¬ (d.size : Int) ≤ 64 := by omega
            clear h
            go_enter Try.func31, Try.ntmps31
            go_wp2
            go_ret
            exact ⟨by rw [hp.out]; rfl, hB _⟩
          · have h2b : (f == 0) = false := by simpa using h2
            have h3b : (f == 1) = false := by simpa using h3
            clear h h2 h3
            go_enter Try.func31, Try.ntmps31
            go_wp2
            go_ret
            exact ⟨by rw [hp.out]; rfl, hB _⟩
      · clear h
        have h1' : ¬ c < 4 := h1
        go_enter Try.func31, Try.ntmps31
        go_wp2
        go_ret
        exact ⟨by rw [hp.out]; rfl, hB _⟩
    · clear h
      go_enter Try.func31, Try.ntmps31
      go_wp2
      go_ret
      exact ⟨by rw [hp.out]; rfl, hB _⟩


-- MSG
set_option maxHeartbeats 1000000 in
theorem rpright_any (c f s t : Int) (d : ByteArray) (w : World) :
    Calls Try.prog 29 #[.agg #[.int .i64 c, .int .i64 f, .int .u64 s, .int .u64 t, .string d]] w fun e w' => e = .returned (.bool (pright c f d)) ∧ Below w.heap.size w w' := by
  have hB : ∀ o, Below w.heap.size w (w.alloc o) := fun o => (Below.refl _ _).alloc (Nat.le_refl _) _
  by_cases h : 0 ≤ c ∧ c < 4 ∧ (f = 0 ∨ f = 1) ∧ d.size ≤ 64
  · have hp := Lib.hid (show pright c f d = true from decide_eq_true h)
    obtain ⟨h0, h1, h2, h3⟩ := h
    have h3 : (d.size : Int) ≤ 64 := by omega
    have h1' : c ≤ 3 := by omega
    have h4 : 0 ≤ f := by omega
    have h5 : f ≤ 1 := by omega
    clear h2
    go_enter Try.func29, Try.ntmps29
    go_wp2
    go_ret
    exact ⟨by rw [hp.out]; rfl, hB _⟩
  · have hp := Lib.hid (show pright c f d = false from decide_eq_false h)
    by_cases h0 : 0 ≤ c
    · by_cases h1 : c ≤ 3
      · by_cases h2 : 0 ≤ f
        · by_cases h3 : f ≤ 1
          · have h5 : ¬ (d.size : Int) ≤ 64 := by omega
            have h6 : (64 : Int) < (d.size : Int) := by omega
            clear h
            go_enter Try.func29, Try.ntmps29
            go_wp2
            go_ret
            exact ⟨by rw [hp.out]; rfl, hB _⟩
          · clear h
            go_enter Try.func29, Try.ntmps29
            go_wp2
            go_ret
            exact ⟨by rw [hp.out]; rfl, hB _⟩
        · clear h
          go_enter Try.func29, Try.ntmps29
          go_wp2
          go_ret
          exact ⟨by rw [hp.out]; rfl, hB _⟩
      · clear h
        go_enter Try.func29, Try.ntmps29
        go_wp2
        go_ret
        exact ⟨by rw [hp.out]; rfl, hB _⟩
    · clear h
      go_enter Try.func29, Try.ntmps29
      go_wp2
      go_ret
      exact ⟨by rw [hp.out]; rfl, hB _⟩

theorem empty_facts {a : ByteArray} (h : a.size = 0) : a.toList = [] ∧ a.toList.isEmpty = true ∧ (a.size : Int) ≤ 64 := by
  have hl : a.toList = [] := by rw [ByteArray.toList_eq]; exact List.eq_nil_of_length_eq_zero h
  exact ⟨hl, by rw [hl]; rfl, by omega⟩
theorem full_facts {a : ByteArray} (h : ¬ a.size = 0) : (¬ a.toList = []) ∧ a.toList.isEmpty = false := by
  have hl : ¬ a.toList = [] := fun e => h (by have := congrArg List.length e; rw [ByteArray.toList_eq] at this; exact this)
  refine ⟨hl, ?_⟩
  cases hx : a.toList with
  | nil => exact absurd hx hl
  | cons _ _ => rfl

set_option maxHeartbeats 4000000 in
theorem eright_any (m : Mk) (w : World) :
    Calls Try.prog 23 #[.agg #[.int .i64 m.k, .int .u64 m.h, .int .i64 m.c, .int .i64 m.f, .int .u64 m.s, .int .u64 m.t, .string m.d, .string m.a]] w fun e w' => e = .returned (.bool (eright m)) ∧ Below w.heap.size w w' := by
  have hB : ∀ o, Below w.heap.size w (w.alloc o) := fun o => (Below.refl _ _).alloc (Nat.le_refl _) _
  have HP : Hid (∀ W, Calls Try.prog 31 #[.agg #[.int .i64 m.c, .int .i64 m.f, .int .u64 m.s, .int .u64 m.t, .string m.d]] W fun e w' => e = .returned (.bool (pright m.c m.f m.d)) ∧ Below W.heap.size W w') := Lib.hid (fun W => pright_any m.c m.f m.s m.t m.d W)
  have HR : Hid (eright m = (pright m.c m.f m.d && decide (m.a.size ≤ 64) && decide ((m.k = 2 ∨ m.k = 3) ∨ ((m.k = 1 ∨ m.k = 4 ∨ m.k = 5) ∧ m.a.size = 0)))) := Lib.hid rfl
  generalize eright m = r at HR ⊢
  generalize pright m.c m.f m.d = pb at HP HR
  by_cases hk : m.k = 1 ∨ m.k = 4 ∨ m.k = 5
  · by_cases ha : m.a.size = 0
    · obtain ⟨a1, a2, a3⟩ := empty_facts ha
      have hr : r = pb := by rw [HR.out, decide_eq_true (show m.a.size ≤ 64 by omega), decide_eq_true (.inr ⟨hk, ha⟩)]; simp
      subst hr
      clear HR ha
      rcases hk with hk | hk | hk
      all_goals
        cases r
        all_goals
          go_enter Try.func23, Try.ntmps23
          go_wp2_with fail
          refine (HP.out _).mono ?_
          rintro _ w1 ⟨rfl, b1⟩
          have hb1 : Below w.heap.size w w1 := Below.trans (hB _) (Below.mono (B' := w.heap.size) b1 (by simp))
          have c0 : w1.cell? ⟨w.heap.size, 0, none⟩ = some (.int .i64 m.k) := (b1.cell (p := ⟨w.heap.size, 0, none⟩) (by simp)).trans (by first | (simp; done) | (simp; omega))
          have c7 : w1.cell? ⟨w.heap.size, 7, none⟩ = some (.string m.a) := (b1.cell (p := ⟨w.heap.size, 7, none⟩) (by simp)).trans (by simp)
          clear b1
          go_wp2
          go_ret
          exact ⟨by rfl, hb1⟩
    · obtain ⟨a1, a2⟩ := full_facts ha
      have hr : r = false := by rw [HR.out, decide_eq_false (show ¬ ((m.k = 2 ∨ m.k = 3) ∨ ((m.k = 1 ∨ m.k = 4 ∨ m.k = 5) ∧ m.a.size = 0)) by omega)]; simp
      subst hr
      clear HR ha HP
      rcases hk with hk | hk | hk
      all_goals
        go_enter Try.func23, Try.ntmps23
        go_wp2
        go_ret
        exact ⟨rfl, hB _⟩
  · by_cases hk2 : m.k = 2 ∨ m.k = 3
    · by_cases ha : m.a.size ≤ 64
      · have a1 : (m.a.size : Int) ≤ 64 := by omega
        have hr : r = pb := by rw [HR.out, decide_eq_true ha, decide_eq_true (.inl hk2)]; simp
        subst hr
        clear HR ha hk
        rcases hk2 with hk | hk
        all_goals
          cases r
          all_goals
            go_enter Try.func23, Try.ntmps23
            go_wp2_with fail
            refine (HP.out _).mono ?_
            rintro _ w1 ⟨rfl, b1⟩
            have hb1 : Below w.heap.size w w1 := Below.trans (hB _) (Below.mono (B' := w.heap.size) b1 (by simp))
            have c0 : w1.cell? ⟨w.heap.size, 0, none⟩ = some (.int .i64 m.k) := (b1.cell (p := ⟨w.heap.size, 0, none⟩) (by simp)).trans (by first | (simp; done) | (simp; omega))
            have c7 : w1.cell? ⟨w.heap.size, 7, none⟩ = some (.string m.a) := (b1.cell (p := ⟨w.heap.size, 7, none⟩) (by simp)).trans (by simp)
            clear b1
            go_wp2
            go_ret
            exact ⟨by rfl, hb1⟩
      · have a1 : ¬ (m.a.size : Int) ≤ 64 := by omega
        have a2 : decide ((m.a.size : Int) ≤ 64) = false := decide_eq_false a1
        have hr : r = false := by rw [HR.out, decide_eq_false ha]; simp
        subst hr
        clear HR ha hk
        rcases hk2 with hk | hk
        all_goals
          cases pb
          all_goals
            go_enter Try.func23, Try.ntmps23
            go_wp2_with fail
            refine (HP.out _).mono ?_
            rintro _ w1 ⟨rfl, b1⟩
            have hb1 : Below w.heap.size w w1 := Below.trans (hB _) (Below.mono (B' := w.heap.size) b1 (by simp))
            have c0 : w1.cell? ⟨w.heap.size, 0, none⟩ = some (.int .i64 m.k) := (b1.cell (p := ⟨w.heap.size, 0, none⟩) (by simp)).trans (by first | (simp; done) | (simp; omega))
            have c7 : w1.cell? ⟨w.heap.size, 7, none⟩ = some (.string m.a) := (b1.cell (p := ⟨w.heap.size, 7, none⟩) (by simp)).trans (by simp)
            clear b1
            go_wp2
            go_ret
            exact ⟨by first | rfl | (rw [← a2]; rfl), hb1⟩
    · have hr : r = false := by rw [HR.out, decide_eq_false (show ¬ ((m.k = 2 ∨ m.k = 3) ∨ ((m.k = 1 ∨ m.k = 4 ∨ m.k = 5) ∧ m.a.size = 0)) by omega)]; simp
      subst hr
      have k1 : (m.k == 1) = false := by simp; omega
      have k2 : (m.k == 2) = false := by simp; omega
      have k3 : (m.k == 3) = false := by simp; omega
      have k4 : (m.k == 4) = false := by simp; omega
      have k5 : (m.k == 5) = false := by simp; omega
      clear HR hk hk2 HP
      go_enter Try.func23, Try.ntmps23
      go_wp2
      go_ret
      exact ⟨rfl, hB _⟩

set_option maxHeartbeats 4000000 in
theorem reright_any (m : Mk) (w : World) :
    Calls Try.prog 17 #[.agg #[.int .i64 m.k, .int .u64 m.h, .int .i64 m.c, .int .i64 m.f, .int .u64 m.s, .int .u64 m.t, .string m.d, .string m.a]] w fun e w' => e = .returned (.bool (eright m)) ∧ Below w.heap.size w w' := by
  have hB : ∀ o, Below w.heap.size w (w.alloc o) := fun o => (Below.refl _ _).alloc (Nat.le_refl _) _
  have HP : Hid (∀ W, Calls Try.prog 29 #[.agg #[.int .i64 m.c, .int .i64 m.f, .int .u64 m.s, .int .u64 m.t, .string m.d]] W fun e w' => e = .returned (.bool (pright m.c m.f m.d)) ∧ Below W.heap.size W w') := Lib.hid (fun W => rpright_any m.c m.f m.s m.t m.d W)
  have HR : Hid (eright m = (pright m.c m.f m.d && decide (m.a.size ≤ 64) && decide ((m.k = 2 ∨ m.k = 3) ∨ ((m.k = 1 ∨ m.k = 4 ∨ m.k = 5) ∧ m.a.size = 0)))) := Lib.hid rfl
  generalize eright m = r at HR ⊢
  generalize pright m.c m.f m.d = pb at HP HR
  by_cases h1 : m.k < 1
  · have hr : r = false := by rw [HR.out, decide_eq_false (show ¬ ((m.k = 2 ∨ m.k = 3) ∨ ((m.k = 1 ∨ m.k = 4 ∨ m.k = 5) ∧ m.a.size = 0)) by omega)]; simp
    subst hr
    clear HR HP
    go_enter Try.func17, Try.ntmps17
    go_wp2
    go_ret
    exact ⟨rfl, hB _⟩
  · by_cases h5 : 5 < m.k
    · have hr : r = false := by rw [HR.out, decide_eq_false (show ¬ ((m.k = 2 ∨ m.k = 3) ∨ ((m.k = 1 ∨ m.k = 4 ∨ m.k = 5) ∧ m.a.size = 0)) by omega)]; simp
      subst hr
      clear HR HP
      go_enter Try.func17, Try.ntmps17
      go_wp2
      go_ret
      exact ⟨rfl, hB _⟩
    · cases pb with
      | false =>
        have hr : r = false := by rw [HR.out]; simp
        subst hr
        clear HR
        go_enter Try.func17, Try.ntmps17
        go_wp2_with fail
        refine (HP.out _).mono ?_
        rintro _ w1 ⟨rfl, b1⟩
        have hb1 : Below w.heap.size w w1 := Below.trans (hB _) (Below.mono (B' := w.heap.size) b1 (by simp))
        have c0 : w1.cell? ⟨w.heap.size, 0, none⟩ = some (.int .i64 m.k) := (b1.cell (p := ⟨w.heap.size, 0, none⟩) (by simp)).trans (by first | (simp; done) | (simp; omega))
        have c7 : w1.cell? ⟨w.heap.size, 7, none⟩ = some (.string m.a) := (b1.cell (p := ⟨w.heap.size, 7, none⟩) (by simp)).trans (by simp)
        clear b1
        go_wp2
        go_ret
        exact ⟨by rfl, hb1⟩
      | true =>
        by_cases ha : m.a.size ≤ 64
        · have a1 : (m.a.size : Int) ≤ 64 := by omega
          by_cases ha0 : m.a.size = 0
          · obtain ⟨a2, a3, _⟩ := empty_facts ha0
            have hr : r = true := by rw [HR.out, decide_eq_true ha, decide_eq_true (show ((m.k = 2 ∨ m.k = 3) ∨ ((m.k = 1 ∨ m.k = 4 ∨ m.k = 5) ∧ m.a.size = 0)) by omega)]; simp
            subst hr
            clear HR ha ha0
            go_enter Try.func17, Try.ntmps17
            go_wp2_with fail
            refine (HP.out _).mono ?_
            rintro _ w1 ⟨rfl, b1⟩
            have hb1 : Below w.heap.size w w1 := Below.trans (hB _) (Below.mono (B' := w.heap.size) b1 (by simp))
            have c0 : w1.cell? ⟨w.heap.size, 0, none⟩ = some (.int .i64 m.k) := (b1.cell (p := ⟨w.heap.size, 0, none⟩) (by simp)).trans (by first | (simp; done) | (simp; omega))
            have c7 : w1.cell? ⟨w.heap.size, 7, none⟩ = some (.string m.a) := (b1.cell (p := ⟨w.heap.size, 7, none⟩) (by simp)).trans (by simp)
            clear b1
            go_wp2
            go_ret
            exact ⟨by rfl, hb1⟩
          · obtain ⟨a2, a3⟩ := full_facts ha0
            by_cases h2 : m.k = 2
            · have hr : r = true := by rw [HR.out, decide_eq_true ha, decide_eq_true (show ((m.k = 2 ∨ m.k = 3) ∨ ((m.k = 1 ∨ m.k = 4 ∨ m.k = 5) ∧ m.a.size = 0)) by omega)]; simp
              subst hr
              clear HR ha ha0
              go_enter Try.func17, Try.ntmps17
              go_wp2_with fail
              refine (HP.out _).mono ?_
              rintro _ w1 ⟨rfl, b1⟩
              have hb1 : Below w.heap.size w w1 := Below.trans (hB _) (Below.mono (B' := w.heap.size) b1 (by simp))
              have c0 : w1.cell? ⟨w.heap.size, 0, none⟩ = some (.int .i64 m.k) := (b1.cell (p := ⟨w.heap.size, 0, none⟩) (by simp)).trans (by first | (simp; done) | (simp; omega))
              have c7 : w1.cell? ⟨w.heap.size, 7, none⟩ = some (.string m.a) := (b1.cell (p := ⟨w.heap.size, 7, none⟩) (by simp)).trans (by simp)
              clear b1
              go_wp2
              go_ret
              exact ⟨by rfl, hb1⟩
            · have h2b : (m.k == 2) = false := by simpa using h2
              by_cases h3 : m.k = 3
              · have hr : r = true := by rw [HR.out, decide_eq_true ha, decide_eq_true (show ((m.k = 2 ∨ m.k = 3) ∨ ((m.k = 1 ∨ m.k = 4 ∨ m.k = 5) ∧ m.a.size = 0)) by omega)]; simp
                subst hr
                clear HR ha ha0
                go_enter Try.func17, Try.ntmps17
                go_wp2_with fail
                refine (HP.out _).mono ?_
                rintro _ w1 ⟨rfl, b1⟩
                have hb1 : Below w.heap.size w w1 := Below.trans (hB _) (Below.mono (B' := w.heap.size) b1 (by simp))
                have c0 : w1.cell? ⟨w.heap.size, 0, none⟩ = some (.int .i64 m.k) := (b1.cell (p := ⟨w.heap.size, 0, none⟩) (by simp)).trans (by first | (simp; done) | (simp; omega))
                have c7 : w1.cell? ⟨w.heap.size, 7, none⟩ = some (.string m.a) := (b1.cell (p := ⟨w.heap.size, 7, none⟩) (by simp)).trans (by simp)
                clear b1
                go_wp2
                go_ret
                exact ⟨by rfl, hb1⟩
              · have h3b : (m.k == 3) = false := by simpa using h3
                have hr : r = false := by rw [HR.out, decide_eq_false (show ¬ ((m.k = 2 ∨ m.k = 3) ∨ ((m.k = 1 ∨ m.k = 4 ∨ m.k = 5) ∧ m.a.size = 0)) by omega)]; simp
                subst hr
                clear HR ha ha0
                go_enter Try.func17, Try.ntmps17
                go_wp2_with fail
                refine (HP.out _).mono ?_
                rintro _ w1 ⟨rfl, b1⟩
                have hb1 : Below w.heap.size w w1 := Below.trans (hB _) (Below.mono (B' := w.heap.size) b1 (by simp))
                have c0 : w1.cell? ⟨w.heap.size, 0, none⟩ = some (.int .i64 m.k) := (b1.cell (p := ⟨w.heap.size, 0, none⟩) (by simp)).trans (by first | (simp; done) | (simp; omega))
                have c7 : w1.cell? ⟨w.heap.size, 7, none⟩ = some (.string m.a) := (b1.cell (p := ⟨w.heap.size, 7, none⟩) (by simp)).trans (by simp)
                clear b1
                go_wp2
                go_ret
                exact ⟨by rfl, hb1⟩
        · have a1 : ¬ (m.a.size : Int) ≤ 64 := by omega
          have a2 : (64 : Int) < (m.a.size : Int) := by omega
          have hr : r = false := by rw [HR.out, decide_eq_false ha]; simp
          subst hr
          clear HR ha
          go_enter Try.func17, Try.ntmps17
          go_wp2_with fail
          refine (HP.out _).mono ?_
          rintro _ w1 ⟨rfl, b1⟩
          have hb1 : Below w.heap.size w w1 := Below.trans (hB _) (Below.mono (B' := w.heap.size) b1 (by simp))
          have c0 : w1.cell? ⟨w.heap.size, 0, none⟩ = some (.int .i64 m.k) := (b1.cell (p := ⟨w.heap.size, 0, none⟩) (by simp)).trans (by first | (simp; done) | (simp; omega))
          have c7 : w1.cell? ⟨w.heap.size, 7, none⟩ = some (.string m.a) := (b1.cell (p := ⟨w.heap.size, 7, none⟩) (by simp)).trans (by simp)
          clear b1
          go_wp2
          go_ret
          exact ⟨by rfl, hb1⟩
end Go.Proofs.Ytfojmjgnndlfnab.Tr
