/- Which packets and which messages are right. -/
import Derived.Test.YtfalmebgjghjeabMsg0
import Derived.Deep.RegionHeld3
namespace Go.Proofs.Ytfalmebgjghjeab.Msg
open Go Go.RowKit

def pright (c f : Int) (d : ByteArray) : Bool := decide (0 ≤ c ∧ c < 4 ∧ (f = 0 ∨ f = 1) ∧ d.size ≤ 64)
/-- Is a message right? -/
def mright (m : M7) : Bool := decide (pright m.c m.f m.d = true ∧ m.a.size ≤ 64 ∧ (m.k = 3 ∨ (m.a.toList = [] ∧ (m.k = 2 ∨ m.k = 4 ∨ (m.k = 1 ∧ m.s = 0)))))

set_option maxHeartbeats 1000000 in
theorem pright_any (c f s t : Int) (d : ByteArray) (w : World) :
    Calls Try.prog 46 #[.agg #[.int .i64 c, .int .i64 f, .int .u64 s, .int .u64 t, .string d]] w fun e w' => e = .returned (.bool (pright c f d)) ∧ Below w.heap.size w w' := by
  have hB : ∀ o, Below w.heap.size w (w.alloc o) := fun o => (Below.refl _ _).alloc (Nat.le_refl _) _
  by_cases h : 0 ≤ c ∧ c < 4 ∧ (f = 0 ∨ f = 1) ∧ d.size ≤ 64
  · have hp := Lib.hid (show pright c f d = true from decide_eq_true h)
    obtain ⟨h0, h1, h2, h3⟩ := h
    have h3 : (d.size : Int) ≤ 64 := by omega
    rcases h2 with rfl | rfl
    · go_enter Try.func46, Try.ntmps46
      go_wp2
      go_ret
      exact ⟨by rw [hp.out]; rfl, hB _⟩
    · go_enter Try.func46, Try.ntmps46
      go_wp2
      go_ret
      exact ⟨by rw [hp.out]; rfl, hB _⟩
  · have hp := Lib.hid (show pright c f d = false from decide_eq_false h)
    by_cases h0 : 0 ≤ c
    · by_cases h1 : c < 4
      · by_cases h2 : f = 0
        · subst h2
          have h4 : (64 : Int) < (d.size : Int) := by omega
          have h5 : ¬ (d.size : Int) ≤ 64 := by omega
          clear h
          go_enter Try.func46, Try.ntmps46
          go_wp2
          go_ret
          exact ⟨by rw [hp.out]; rfl, hB _⟩
        · by_cases h3 : f = 1
          · subst h3
            have h4 : (64 : Int) < (d.size : Int) := by omega
            have h5 : ¬ (d.size : Int) ≤ 64 := by omega
            clear h
            go_enter Try.func46, Try.ntmps46
            go_wp2
            go_ret
            exact ⟨by rw [hp.out]; rfl, hB _⟩
          · have h2b : (f == 0) = false := by simpa using h2
            have h3b : (f == 1) = false := by simpa using h3
            clear h h2 h3
            go_enter Try.func46, Try.ntmps46
            go_wp2
            go_ret
            exact ⟨by rw [hp.out]; rfl, hB _⟩
      · clear h
        have h1' : ¬ c < 4 := h1
        go_enter Try.func46, Try.ntmps46
        go_wp2
        go_ret
        exact ⟨by rw [hp.out]; rfl, hB _⟩
    · clear h
      go_enter Try.func46, Try.ntmps46
      go_wp2
      go_ret
      exact ⟨by rw [hp.out]; rfl, hB _⟩


-- MSG
theorem box7 {w w1 : World} {k c f s t : Int} {d a : ByteArray} {T : TypeId} (hb : Below (w.alloc (.cells #[.int .i64 k, .int .i64 c, .int .i64 f, .int .u64 s, .int .u64 t, .string d, .string a] T)).heap.size (w.alloc (.cells #[.int .i64 k, .int .i64 c, .int .i64 f, .int .u64 s, .int .u64 t, .string d, .string a] T)) w1) :
    w1.cell? ⟨w.heap.size, 0, none⟩ = some (.int .i64 k) ∧ w1.cell? ⟨w.heap.size, 3, none⟩ = some (.int .u64 s) ∧ w1.cell? ⟨w.heap.size, 6, none⟩ = some (.string a) := by
  have h : ∀ i, w1.cell? ⟨w.heap.size, i, none⟩ = _ := fun i => hb.cell (p := ⟨w.heap.size, i, none⟩) (by simp)
  exact ⟨(h 0).trans (by simp), (h 3).trans (by simp), (h 6).trans (by simp)⟩

set_option maxHeartbeats 4000000 in
theorem mright_any' (k c f s t : Int) (d a : ByteArray) (w : World) :
    Calls Try.prog 31 #[.agg #[.int .i64 k, .int .i64 c, .int .i64 f, .int .u64 s, .int .u64 t, .string d, .string a]] w fun e w' => e = .returned (.bool (mright ⟨k, c, f, s, t, d, a⟩)) ∧ Below w.heap.size w w' := by
  have hpp := Lib.hid fun W => pright_any c f s t d W
  by_cases hr0 : pright c f d = true
  · have hr := Lib.hid hr0
    clear hr0
    by_cases ha : (a.size : Int) ≤ 64
    · have ha64 : ¬ (64 : Int) < (a.size : Int) := by omega
      have han : a.size ≤ 64 := by omega
      by_cases hk3 : k = 3
      · subst hk3
        clear han
        have hm := Lib.hid (show mright ⟨3, c, f, s, t, d, a⟩ = true from by exact decide_eq_true (by simp [hr.out]; omega))
        go_enter Try.func31, Try.ntmps31
        go_wp2_with fail
        refine (hpp.out _).mono ?_
        rintro e w1 ⟨rfl, hb⟩
        rw [hr.out]
        have HB := Lib.hid (show Below w.heap.size w w1 from ((Below.refl _ _).alloc (Nat.le_refl _) _).trans (hb.mono (by simp)))
        obtain ⟨b0, b3, b6⟩ := box7 hb
        clear hb
        go_wp2
        go_ret
        exact ⟨by rw [hm.out]; rfl, HB.out⟩
      · by_cases he : a.toList = []
        · have he2 : a.toList.isEmpty = true := by rw [he]; rfl
          by_cases hk1 : k = 1
          · subst hk1
            by_cases hs : s = 0
            · subst hs
              have hm := Lib.hid (show mright ⟨1, c, f, 0, t, d, a⟩ = true from by exact decide_eq_true (by simp [hr.out, *]))
              clear he hk3 han
              go_enter Try.func31, Try.ntmps31
              go_wp2_with fail
              refine (hpp.out _).mono ?_
              rintro e w1 ⟨rfl, hb⟩
              rw [hr.out]
              have HB := Lib.hid (show Below w.heap.size w w1 from ((Below.refl _ _).alloc (Nat.le_refl _) _).trans (hb.mono (by simp)))
              obtain ⟨b0, b3, b6⟩ := box7 hb
              clear hb
              go_wp2
              go_ret
              exact ⟨by rw [hm.out]; rfl, HB.out⟩
            · have hs2 : (s == 0) = false := by simpa using hs
              have hm := Lib.hid (show mright ⟨1, c, f, s, t, d, a⟩ = false from by exact decide_eq_false (fun h => by simp [*] at h))
              clear he hk3 hs han
              go_enter Try.func31, Try.ntmps31
              go_wp2_with fail
              refine (hpp.out _).mono ?_
              rintro e w1 ⟨rfl, hb⟩
              rw [hr.out]
              have HB := Lib.hid (show Below w.heap.size w w1 from ((Below.refl _ _).alloc (Nat.le_refl _) _).trans (hb.mono (by simp)))
              obtain ⟨b0, b3, b6⟩ := box7 hb
              clear hb
              go_wp2
              go_ret
              exact ⟨by rw [hm.out]; rfl, HB.out⟩
          · by_cases hk2 : k = 2
            · subst hk2
              have hm := Lib.hid (show mright ⟨2, c, f, s, t, d, a⟩ = true from by exact decide_eq_true (by simp [hr.out, *]))
              clear he hk3 hk1 han
              go_enter Try.func31, Try.ntmps31
              go_wp2_with fail
              refine (hpp.out _).mono ?_
              rintro e w1 ⟨rfl, hb⟩
              rw [hr.out]
              have HB := Lib.hid (show Below w.heap.size w w1 from ((Below.refl _ _).alloc (Nat.le_refl _) _).trans (hb.mono (by simp)))
              obtain ⟨b0, b3, b6⟩ := box7 hb
              clear hb
              go_wp2
              go_ret
              exact ⟨by rw [hm.out]; rfl, HB.out⟩
            · by_cases hk4 : k = 4
              · subst hk4
                have hm := Lib.hid (show mright ⟨4, c, f, s, t, d, a⟩ = true from by exact decide_eq_true (by simp [hr.out, *]))
                clear he hk3 hk1 hk2 han
                go_enter Try.func31, Try.ntmps31
                go_wp2_with fail
                refine (hpp.out _).mono ?_
                rintro e w1 ⟨rfl, hb⟩
                rw [hr.out]
                have HB := Lib.hid (show Below w.heap.size w w1 from ((Below.refl _ _).alloc (Nat.le_refl _) _).trans (hb.mono (by simp)))
                obtain ⟨b0, b3, b6⟩ := box7 hb
                clear hb
                go_wp2
                go_ret
                exact ⟨by rw [hm.out]; rfl, HB.out⟩
              · have q1 : (k == 1) = false := by simpa using hk1
                have q2 : (k == 2) = false := by simpa using hk2
                have q3 : (k == 3) = false := by simpa using hk3
                have q4 : (k == 4) = false := by simpa using hk4
                have hm := Lib.hid (show mright ⟨k, c, f, s, t, d, a⟩ = false from by exact decide_eq_false (fun h => by simp [*] at h))
                clear he hk1 hk2 hk3 hk4 han
                go_enter Try.func31, Try.ntmps31
                go_wp2_with fail
                refine (hpp.out _).mono ?_
                rintro e w1 ⟨rfl, hb⟩
                rw [hr.out]
                have HB := Lib.hid (show Below w.heap.size w w1 from ((Below.refl _ _).alloc (Nat.le_refl _) _).trans (hb.mono (by simp)))
                obtain ⟨b0, b3, b6⟩ := box7 hb
                clear hb
                go_wp2
                go_ret
                exact ⟨by rw [hm.out]; rfl, HB.out⟩
        · have he2 : a.toList.isEmpty = false := by simpa using he
          by_cases hk1 : k = 1
          · subst hk1
            have hm := Lib.hid (show mright ⟨1, c, f, s, t, d, a⟩ = false from by exact decide_eq_false (fun h => by simp [*] at h))
            clear hk3 han
            go_enter Try.func31, Try.ntmps31
            go_wp2_with fail
            refine (hpp.out _).mono ?_
            rintro e w1 ⟨rfl, hb⟩
            rw [hr.out]
            have HB := Lib.hid (show Below w.heap.size w w1 from ((Below.refl _ _).alloc (Nat.le_refl _) _).trans (hb.mono (by simp)))
            obtain ⟨b0, b3, b6⟩ := box7 hb
            clear hb
            go_wp2
            go_ret
            exact ⟨by rw [hm.out]; rfl, HB.out⟩
          · by_cases hk2 : k = 2
            · subst hk2
              have hm := Lib.hid (show mright ⟨2, c, f, s, t, d, a⟩ = false from by exact decide_eq_false (fun h => by simp [*] at h))
              clear hk3 hk1 han
              go_enter Try.func31, Try.ntmps31
              go_wp2_with fail
              refine (hpp.out _).mono ?_
              rintro e w1 ⟨rfl, hb⟩
              rw [hr.out]
              have HB := Lib.hid (show Below w.heap.size w w1 from ((Below.refl _ _).alloc (Nat.le_refl _) _).trans (hb.mono (by simp)))
              obtain ⟨b0, b3, b6⟩ := box7 hb
              clear hb
              go_wp2
              go_ret
              exact ⟨by rw [hm.out]; rfl, HB.out⟩
            · by_cases hk4 : k = 4
              · subst hk4
                have hm := Lib.hid (show mright ⟨4, c, f, s, t, d, a⟩ = false from by exact decide_eq_false (fun h => by simp [*] at h))
                clear hk3 hk1 hk2 han
                go_enter Try.func31, Try.ntmps31
                go_wp2_with fail
                refine (hpp.out _).mono ?_
                rintro e w1 ⟨rfl, hb⟩
                rw [hr.out]
                have HB := Lib.hid (show Below w.heap.size w w1 from ((Below.refl _ _).alloc (Nat.le_refl _) _).trans (hb.mono (by simp)))
                obtain ⟨b0, b3, b6⟩ := box7 hb
                clear hb
                go_wp2
                go_ret
                exact ⟨by rw [hm.out]; rfl, HB.out⟩
              · have q1 : (k == 1) = false := by simpa using hk1
                have q2 : (k == 2) = false := by simpa using hk2
                have q3 : (k == 3) = false := by simpa using hk3
                have q4 : (k == 4) = false := by simpa using hk4
                have hm := Lib.hid (show mright ⟨k, c, f, s, t, d, a⟩ = false from by exact decide_eq_false (fun h => by simp [*] at h))
                clear hk1 hk2 hk3 hk4 han
                go_enter Try.func31, Try.ntmps31
                go_wp2_with fail
                refine (hpp.out _).mono ?_
                rintro e w1 ⟨rfl, hb⟩
                rw [hr.out]
                have HB := Lib.hid (show Below w.heap.size w w1 from ((Below.refl _ _).alloc (Nat.le_refl _) _).trans (hb.mono (by simp)))
                obtain ⟨b0, b3, b6⟩ := box7 hb
                clear hb
                go_wp2
                go_ret
                exact ⟨by rw [hm.out]; rfl, HB.out⟩
    · have ha' : (64 : Int) < (a.size : Int) := by omega
      have hm := Lib.hid (show mright ⟨k, c, f, s, t, d, a⟩ = false from by exact decide_eq_false (fun h => by have := h.2.1; simp at this; omega))
      clear ha
      go_enter Try.func31, Try.ntmps31
      go_wp2_with fail
      refine (hpp.out _).mono ?_
      rintro e w1 ⟨rfl, hb⟩
      rw [hr.out]
      have HB := Lib.hid (show Below w.heap.size w w1 from ((Below.refl _ _).alloc (Nat.le_refl _) _).trans (hb.mono (by simp)))
      obtain ⟨b0, b3, b6⟩ := box7 hb
      clear hb
      go_wp2
      go_ret
      exact ⟨by rw [hm.out]; rfl, HB.out⟩
  · have hr := Lib.hid (show pright c f d = false by simpa using hr0)
    clear hr0
    have hm := Lib.hid (show mright ⟨k, c, f, s, t, d, a⟩ = false from by exact decide_eq_false (fun h => by have := h.1; rw [hr.out] at this; cases this))
    go_enter Try.func31, Try.ntmps31
    go_wp2_with fail
    refine (hpp.out _).mono ?_
    rintro e w1 ⟨rfl, hb⟩
    rw [hr.out]
    have HB := Lib.hid (show Below w.heap.size w w1 from ((Below.refl _ _).alloc (Nat.le_refl _) _).trans (hb.mono (by simp)))
    obtain ⟨b0, b3, b6⟩ := box7 hb
    clear hb
    go_wp2
    go_ret
    exact ⟨by rw [hm.out]; rfl, HB.out⟩

theorem mright_any (m : M7) (w : World) :
    Calls Try.prog 31 #[.agg m.cells] w fun e w' => e = .returned (.bool (mright m)) ∧ Below w.heap.size w w' := mright_any' m.k m.c m.f m.s m.t m.d m.a w
end Go.Proofs.Ytfalmebgjghjeab.Msg
