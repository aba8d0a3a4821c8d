/- Which packets and which messages are right, by the page. -/
import Derived.Test.YtfalmebgjghjeabRight
namespace Go.Proofs.Ytfalmebgjghjeab.Msg
open Go Go.RowKit

set_option maxHeartbeats 1000000 in
theorem rpright_any (c f s t : Int) (d : ByteArray) (w : World) :
    Calls Try.prog 54 #[.agg #[.int .i64 c, .int .i64 f, .int .u64 s, .int .u64 t, .string d]] w fun e w' => e = .returned (.bool (pright c f d)) ∧ Below w.heap.size w w' := by
  have hB : ∀ o, Below w.heap.size w (w.alloc o) := fun o => (Below.refl _ _).alloc (Nat.le_refl _) _
  by_cases h : 0 ≤ c ∧ c < 4 ∧ (f = 0 ∨ f = 1) ∧ d.size ≤ 64
  · have hp := Lib.hid (show pright c f d = true from decide_eq_true h)
    obtain ⟨h0, h1, h2, h3⟩ := h
    have h3 : (d.size : Int) ≤ 64 := by omega
    have h1' : c ≤ 3 := by omega
    have h4 : 0 ≤ f := by omega
    have h5 : f ≤ 1 := by omega
    clear h2
    go_enter Try.func54, Try.ntmps54
    go_wp2
    go_ret
    exact ⟨by rw [hp.out]; rfl, hB _⟩
  · have hp := Lib.hid (show pright c f d = false from decide_eq_false h)
    by_cases h0 : 0 ≤ c
    · by_cases h1 : c ≤ 3
      · by_cases h2 : 0 ≤ f
        · by_cases h3 : f ≤ 1
          · have h5 : ¬ (d.size : Int) ≤ 64 := by omega
            have h6 : (64 : Int) < (d.size : Int) := by omega
            clear h
            go_enter Try.func54, Try.ntmps54
            go_wp2
            go_ret
            exact ⟨by rw [hp.out]; rfl, hB _⟩
          · clear h
            go_enter Try.func54, Try.ntmps54
            go_wp2
            go_ret
            exact ⟨by rw [hp.out]; rfl, hB _⟩
        · clear h
          go_enter Try.func54, Try.ntmps54
          go_wp2
          go_ret
          exact ⟨by rw [hp.out]; rfl, hB _⟩
      · clear h
        go_enter Try.func54, Try.ntmps54
        go_wp2
        go_ret
        exact ⟨by rw [hp.out]; rfl, hB _⟩
    · clear h
      go_enter Try.func54, Try.ntmps54
      go_wp2
      go_ret
      exact ⟨by rw [hp.out]; rfl, hB _⟩

set_option maxHeartbeats 4000000 in
theorem rmright_any' (k c f s t : Int) (d a : ByteArray) (w : World) :
    Calls Try.prog 44 #[.agg #[.int .i64 k, .int .i64 c, .int .i64 f, .int .u64 s, .int .u64 t, .string d, .string a]] w fun e w' => e = .returned (.bool (mright ⟨k, c, f, s, t, d, a⟩)) ∧ Below w.heap.size w w' := by
  have hpp := Lib.hid fun W => rpright_any c f s t d W
  by_cases hka : 1 ≤ k ∧ k ≤ 4
  · obtain ⟨hk1', hk4'⟩ := hka
    by_cases hr0 : pright c f d = true
    · have hr := Lib.hid hr0
      clear hr0
      by_cases ha : (a.size : Int) ≤ 64
      · have ha64 : ¬ (64 : Int) < (a.size : Int) := by omega
        have han : a.size ≤ 64 := by omega
        rcases (by omega : k = 3 ∨ k = 1 ∨ k = 2 ∨ k = 4) with rfl | rfl | rfl | rfl
        · clear hk1' hk4'
          have hm := Lib.hid (show mright ⟨3, c, f, s, t, d, a⟩ = true from by exact decide_eq_true (by simp [hr.out]; omega))
          clear han
          go_enter Try.func44, Try.ntmps44
          go_wp2_with fail
          refine (hpp.out _).mono ?_
          rintro e w1 ⟨rfl, hb⟩
          rw [hr.out]
          have HB := Lib.hid (show Below w.heap.size w w1 from ((Below.refl _ _).alloc (Nat.le_refl _) _).trans (hb.mono (by simp)))
          obtain ⟨b0, b3, b6⟩ := box7 hb
          clear hb
          go_wp2
          go_ret
          exact ⟨by rw [hm.out]; rfl, HB.out⟩
        · clear hk1' hk4'
          by_cases he : a.toList = []
          · have he2 : a.toList.isEmpty = true := by rw [he]; rfl
            by_cases hs : s = 0
            · subst hs
              have hm := Lib.hid (show mright ⟨1, c, f, 0, t, d, a⟩ = true from by exact decide_eq_true (by simp [hr.out, *]))
              clear he han
              go_enter Try.func44, Try.ntmps44
              go_wp2_with fail
              refine (hpp.out _).mono ?_
              rintro e w1 ⟨rfl, hb⟩
              rw [hr.out]
              have HB := Lib.hid (show Below w.heap.size w w1 from ((Below.refl _ _).alloc (Nat.le_refl _) _).trans (hb.mono (by simp)))
              obtain ⟨b0, b3, b6⟩ := box7 hb
              clear hb
              go_wp2
              go_ret
              exact ⟨by rw [hm.out]; rfl, HB.out⟩
            · have hs2 : (s == 0) = false := by simpa using hs
              have hm := Lib.hid (show mright ⟨1, c, f, s, t, d, a⟩ = false from by exact decide_eq_false (fun h => by simp [*] at h))
              clear he hs han
              go_enter Try.func44, Try.ntmps44
              go_wp2_with fail
              refine (hpp.out _).mono ?_
              rintro e w1 ⟨rfl, hb⟩
              rw [hr.out]
              have HB := Lib.hid (show Below w.heap.size w w1 from ((Below.refl _ _).alloc (Nat.le_refl _) _).trans (hb.mono (by simp)))
              obtain ⟨b0, b3, b6⟩ := box7 hb
              clear hb
              go_wp2
              go_ret
              exact ⟨by rw [hm.out]; rfl, HB.out⟩
          · have he2 : a.toList.isEmpty = false := by simpa using he
            have hm := Lib.hid (show mright ⟨1, c, f, s, t, d, a⟩ = false from by exact decide_eq_false (fun h => by simp [*] at h))
            clear han
            go_enter Try.func44, Try.ntmps44
            go_wp2_with fail
            refine (hpp.out _).mono ?_
            rintro e w1 ⟨rfl, hb⟩
            rw [hr.out]
            have HB := Lib.hid (show Below w.heap.size w w1 from ((Below.refl _ _).alloc (Nat.le_refl _) _).trans (hb.mono (by simp)))
            obtain ⟨b0, b3, b6⟩ := box7 hb
            clear hb
            go_wp2
            go_ret
            exact ⟨by rw [hm.out]; rfl, HB.out⟩
        · clear hk1' hk4'
          by_cases he : a.toList = []
          · have he2 : a.toList.isEmpty = true := by rw [he]; rfl
            have hm := Lib.hid (show mright ⟨2, c, f, s, t, d, a⟩ = true from by exact decide_eq_true (by simp [hr.out, *]))
            clear he han
            go_enter Try.func44, Try.ntmps44
            go_wp2_with fail
            refine (hpp.out _).mono ?_
            rintro e w1 ⟨rfl, hb⟩
            rw [hr.out]
            have HB := Lib.hid (show Below w.heap.size w w1 from ((Below.refl _ _).alloc (Nat.le_refl _) _).trans (hb.mono (by simp)))
            obtain ⟨b0, b3, b6⟩ := box7 hb
            clear hb
            go_wp2
            go_ret
            exact ⟨by rw [hm.out]; rfl, HB.out⟩
          · have he2 : a.toList.isEmpty = false := by simpa using he
            have hm := Lib.hid (show mright ⟨2, c, f, s, t, d, a⟩ = false from by exact decide_eq_false (fun h => by simp [*] at h))
            clear han
            go_enter Try.func44, Try.ntmps44
            go_wp2_with fail
            refine (hpp.out _).mono ?_
            rintro e w1 ⟨rfl, hb⟩
            rw [hr.out]
            have HB := Lib.hid (show Below w.heap.size w w1 from ((Below.refl _ _).alloc (Nat.le_refl _) _).trans (hb.mono (by simp)))
            obtain ⟨b0, b3, b6⟩ := box7 hb
            clear hb
            go_wp2
            go_ret
            exact ⟨by rw [hm.out]; rfl, HB.out⟩
        · clear hk1' hk4'
          by_cases he : a.toList = []
          · have he2 : a.toList.isEmpty = true := by rw [he]; rfl
            have hm := Lib.hid (show mright ⟨4, c, f, s, t, d, a⟩ = true from by exact decide_eq_true (by simp [hr.out, *]))
            clear he han
            go_enter Try.func44, Try.ntmps44
            go_wp2_with fail
            refine (hpp.out _).mono ?_
            rintro e w1 ⟨rfl, hb⟩
            rw [hr.out]
            have HB := Lib.hid (show Below w.heap.size w w1 from ((Below.refl _ _).alloc (Nat.le_refl _) _).trans (hb.mono (by simp)))
            obtain ⟨b0, b3, b6⟩ := box7 hb
            clear hb
            go_wp2
            go_ret
            exact ⟨by rw [hm.out]; rfl, HB.out⟩
          · have he2 : a.toList.isEmpty = false := by simpa using he
            have hm := Lib.hid (show mright ⟨4, c, f, s, t, d, a⟩ = false from by exact decide_eq_false (fun h => by simp [*] at h))
            clear han
            go_enter Try.func44, Try.ntmps44
            go_wp2_with fail
            refine (hpp.out _).mono ?_
            rintro e w1 ⟨rfl, hb⟩
            rw [hr.out]
            have HB := Lib.hid (show Below w.heap.size w w1 from ((Below.refl _ _).alloc (Nat.le_refl _) _).trans (hb.mono (by simp)))
            obtain ⟨b0, b3, b6⟩ := box7 hb
            clear hb
            go_wp2
            go_ret
            exact ⟨by rw [hm.out]; rfl, HB.out⟩
      · have ha' : (64 : Int) < (a.size : Int) := by omega
        have hm := Lib.hid (show mright ⟨k, c, f, s, t, d, a⟩ = false from by exact decide_eq_false (fun h => by have := h.2.1; simp at this; omega))
        clear ha
        go_enter Try.func44, Try.ntmps44
        go_wp2_with fail
        refine (hpp.out _).mono ?_
        rintro e w1 ⟨rfl, hb⟩
        rw [hr.out]
        have HB := Lib.hid (show Below w.heap.size w w1 from ((Below.refl _ _).alloc (Nat.le_refl _) _).trans (hb.mono (by simp)))
        obtain ⟨b0, b3, b6⟩ := box7 hb
        clear hb
        go_wp2
        go_ret
        exact ⟨by rw [hm.out]; rfl, HB.out⟩
    · have hr := Lib.hid (show pright c f d = false by simpa using hr0)
      clear hr0
      have hm := Lib.hid (show mright ⟨k, c, f, s, t, d, a⟩ = false from by exact decide_eq_false (fun h => by have := h.1; rw [hr.out] at this; cases this))
      go_enter Try.func44, Try.ntmps44
      go_wp2_with fail
      refine (hpp.out _).mono ?_
      rintro e w1 ⟨rfl, hb⟩
      rw [hr.out]
      have HB := Lib.hid (show Below w.heap.size w w1 from ((Below.refl _ _).alloc (Nat.le_refl _) _).trans (hb.mono (by simp)))
      obtain ⟨b0, b3, b6⟩ := box7 hb
      clear hb
      go_wp2
      go_ret
      exact ⟨by rw [hm.out]; rfl, HB.out⟩
  · by_cases hk1 : k < 1
    · clear hka
      have hm := Lib.hid (show mright ⟨k, c, f, s, t, d, a⟩ = false from by exact decide_eq_false (fun h => by have := h.2.2; simp at this; omega))
      go_enter Try.func44, Try.ntmps44
      go_wp2
      go_ret
      exact ⟨by rw [hm.out]; rfl, (Below.refl _ _).alloc (Nat.le_refl _) _⟩
    · have hk4 : 4 < k := by omega
      clear hka
      have hm := Lib.hid (show mright ⟨k, c, f, s, t, d, a⟩ = false from by exact decide_eq_false (fun h => by have := h.2.2; simp at this; omega))
      go_enter Try.func44, Try.ntmps44
      go_wp2
      go_ret
      exact ⟨by rw [hm.out]; rfl, (Below.refl _ _).alloc (Nat.le_refl _) _⟩
theorem rmright_any (m : M7) (w : World) :
    Calls Try.prog 44 #[.agg m.cells] w fun e w' => e = .returned (.bool (mright m)) ∧ Below w.heap.size w w' := rmright_any' m.k m.c m.f m.s m.t m.d m.a w
end Go.Proofs.Ytfalmebgjghjeab.Msg
