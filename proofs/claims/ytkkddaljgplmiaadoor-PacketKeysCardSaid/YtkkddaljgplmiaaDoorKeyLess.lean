/- Which of two keys is ahead, by the program and by the page. -/
import Derived.Test.YtkkddaljgplmiaaDoorKeyRName
namespace Go.Proofs.YtkkddaljgplmiaaDoor.packetKeys
open Go Go.RowKit Num Dec

def ltK (a b : K3) : Bool := decide (a.c < b.c ∨ a.c = b.c ∧ (a.f < b.f ∨ a.f = b.f ∧ a.s < b.s))

theorem two_boxes (w : World) (o o' : Obj) : Below w.heap.size w ((w.alloc o).alloc o') := ((Below.refl _ _).alloc (Nat.le_refl _) _).alloc (by simp) _
theorem lt_cc {a b : K3} (h : a.c ≠ b.c) : ltK a b = decide (a.c < b.c) := by unfold ltK; simp [h]
theorem lt_ff {a b : K3} (h : a.c = b.c) (h2 : a.f ≠ b.f) : ltK a b = decide (a.f < b.f) := by unfold ltK; simp [h, h2]
theorem lt_ss {a b : K3} (h : a.c = b.c) (h2 : a.f = b.f) : ltK a b = decide (a.s < b.s) := by unfold ltK; simp [h, h2]

set_option maxRecDepth 100000 in
set_option maxHeartbeats 1000000 in
theorem less_any (a b : K3) (w : World) :
    Calls Tryd.prog 4 #[.agg a.cells, .agg b.cells] w fun e w' => e = .returned (.bool (ltK a b)) ∧ Below w.heap.size w w' := by
  have HB := Lib.hid (two_boxes w (.cells a.cells 24) (.cells b.cells 24))
  obtain ⟨c, f, s⟩ := a
  obtain ⟨c', f', s'⟩ := b
  unfold K3.cells at *
  by_cases hc : c = c'
  · subst hc
    by_cases hf : f = f'
    · subst hf
      by_cases hs : s = s'
      · subst hs
        have HE := Lib.hid (show ltK ⟨c, f, s⟩ ⟨c, f, s⟩ = false by rw [lt_ss rfl rfl]; simp)
        go_enter Tryd.func4, Tryd.ntmps4
        go_wp2
        go_ret
        exact ⟨by rw [HE.out]; first | rfl | trivial, HB.out⟩
      · have hsi : ¬ (s : Int) = (s' : Int) := by omega
        have hsb : ((s : Int) == (s' : Int)) = false := by simpa using hsi
        have HE := Lib.hid (show ltK ⟨c, f, s⟩ ⟨c, f, s'⟩ = decide (s < s') from lt_ss rfl rfl)
        go_enter Tryd.func4, Tryd.ntmps4
        go_wp2
        go_ret
        exact ⟨by rw [HE.out]; first | rfl | trivial, HB.out⟩
    · have hfb : (f == f') = false := by simpa using hf
      have HE := Lib.hid (show ltK ⟨c, f, s⟩ ⟨c, f', s'⟩ = decide (f < f') from lt_ff rfl hf)
      go_enter Tryd.func4, Tryd.ntmps4
      go_wp2
      go_ret
      exact ⟨by rw [HE.out]; first | rfl | trivial, HB.out⟩
  · have hcb : (c == c') = false := by simpa using hc
    have HE := Lib.hid (show ltK ⟨c, f, s⟩ ⟨c', f', s'⟩ = decide (c < c') from lt_cc hc)
    go_enter Tryd.func4, Tryd.ntmps4
    go_wp2
    go_ret
    exact ⟨by rw [HE.out]; first | rfl | trivial, HB.out⟩

set_option maxRecDepth 100000 in
set_option maxHeartbeats 1000000 in
theorem rless_any (a b : K3) (w : World) :
    Calls Tryd.prog 5 #[.agg a.cells, .agg b.cells] w fun e w' => e = .returned (.bool (ltK a b)) ∧ Below w.heap.size w w' := by
  have HB := Lib.hid (two_boxes w (.cells a.cells 24) (.cells b.cells 24))
  obtain ⟨c, f, s⟩ := a
  obtain ⟨c', f', s'⟩ := b
  unfold K3.cells at *
  by_cases hc : c = c'
  · subst hc
    by_cases hf : f = f'
    · subst hf
      have HE := Lib.hid (show ltK ⟨c, f, s⟩ ⟨c, f, s'⟩ = decide (s < s') from lt_ss rfl rfl)
      go_enter Tryd.func5, Tryd.ntmps5
      go_wp2
      go_ret
      exact ⟨by rw [HE.out]; first | rfl | trivial, HB.out⟩
    · have hfb : (f == f') = false := by simpa using hf
      by_cases hfl : f < f'
      · have HE := Lib.hid (show ltK ⟨c, f, s⟩ ⟨c, f', s'⟩ = true by refine (lt_ff (a := ⟨c, f, s⟩) (b := ⟨c, f', s'⟩) rfl hf).trans ?_; simpa using hfl)
        go_enter Tryd.func5, Tryd.ntmps5
        go_wp2
        go_ret
        exact ⟨by rw [HE.out]; first | rfl | trivial, HB.out⟩
      · have HE := Lib.hid (show ltK ⟨c, f, s⟩ ⟨c, f', s'⟩ = false by refine (lt_ff (a := ⟨c, f, s⟩) (b := ⟨c, f', s'⟩) rfl hf).trans ?_; simpa using hfl)
        go_enter Tryd.func5, Tryd.ntmps5
        go_wp2
        go_ret
        exact ⟨by rw [HE.out]; first | rfl | trivial, HB.out⟩
  · have hcb : (c == c') = false := by simpa using hc
    by_cases hcl : c < c'
    · have HE := Lib.hid (show ltK ⟨c, f, s⟩ ⟨c', f', s'⟩ = true by rw [lt_cc hc]; simpa using hcl)
      go_enter Tryd.func5, Tryd.ntmps5
      go_wp2
      go_ret
      exact ⟨by rw [HE.out]; first | rfl | trivial, HB.out⟩
    · have HE := Lib.hid (show ltK ⟨c, f, s⟩ ⟨c', f', s'⟩ = false by rw [lt_cc hc]; simpa using hcl)
      go_enter Tryd.func5, Tryd.ntmps5
      go_wp2
      go_ret
      exact ⟨by rw [HE.out]; first | rfl | trivial, HB.out⟩

end Go.Proofs.YtkkddaljgplmiaaDoor.packetKeys
