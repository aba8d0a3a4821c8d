/- Which of two keys is ahead, by the program and by the page: keys of a map. -/
import Derived.Test.YtlpnecmcncekcaaGreatMapK
namespace Go.Proofs.YtlpnecmcncekcaaGreat.Mk
open Go Go.RowKit

def ltK (a b : K3) : Bool := decide (a.c < b.c ∨ a.c = b.c ∧ (a.f < b.f ∨ a.f = b.f ∧ a.s < b.s))

theorem two_boxes (w : World) (o o' : Obj) : Below w.heap.size w ((w.alloc o).alloc o') := ((Below.refl _ _).alloc (Nat.le_refl _) _).alloc (by simp) _
theorem lt_cc {a b : K3} (h : a.c ≠ b.c) : ltK a b = decide (a.c < b.c) := by unfold ltK; simp [h]
theorem lt_ff {a b : K3} (h : a.c = b.c) (h2 : a.f ≠ b.f) : ltK a b = decide (a.f < b.f) := by unfold ltK; simp [h, h2]
theorem lt_ss {a b : K3} (h : a.c = b.c) (h2 : a.f = b.f) : ltK a b = decide (a.s < b.s) := by unfold ltK; simp [h, h2]

set_option maxRecDepth 100000 in
set_option maxHeartbeats 1000000 in
theorem less_any (a b : K3) (w : World) :
    Calls Tryz.prog 40 #[K3.val a, b.val] w fun e w' => e = .returned (.bool (ltK a b)) ∧ Below w.heap.size w w' := by
  have HB := Lib.hid (two_boxes w (.cells #[.int .i64 a.c, .int .i64 a.f, .int .u64 a.s] 41) (.cells #[.int .i64 b.c, .int .i64 b.f, .int .u64 b.s] 41))
  obtain ⟨c, f, s⟩ := a
  obtain ⟨c', f', s'⟩ := b
  unfold K3.val
  by_cases hc : c = c'
  · subst hc
    by_cases hf : f = f'
    · subst hf
      by_cases hs : s = s'
      · subst hs
        have HE := Lib.hid (show ltK ⟨c, f, s⟩ ⟨c, f, s⟩ = false by rw [lt_ss rfl rfl]; simp)
        go_enter Tryz.func40, Tryz.ntmps40
        go_wp2
        go_ret
        exact ⟨by rw [HE.out]; first | rfl | trivial, HB.out⟩
      · have hsi : ¬ (s : Int) = (s' : Int) := by omega
        have hsb : ((s : Int) == (s' : Int)) = false := by simpa using hsi
        have HE := Lib.hid (show ltK ⟨c, f, s⟩ ⟨c, f, s'⟩ = decide (s < s') from lt_ss rfl rfl)
        go_enter Tryz.func40, Tryz.ntmps40
        go_wp2
        go_ret
        exact ⟨by rw [HE.out]; first | rfl | trivial, HB.out⟩
    · have hfb : (f == f') = false := by simpa using hf
      have HE := Lib.hid (show ltK ⟨c, f, s⟩ ⟨c, f', s'⟩ = decide (f < f') from lt_ff rfl hf)
      go_enter Tryz.func40, Tryz.ntmps40
      go_wp2
      go_ret
      exact ⟨by rw [HE.out]; first | rfl | trivial, HB.out⟩
  · have hcb : (c == c') = false := by simpa using hc
    have HE := Lib.hid (show ltK ⟨c, f, s⟩ ⟨c', f', s'⟩ = decide (c < c') from lt_cc hc)
    go_enter Tryz.func40, Tryz.ntmps40
    go_wp2
    go_ret
    exact ⟨by rw [HE.out]; first | rfl | trivial, HB.out⟩

end Go.Proofs.YtlpnecmcncekcaaGreat.Mk
