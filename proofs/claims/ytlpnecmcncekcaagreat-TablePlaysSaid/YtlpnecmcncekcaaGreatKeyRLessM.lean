/- Which of two keys is ahead, by the page: keys of a map. -/
import Derived.Test.YtlpnecmcncekcaaGreatKeyLessM
namespace Go.Proofs.YtlpnecmcncekcaaGreat.Mk
open Go Go.RowKit

set_option maxRecDepth 100000 in
set_option maxHeartbeats 1000000 in
theorem rless_any (a b : K3) (w : World) :
    Calls Tryz.prog 64 #[K3.val a, b.val] w fun e w' => e = .returned (.bool (ltK a b)) ∧ Below w.heap.size w w' := by
  have HB := Lib.hid (two_boxes w (.cells #[.int .i64 a.c, .int .i64 a.f, .int .u64 a.s] 41) (.cells #[.int .i64 b.c, .int .i64 b.f, .int .u64 b.s] 41))
  obtain ⟨c, f, s⟩ := a
  obtain ⟨c', f', s'⟩ := b
  unfold K3.val
  by_cases hc : c = c'
  · subst hc
    by_cases hf : f = f'
    · subst hf
      have HE := Lib.hid (show ltK ⟨c, f, s⟩ ⟨c, f, s'⟩ = decide (s < s') from lt_ss rfl rfl)
      go_enter Tryz.func64, Tryz.ntmps64
      go_wp2
      go_ret
      exact ⟨by rw [HE.out]; first | rfl | trivial, HB.out⟩
    · have hfb : (f == f') = false := by simpa using hf
      by_cases hfl : f < f'
      · have HE := Lib.hid (show ltK ⟨c, f, s⟩ ⟨c, f', s'⟩ = true by refine (lt_ff (a := ⟨c, f, s⟩) (b := ⟨c, f', s'⟩) rfl hf).trans ?_; simpa using hfl)
        go_enter Tryz.func64, Tryz.ntmps64
        go_wp2
        go_ret
        exact ⟨by rw [HE.out]; first | rfl | trivial, HB.out⟩
      · have HE := Lib.hid (show ltK ⟨c, f, s⟩ ⟨c, f', s'⟩ = false by refine (lt_ff (a := ⟨c, f, s⟩) (b := ⟨c, f', s'⟩) rfl hf).trans ?_; simpa using hfl)
        go_enter Tryz.func64, Tryz.ntmps64
        go_wp2
        go_ret
        exact ⟨by rw [HE.out]; first | rfl | trivial, HB.out⟩
  · have hcb : (c == c') = false := by simpa using hc
    by_cases hcl : c < c'
    · have HE := Lib.hid (show ltK ⟨c, f, s⟩ ⟨c', f', s'⟩ = true by rw [lt_cc hc]; simpa using hcl)
      go_enter Tryz.func64, Tryz.ntmps64
      go_wp2
      go_ret
      exact ⟨by rw [HE.out]; first | rfl | trivial, HB.out⟩
    · have HE := Lib.hid (show ltK ⟨c, f, s⟩ ⟨c', f', s'⟩ = false by rw [lt_cc hc]; simpa using hcl)
      go_enter Tryz.func64, Tryz.ntmps64
      go_wp2
      go_ret
      exact ⟨by rw [HE.out]; first | rfl | trivial, HB.out⟩

end Go.Proofs.YtlpnecmcncekcaaGreat.Mk
