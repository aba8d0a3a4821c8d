/- The page's example of a pool. -/
import Derived.Test.YtjjomlideieofaaPoolSame
namespace Go.Proofs.Ytjjomlideieofaa.Msg
open Go Go.RowKit

theorem Rd.zero (w : World) : Rd w none 0 [] := ⟨rfl, fun h => absurd h (by omega)⟩
abbrev q0 : T4 := ⟨0, 0, 0, none, 0, 0, []⟩
abbrev q1 : T4 := ⟨0, 0, 1, none, 0, 0, []⟩

set_option maxRecDepth 100000 in
set_option maxHeartbeats 2000000 in
theorem awake10_any (w : World) : Calls Try.prog 9 #[] w fun e w' => e = .returned (.bool true) ∧ Below w.heap.size w w' := by
  go_enter Try.func9, Try.ntmps9
  go_wp2_with fail
  refine (pnew_ok 1 w (by decide) (by decide)).mono ?_
  rintro e w1 ⟨rfl, hw1⟩
  have h0 := Lib.hid (show Pl w1 w.heap.size w.heap.size 0 1 [] ∧ Below w.heap.size w w1 from by rw [hw1]; exact ⟨Pl.new w _ (Nat.le_refl _) 1, (Below.refl _ _).alloc (Nat.le_refl _) _⟩)
  clear hw1
  go_wp2_with fail
  refine (padd_ok h0.out.1 q0 (Rd.zero _) (by decide) (by decide) (by decide) (by decide)).mono ?_
  rintro e w2 ⟨rfl, A2, c2, hp2, -, -, hb2⟩
  have h2 := Lib.hid (And.intro hp2 (h0.out.2.trans hb2))
  clear hp2 hb2
  go_wp2_with fail
  refine (padd_full h2.out.1 q1 (Rd.zero _) (by decide) (by decide) (by simp)).mono ?_
  rintro e w3 ⟨rfl, hb3⟩
  have h3 := Lib.hid (And.intro (h2.out.1.below hb3) (h2.out.2.trans (hb3.mono h2.out.2.size)))
  clear hb3
  go_wp2_with fail
  refine (ptake_any h3.out.1 h3.out.2.size 5 1 (by simp)).mono ?_
  rintro e w4 ⟨u, f, rfl, hrow, -, -, -, hb4⟩
  obtain ⟨A4, c4, hu⟩ := own_formN hrow
  subst hu
  have hx := rowX (qs := [⟨0, 0, 0, A2, 0, c2, []⟩]) hrow rfl
  obtain ⟨b, off, rfl, _, _, _, hn, _⟩ := hx.at (k := 0) (by simp)
  have H4 := Lib.hid (h3.out.2.trans hb4)
  have hn' : w4.cell? ⟨b, off + 2, none⟩ = some (.int .u64 0) := by simpa using hn
  clear hrow hx hb4 hn
  go_wp2
  go_ret
  exact ⟨rfl, H4.out⟩
end Go.Proofs.Ytjjomlideieofaa.Msg
