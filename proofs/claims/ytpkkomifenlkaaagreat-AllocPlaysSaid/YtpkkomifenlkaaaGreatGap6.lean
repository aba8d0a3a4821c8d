/- gap: container/heap at up to two runs. -/
import Derived.Test.YtpkkomifenlkaaaGreatGap5
namespace Go.Proofs.YtpkkomifenlkaaaGreat.Gp
open Go Go.RowKit

abbrev IH (H : Nat) : Value := .iface 129 (.pointer (some ⟨H, 0, none⟩))
/-- two runs, told by cells -/
structure Two (B : Nat) (W : World) (H g cap : Nat) (x y : Int × Int) : Prop where
  hp : HpO B W H (.slice (some ⟨g, 0, none⟩) 2 cap) [x, y]
  low : B ≤ g
  c : W.cell? ⟨g, 0, none⟩ = some (.int .u64 x.1) ∧ W.cell? ⟨g, 1, none⟩ = some (.int .u64 x.2) ∧ W.cell? ⟨g, 2, none⟩ = some (.int .u64 y.1) ∧ W.cell? ⟨g, 3, none⟩ = some (.int .u64 y.2)
  f : ∀ i, W.frozen? ⟨g, i, none⟩ = false
theorem two_of {B : Nat} {W : World} {H : Nat} {v : Value} {x y : Int × Int} (h : HpO B W H v [x, y]) : ∃ g cap, v = .slice (some ⟨g, 0, none⟩) 2 cap ∧ Two B W H g cap x y := by
  obtain ⟨g, cap, rfl, hg⟩ := own_block h.row (by simp)
  obtain ⟨r, hh, -⟩ := two_cells h.row
  refine ⟨g, cap, rfl, h, hg, ⟨cell_of_row W g 0 _ _ (0, 0) hh, cell_of_row W g 1 _ _ (0, 0) hh, cell_of_row W g 2 _ _ (0, 0) hh, cell_of_row W g 3 _ _ (0, 0) hh⟩, fun i => by simp [World.frozen?, hh]⟩
theorem HpO.drewN {B : Nat} {W : World} {H : Nat} {v : Value} {l : List (Int × Int)} (h : HpO B W H v l) (q : Nat) : HpO B (W.drewN q) H v l := ⟨h.box, h.low, h.row, h.few⟩
theorem HpO.drew {B : Nat} {W : World} {H : Nat} {v : Value} {l : List (Int × Int)} (h : HpO B W H v l) : HpO B W.drew H v l := ⟨h.box, h.low, h.row, h.few⟩
theorem Two.swapped {B : Nat} {W : World} {H g cap : Nat} {x y : Int × Int} (h : Two B W H g cap x y) {V : World} (hV : V = ((((W.drew.setCell ⟨g, 0, none⟩ (.int .u64 y.1)).setCell ⟨g, 1, none⟩ (.int .u64 y.2)).setCell ⟨g, 2, none⟩ (.int .u64 x.1)).setCell ⟨g, 3, none⟩ (.int .u64 x.2))) :
    HpO B V H (.slice (some ⟨g, 0, none⟩) 2 cap) [y, x] ∧ (∀ a, Below B a W → Below B a V) ∧ Fr H (.slice (some ⟨g, 0, none⟩) 2 cap) (.slice (some ⟨g, 0, none⟩) 2 cap) W V := by
  have hne : H ≠ g := fun e => own_apart2 h.hp.row h.hp.box (by decide) (by rw [e]; rfl)
  subst hV
  refine ⟨⟨?_, h.hp.low, two_swap h.hp.drew.row, by simp⟩, fun a ha => (((ha.drew.setCell h.low _).setCell h.low _).setCell h.low _).setCell h.low _, rfl, rfl, rfl, by simp, fun k hk _ h9 => ?_, Or.inl rfl⟩
  case refine_2 =>
    have hk9 : k ≠ g := fun e => h9 (by rw [e]; rfl)
    rw [Below.heap_setCell _ _ _ _ hk9, Below.heap_setCell _ _ _ _ hk9, Below.heap_setCell _ _ _ _ hk9, Below.heap_setCell _ _ _ _ hk9]
    rfl
  rw [Below.heap_setCell _ _ _ _ hne, Below.heap_setCell _ _ _ _ hne, Below.heap_setCell _ _ _ _ hne, Below.heap_setCell _ _ _ _ hne]
  exact h.hp.box
theorem Two.is {B : Nat} {W : World} {H g cap : Nat} {x y : Int × Int} (h : Two B W H g cap x y) : RowIs W g [x, y] := row_is h.hp.row
set_option maxRecDepth 20000 in
set_option maxHeartbeats 2000000 in
theorem up1 (B H : Nat) (v : Value) (x y : Int × Int) (W : World) (h : HpO B W H v [x, y]) : Calls Tryz.prog 100 #[IH H, .int .i64 1] W fun e w' => e = .returned (.tuple #[]) ∧ ∃ v', HpO B w' H v' (if y.1 < x.1 then [y, x] else [x, y]) ∧ Below B W w' ∧ Fr H v v' W w' := by
  obtain ⟨g, cap, rfl, ht⟩ := two_of h
  have hl := m_less H _ W (cell_of_row W H 0 _ _ (0, 0) h.box)
  have HL := Lib.hid (less_any g cap [x, y] 1 0 y x rfl rfl W ht.is)
  have HT := Lib.hid ht
  clear h ht
  unfold IH
  by_cases hlt : y.1 < x.1
  · rw [if_pos hlt]
    rw [decide_eq_true hlt] at HL
    go_enter Tryz.func100, Tryz.ntmps100
    go_wp2
    refine wp_loop_rounds 2 ?_
    rw [rounds_succ]
    go_wp2_with fail
    refine HL.out.mono ?_
    rintro _ w1 ⟨rfl, q, rfl⟩
    have hs := m_swap H (.slice (some ⟨g, 0, none⟩) 2 cap) (W.drewN q) (cell_of_row W H 0 _ _ (0, 0) HT.out.hp.box)
    go_wp2_with fail
    refine (swap_two g cap x y (W.drewN q) HT.out.c.1 HT.out.c.2.1 HT.out.c.2.2.1 HT.out.c.2.2.2 HT.out.f).mono ?_
    rintro _ w2 ⟨rfl, hw2⟩
    have hT2 : Two B (W.drewN q) H g cap x y := ⟨HT.out.hp.drewN q, HT.out.low, HT.out.c, HT.out.f⟩
    have HE := Lib.hid (hT2.swapped hw2)
    clear hT2 hw2 hs
    go_wp2
    rw [rounds_succ]
    go_wp2
    go_end0
    exact ⟨rfl, _, HE.out.1, HE.out.2.1 _ (below_drewN (Below.refl B W) q), (Fr.of_below (below_drewN (Below.refl _ W) q)).trans HE.out.2.2⟩
  · rw [if_neg hlt]
    rw [decide_eq_false hlt] at HL
    go_enter Tryz.func100, Tryz.ntmps100
    go_wp2
    refine wp_loop_rounds 1 ?_
    rw [rounds_succ]
    go_wp2_with fail
    refine HL.out.mono ?_
    rintro _ w1 ⟨rfl, q, rfl⟩
    go_wp2
    go_end0
    exact ⟨rfl, _, HT.out.hp.drewN q, below_drewN (Below.refl B W) q, Fr.of_below (below_drewN (Below.refl _ W) q)⟩
set_option maxRecDepth 20000 in
theorem down01 (H : Nat) (W : World) : Calls Tryz.prog 95 #[IH H, .int .i64 0, .int .i64 1] W fun e w' => e = .returned (.bool false) ∧ w' = W := by
  unfold IH
  go_enter Tryz.func95, Tryz.ntmps95
  go_wp2
  refine wp_loop_rounds 1 ?_
  rw [rounds_succ]
  go_wp2
  go_ret
  exact ⟨rfl, rfl⟩
end Go.Proofs.YtpkkomifenlkaaaGreat.Gp
