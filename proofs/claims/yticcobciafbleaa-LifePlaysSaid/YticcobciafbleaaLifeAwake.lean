/- the page's example of layer 18, in any world. -/
import Derived.Test.YticcobciafbleaaLife
import Derived.Deep.RegionHeld3
namespace Go.Proofs.Yticcobciafbleaa.Life
open Go.RowKit

theorem of_any (who : Int) (w : World) : Calls Try.prog 36 #[.int .i64 who] w fun e w' => e = .returned (.pointer (some ⟨w.heap.size, 0, none⟩)) ∧ L w' w.heap.size who 0 0 0 ∧ Below w.heap.size w w' := by
  go_enter Try.func36, Try.ntmps36
  go_wp2
  go_ret
  exact ⟨rfl, heap_alloc_new w _, (Below.refl _ _).alloc (Nat.le_refl _) _⟩

/-- What holds of a life that ended, till it is told how. -/
def E3 (g : Nat) (who k how : Int) (W : World) : Prop := W.cell? ⟨g, 0, none⟩ = some (.int .i64 who) ∧ W.cell? ⟨g, 2, none⟩ = some (.int .i64 k) ∧ W.cell? ⟨g, 3, none⟩ = some (.int .i64 how)
theorem cell_far {W : World} {g i j m : Nat} {x v : Value} (h : W.cell? ⟨g, i, none⟩ = some x) (hne : g ≠ m) : (W.setCell ⟨m, j, none⟩ v).cell? ⟨g, i, none⟩ = some x := by
  have e := Below.heap_setCell W ⟨m, j, none⟩ v g (by exact hne)
  unfold World.cell? at *
  rw [e]
  exact h
theorem E3.new {g : Nat} {who k how : Int} {w : World} {o : Obj} (hlt : g < w.heap.size) (h : E3 g who k how w) : E3 g who k how (w.alloc o).drew :=
  ⟨(World.cell?_alloc_lt w _ _ hlt).trans h.1, (World.cell?_alloc_lt w _ _ hlt).trans h.2.1, (World.cell?_alloc_lt w _ _ hlt).trans h.2.2⟩
theorem E3.store {g m : Nat} {who k how : Int} {W : World} {a b c : Value} (h : E3 g who k how W) (hne : g ≠ m) : E3 g who k how (((W.setCell ⟨m, 0, none⟩ a).setCell ⟨m, 1, none⟩ b).setCell ⟨m, 2, none⟩ c) :=
  ⟨cell_far (cell_far (cell_far h.1 hne) hne) hne, cell_far (cell_far (cell_far h.2.1 hne) hne) hne, cell_far (cell_far (cell_far h.2.2 hne) hne) hne⟩
theorem E3.drew {g : Nat} {who k how : Int} {W : World} (h : E3 g who k how W) : E3 g who k how W.drew := h

theorem exit_some {w : World} {g : Nat} {who k how : Int} (h : L w g who 2 k how) : Calls Try.prog 40 #[.pointer (some ⟨g, 0, none⟩)] w fun e w' => e = .returned (.tuple #[.agg #[.int .i64 who, .int .i64 how, .int .i64 k], .bool true]) ∧ Below w.heap.size w w' := by
  obtain ⟨d0, d1, d2, d3, f⟩ := h.facts
  have hlt := h.lt
  clear f h
  have hne : ¬ w.heap.size = g := by omega
  have hne2 : ¬ g = w.heap.size := by omega
  go_enter Try.func40, Try.ntmps40
  go_wp2
  go_region_held3 (fun w' => w'.cell? ⟨g, 0, none⟩ = some (.int .i64 who) ∧ w'.cell? ⟨g, 2, none⟩ = some (.int .i64 k) ∧ w'.cell? ⟨g, 3, none⟩ = some (.int .i64 how))
    (first | assumption | exact E3.new hlt ⟨d0, d2, d3⟩ | exact E3.store (by assumption) hne2 | exact E3.store (E3.drew (by assumption)) hne2 | exact E3.drew (by assumption) | exact E3.store (E3.new hlt ⟨d0, d2, d3⟩) hne2)
    (fail)
  go_wp2
  refine bodyPost_ret (v := .tuple #[.agg #[.int .i64 who, .int .i64 how, .int .i64 k], .bool true]) (by simp [results, Try.results40, go_sem]) rfl ⟨rfl, ?_⟩
  exact ((Below.refl _ _).alloc (Nat.le_refl _) _).drew

theorem eq_exit (a b c x y z : Int) (w : World) : (binOp .eql 77 (.agg #[.int .i64 a, .int .i64 b, .int .i64 c]) (.agg #[.int .i64 x, .int .i64 y, .int .i64 z])).run Try.prog w = .ok (.bool (a == x && (b == y && c == z))) w := by
  go_simp
  repeat' split
  all_goals simp_all

theorem neq_exit (a b c x y z : Int) (w : World) : (binOp .neq 77 (.agg #[.int .i64 a, .int .i64 b, .int .i64 c]) (.agg #[.int .i64 x, .int .i64 y, .int .i64 z])).run Try.prog w = .ok (.bool (!(a == x && (b == y && c == z)))) w := by
  go_simp
  repeat' split
  all_goals simp_all

set_option maxRecDepth 20000 in
set_option maxHeartbeats 1000000 in
theorem awake_any (w : World) : Calls Try.prog 35 #[] w fun e w' => e = .returned (.bool true) ∧ Below w.heap.size w w' := by
  have he := eq_exit
  go_enter Try.func35, Try.ntmps35
  go_wp2_with fail
  refine (of_any 3 _).mono ?_
  rintro e w1 ⟨rfl, l1, b1⟩
  go_wp2_with fail
  refine (step_on l1 (.inl rfl) (by decide) (by decide)).mono ?_
  rintro e w2 ⟨rfl, l2, b2⟩
  go_wp2_with fail
  refine (step_on l2 (.inr rfl) (by decide) (by decide)).mono ?_
  rintro e w3 ⟨rfl, l3, b3⟩
  go_wp2_with fail
  refine (step_crash l3 (.inr rfl)).mono ?_
  rintro e w4 ⟨rfl, l4, b4⟩
  go_wp2_with fail
  refine (exit_some l4).mono ?_
  rintro e w5 ⟨rfl, b5⟩
  have l5 : L (w5.alloc (.cells #[.int .i64 3, .int .i64 2, .int .i64 2] 77)) w.heap.size 3 2 2 2 := blk_alloc ((b5.block _ l4.lt).trans l4)
  go_wp2_with (go_at_call 42; (refine (state_some l5).mono ?_; rintro e w6 ⟨rfl, rfl⟩))
  go_ret
  exact ⟨rfl, (b1.trans (b2.trans (b3.trans (b4.trans (b5.mono (Nat.le_of_lt l4.lt)))))).alloc (by have := l4.lt; have := b5.size; omega) _⟩

end Go.Proofs.Yticcobciafbleaa.Life
