/- 'LifeNobody' holds for every input, with no condition: a life that nobody made has ended, and does nothing. -/
import Derived.Test.YtoojifhaaglljaaLife
import Derived.Deep.RegionHeld3
namespace Go.Proofs.Ytoojifhaaglljaa.lifeNobody
open Go.RowKit Life

theorem of_any (who : Int) (w : World) : Calls Try.prog 46 #[.int .i64 who] w fun e w' => e = .returned (.pointer (some ⟨w.heap.size, 0, none⟩)) ∧ L w' w.heap.size who 0 0 0 ∧ Below w.heap.size w w' := by
  go_enter Try.func46, Try.ntmps46
  go_wp2
  go_ret
  exact ⟨rfl, heap_alloc_new w _, (Below.refl _ _).alloc (Nat.le_refl _) _⟩

/-- What holds of a life that ended, till it is told how. -/
def E3 (g : Nat) (who k how : Int) (W : World) : Prop := W.cell? ⟨g, 0, none⟩ = some (.int .i64 who) ∧ W.cell? ⟨g, 2, none⟩ = some (.int .i64 k) ∧ W.cell? ⟨g, 3, none⟩ = some (.int .i64 how)
theorem cell_far {W : World} {g i j m : Nat} {x v : Value} (h : W.cell? ⟨g, i, none⟩ = some x) (hne : g ≠ m) : (W.setCell ⟨m, j, none⟩ v).cell? ⟨g, i, none⟩ = some x := by
  have e := Below.heap_setCell W ⟨m, j, none⟩ v g (by exact hne)
  unfold World.cell? at *
  rw [e]
  exact h
theorem E3.new {g : Nat} {who k how : Int} {w : World} {o : Obj} (hlt : g < w.heap.size) (h : E3 g who k how w) : E3 g who k how (w.alloc o).drew :=
  ⟨(World.cell?_alloc_lt w _ _ hlt).trans h.1, (World.cell?_alloc_lt w _ _ hlt).trans h.2.1, (World.cell?_alloc_lt w _ _ hlt).trans h.2.2⟩
theorem E3.store {g m : Nat} {who k how : Int} {W : World} {a b c : Value} (h : E3 g who k how W) (hne : g ≠ m) : E3 g who k how (((W.setCell ⟨m, 0, none⟩ a).setCell ⟨m, 1, none⟩ b).setCell ⟨m, 2, none⟩ c) :=
  ⟨cell_far (cell_far (cell_far h.1 hne) hne) hne, cell_far (cell_far (cell_far h.2.1 hne) hne) hne, cell_far (cell_far (cell_far h.2.2 hne) hne) hne⟩
theorem E3.drew {g : Nat} {who k how : Int} {W : World} (h : E3 g who k how W) : E3 g who k how W.drew := h

theorem exit_some {w : World} {g : Nat} {who k how : Int} (h : L w g who 2 k how) : Calls Try.prog 45 #[.pointer (some ⟨g, 0, none⟩)] w fun e w' => e = .returned (.tuple #[.agg #[.int .i64 who, .int .i64 how, .int .i64 k], .bool true]) ∧ Below w.heap.size w w' := by
  obtain ⟨d0, d1, d2, d3, f⟩ := h.facts
  have hlt := h.lt
  clear f h
  have hne : ¬ w.heap.size = g := by omega
  have hne2 : ¬ g = w.heap.size := by omega
  go_enter Try.func45, Try.ntmps45
  go_wp2
  go_region_held3 (fun w' => w'.cell? ⟨g, 0, none⟩ = some (.int .i64 who) ∧ w'.cell? ⟨g, 2, none⟩ = some (.int .i64 k) ∧ w'.cell? ⟨g, 3, none⟩ = some (.int .i64 how))
    (first | assumption | exact E3.new hlt ⟨d0, d2, d3⟩ | exact E3.store (by assumption) hne2 | exact E3.store (E3.drew (by assumption)) hne2 | exact E3.drew (by assumption) | exact E3.store (E3.new hlt ⟨d0, d2, d3⟩) hne2)
    (fail)
  go_wp2
  refine bodyPost_ret (v := .tuple #[.agg #[.int .i64 who, .int .i64 how, .int .i64 k], .bool true]) (by simp [results, Try.results45, go_sem]) rfl ⟨rfl, ?_⟩
  exact ((Below.refl _ _).alloc (Nat.le_refl _) _).drew

theorem eq_exit (a b c x y z : Int) (w : World) : (binOp .eql 73 (.agg #[.int .i64 a, .int .i64 b, .int .i64 c]) (.agg #[.int .i64 x, .int .i64 y, .int .i64 z])).run Try.prog w = .ok (.bool (a == x && (b == y && c == z))) w := by
  go_simp
  repeat' split
  all_goals simp_all

theorem neq_exit (a b c x y z : Int) (w : World) : (binOp .neq 73 (.agg #[.int .i64 a, .int .i64 b, .int .i64 c]) (.agg #[.int .i64 x, .int .i64 y, .int .i64 z])).run Try.prog w = .ok (.bool (!(a == x && (b == y && c == z)))) w := by
  go_simp
  repeat' split
  all_goals simp_all

set_option maxRecDepth 20000 in
set_option maxHeartbeats 1000000 in
theorem awake_any (w : World) : Calls Try.prog 53 #[] w fun e w' => e = .returned (.bool true) ∧ Below w.heap.size w w' := by
  have he := eq_exit
  go_enter Try.func53, Try.ntmps53
  go_wp2_with fail
  refine (of_any 3 _).mono ?_
  rintro e w1 ⟨rfl, l1, b1⟩
  go_wp2_with fail
  refine (step_on l1 (.inl rfl) (by decide) (by decide)).mono ?_
  rintro e w2 ⟨rfl, l2, b2⟩
  go_wp2_with fail
  refine (step_on l2 (.inr rfl) (by decide) (by decide)).mono ?_
  rintro e w3 ⟨rfl, l3, b3⟩
  go_wp2_with fail
  refine (step_crash l3 (.inr rfl)).mono ?_
  rintro e w4 ⟨rfl, l4, b4⟩
  go_wp2_with fail
  refine (exit_some l4).mono ?_
  rintro e w5 ⟨rfl, b5⟩
  have l5 : L (w5.alloc (.cells #[.int .i64 3, .int .i64 2, .int .i64 2] 73)) w.heap.size 3 2 2 2 := blk_alloc ((b5.block _ l4.lt).trans l4)
  go_wp2_with (go_at_call 49; (refine (state_some l5).mono ?_; rintro e w6 ⟨rfl, rfl⟩))
  go_ret
  exact ⟨rfl, (b1.trans (b2.trans (b3.trans (b4.trans (b5.mono (Nat.le_of_lt l4.lt)))))).alloc (by have := l4.lt; have := b5.size; omega) _⟩

theorem ran_any (r : Nat) (k : Int) (h0 : 0 ≤ k) (h1 : k ≤ 10) (w : World) (h : w.heap[r]? = some (.cells #[.int .i64 k] 3 (0, 0))) :
    Calls Try.prog 52 #[.pointer (some ⟨r, 0, none⟩)] w fun e w' => e = .returned (.tuple #[]) ∧ w' = w.setCell ⟨r, 0, none⟩ (.int .i64 (k + 1)) := by
  have c := blk_cell h
  have f := blk_free h 0
  clear h
  go_enter Try.func52, Try.ntmps52
  go_wp2
  go_end0
  exact ⟨rfl, rfl⟩

theorem safe_nil (w : World) : Calls Try.prog 51 #[.nilFunc] w fun e w' => e = .returned (.bool false) ∧ Below w.heap.size w w' := by
  have hn := nn0
  go_enter_defers Try.func51, Try.ntmps51
  go_wp2
  simp [bodyPostD, Leaves, results, Try.results51, go_sem]
  exact (Below.refl _ _).alloc (Nat.le_refl _) _

set_option maxRecDepth 20000 in
set_option maxHeartbeats 1000000 in
theorem walk0 (who : Int) (crash : Bool) (w : World) : Calls Try.prog 12 #[.int .i64 who, .bool crash] w fun e w' => e = .returned (.bool true) ∧ Below w.heap.size w w' := by
  have hmf : ∀ (fn : Fn) (first cap : Array Value) (w : World), (Instr.makeFunc fn first cap).run Try.prog w = .ok (.func fn first cap) w := fun _ _ _ _ => rfl
  have he := neq_exit
  go_enter Try.func12, Try.ntmps12
  go_wp2_with fail
  refine (exit_none _).mono ?_
  rintro e w1 ⟨rfl, b1⟩
  go_wp2_with fail
  refine (of_any _ _).mono ?_
  rintro e w2 ⟨rfl, l2, b2⟩
  have hB2 : Below w.heap.size w w2 := (b1.alloc b1.size _).trans (b2.mono (by simp; have := b1.size; omega))
  have hx : w2.heap[w1.heap.size]? = some (.cells #[.int .i64 0, .int .i64 0, .int .i64 0] 73 (0, 0)) := (b2.block _ (by simp)).trans (heap_alloc_new w1 _)
  generalize hg : (w1.alloc (.cells #[.int .i64 0, .int .i64 0, .int .i64 0] 73)).heap.size = g at *
  have hg0 : w.heap.size ≤ g := by rw [← hg]; simp; have := b1.size; omega
  have hg' : w1.heap.size + 1 = g := by rw [← hg]; simp
  clear b1 b2 hg
  go_wp2_with fail
  refine (step_none _ _ _ _ _).mono ?_
  rintro e w3 ⟨rfl, b3⟩
  have hx3 := (b3.block _ (blk_lt hx)).trans hx
  have l3 : L w3 g who 0 0 0 := (b3.block _ l2.lt).trans l2
  have hB3 : Below w.heap.size w w3 := hB2.trans (b3.mono hB2.size)
  have x0 := cell_of_row w3 w1.heap.size 0 _ _ (0, 0) hx3
  have x1 := cell_of_row w3 w1.heap.size 1 _ _ (0, 0) hx3
  have x2 := cell_of_row w3 w1.heap.size 2 _ _ (0, 0) hx3
  simp at x0 x1 x2
  clear hx hx3 b3 l2 hB2 hg'
  go_wp2_with fail
  refine (state_none _).mono ?_
  rintro e w4 ⟨rfl, rfl⟩
  clear x0 x1 x2
  go_wp2_with fail
  refine (steps_none _).mono ?_
  rintro e w4 ⟨rfl, rfl⟩
  go_wp2_with fail
  refine (step_nil l3 _).mono ?_
  rintro e w5 ⟨rfl, l5, b5⟩
  have hB5 := hB3.trans (b5.mono hB3.size)
  clear l3 hB3 b5
  go_wp2_with fail
  refine (state_some l5).mono ?_
  rintro e w6 ⟨rfl, rfl⟩
  have hz := hB5.size
  clear l5
  have v0 : (w6.alloc (.cells #[.int .i64 0] 3)).heap[w6.heap.size]? = some (.cells #[.int .i64 0] 3 (0, 0)) := heap_alloc_new w6 _
  have hBV : Below w.heap.size w (w6.alloc (.cells #[.int .i64 0] 3)) := hB5.alloc hz _
  have hVz : (w6.alloc (.cells #[.int .i64 0] 3)).heap.size = w6.heap.size + 1 := by simp
  have hsafe := safe_ran #[.pointer (some ⟨w6.heap.size, 0, none⟩)] (w6.alloc (.cells #[.int .i64 0] 3)) (fun w0 => w0.heap[w6.heap.size]? = some (.cells #[.int .i64 1] 3 (0, 0)) ∧ Below w.heap.size w w0)
    ((ran_any w6.heap.size 0 (by decide) (by decide) _ (blk_alloc v0)).mono fun e w' ⟨he, hw⟩ => by
      subst hw
      have r4 := blk_far (i := 0) (v := .int .i64 (0 + 1)) (blk_new (w6.alloc (.cells #[.int .i64 0] 3)) #[.bool true] 4 _ rfl) (by omega : _ ≠ w6.heap.size)
      exact ⟨he, blk_cell r4, blk_free r4 0, blk_set (blk_alloc v0), (hBV.alloc (by omega) _).setCell (p := ⟨w6.heap.size, 0, none⟩) hz _⟩)
  rw [hVz] at hsafe
  have HS := Lib.hid hsafe
  clear hsafe v0 hBV hVz
  go_wp2_with fail
  refine HS.out.mono ?_
  rintro e w7 ⟨rfl, w0, ⟨a0, hB0⟩, rfl⟩
  have b0 : (w0.setCell ⟨w6.heap.size + 1, 0, none⟩ (.bool false)).heap[w6.heap.size]? = _ := blk_far a0 (by omega)
  have hB7 : Below w.heap.size w (w0.setCell ⟨w6.heap.size + 1, 0, none⟩ (.bool false)) := hB0.setCell (p := ⟨w6.heap.size + 1, 0, none⟩) (by show w.heap.size ≤ w6.heap.size + 1; omega) _
  clear a0 hB0 HS
  generalize w0.setCell ⟨w6.heap.size + 1, 0, none⟩ (.bool false) = w8 at *
  go_wp2_with fail
  refine (awake_any _).mono ?_
  rintro e w9 ⟨rfl, b9⟩
  have b1 := (b9.block _ (blk_lt b0)).trans b0
  have hB9 := hB7.trans (b9.mono hB7.size)
  have p1 := blk_cell b1
  clear b0 hB7 b9 b1
  go_wp2_with fail
  refine (safe_nil _).mono ?_
  rintro e w10 ⟨rfl, b10⟩
  go_wp2
  go_ret
  exact ⟨rfl, hB9.trans (b10.mono hB9.size)⟩

theorem walk (who : Int) (_ : (Lit.int .i64 who).wf = true) (crash : Bool) (w : World) : Calls Try.prog 12 #[.int .i64 who, .bool crash] w fun e w' => e = .returned (.bool true) ∧ Below w.heap.size w w' := walk0 who crash w
end Go.Proofs.Ytoojifhaaglljaa.lifeNobody
