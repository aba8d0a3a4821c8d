/- submit.After, and the page's. -/
import Derived.Test.YtnidafgjbocfcaaRight
import Derived.Test.YtnidafgjbocfcaaBatchPart
import Derived.Deep.RegionHeld3
namespace Go.Proofs.Ytnidafgjbocfcaa.Subm
open Go Go.RowKit Go.Shelf

theorem op_any (k o : Int) (h : (k = 1 ∧ o = 7) ∨ (k = 2 ∧ o = 9) ∨ ((k = 3 ∨ k = 4 ∨ k = 5 ∨ k = 6 ∨ k = 8 ∨ k = 9) ∧ o = 8) ∨ ((k < 1 ∨ k = 7 ∨ 9 < k) ∧ o = 0)) (w : World) :
    Calls Try.prog 48 #[.int .i64 k] w fun e w' => e = .returned (.int .i64 o) ∧ w' = w := by
  rcases h with ⟨rfl, rfl⟩ | ⟨rfl, rfl⟩ | ⟨h, rfl⟩ | ⟨h, rfl⟩
  · go_enter Try.func48, Try.ntmps48
    go_wp2
    go_ret
    exact ⟨rfl, rfl⟩
  · go_enter Try.func48, Try.ntmps48
    go_wp2
    go_ret
    exact ⟨rfl, rfl⟩
  · rcases h with rfl | rfl | rfl | rfl | rfl | rfl
    all_goals
      go_enter Try.func48, Try.ntmps48
      go_wp2
      go_ret
      exact ⟨rfl, rfl⟩
  · have q1 : (k == 1) = false := by rw [beq_eq_false_iff_ne]; omega
    have q2 : (k == 2) = false := by rw [beq_eq_false_iff_ne]; omega
    have q3 : (k == 3) = false := by rw [beq_eq_false_iff_ne]; omega
    have q4 : (k == 4) = false := by rw [beq_eq_false_iff_ne]; omega
    have q5 : (k == 5) = false := by rw [beq_eq_false_iff_ne]; omega
    have q6 : (k == 6) = false := by rw [beq_eq_false_iff_ne]; omega
    have q8 : (k == 8) = false := by rw [beq_eq_false_iff_ne]; omega
    have q9 : (k == 9) = false := by rw [beq_eq_false_iff_ne]; omega
    clear h
    go_enter Try.func48, Try.ntmps48
    go_wp2
    go_ret
    exact ⟨rfl, rfl⟩

/-- An operation's cells. -/
def opc (o who side acc ep n : Int) : Array Value := #[.int .i64 o, .int .i64 who, .int .i64 0, .int .i64 0, .int .u64 0, .int .i64 side, .int .i64 acc, .int .u64 ep, .int .u64 n]

theorem cell_far {W : World} {g i j m : Nat} {x v : Value} (h : W.cell? ⟨g, i, none⟩ = some x) (hne : g ≠ m) : (W.setCell ⟨m, j, none⟩ v).cell? ⟨g, i, none⟩ = some x := by
  have e := Below.heap_setCell W ⟨m, j, none⟩ v g (by exact hne)
  unfold World.cell? at *
  rw [e]
  exact h

def S2 (g : Nat) (side acc : Int) (W : World) : Prop := W.cell? ⟨g, 0, none⟩ = some (.int .i64 side) ∧ W.cell? ⟨g, 1, none⟩ = some (.int .i64 acc)
section
variable {g m : Nat} {side acc : Int} {W : World} {o : Obj} {a0 a1 a2 a3 a4 a5 a6 a7 a8 : Value}
theorem S2.drew (h : S2 g side acc W) : S2 g side acc W.drew := h
theorem S2.new (hlt : g < W.heap.size) (h : S2 g side acc W) : S2 g side acc (W.alloc o).drew := ⟨(World.cell?_alloc_lt W _ ⟨g, 0, none⟩ hlt).trans h.1, (World.cell?_alloc_lt W _ ⟨g, 1, none⟩ hlt).trans h.2⟩
theorem S2.store (h : S2 g side acc W) (hne : g ≠ m) : S2 g side acc (((((((((W.setCell ⟨m, 0, none⟩ a0).setCell ⟨m, 1, none⟩ a1).setCell ⟨m, 2, none⟩ a2).setCell ⟨m, 3, none⟩ a3).setCell ⟨m, 4, none⟩ a4).setCell ⟨m, 5, none⟩ a5).setCell ⟨m, 6, none⟩ a6).setCell ⟨m, 7, none⟩ a7).setCell ⟨m, 8, none⟩ a8) :=
  ⟨cell_far (cell_far (cell_far (cell_far (cell_far (cell_far (cell_far (cell_far (cell_far h.1 hne) hne) hne) hne) hne) hne) hne) hne) hne, cell_far (cell_far (cell_far (cell_far (cell_far (cell_far (cell_far (cell_far (cell_far h.2 hne) hne) hne) hne) hne) hne) hne) hne) hne⟩
end

-- AFTER
theorem le_drew {k : Nat} {W : World} (h : k ≤ W.heap.size) : k ≤ W.drew.heap.size := h
theorem le_set {k : Nat} {W : World} {a : Addr} {v : Value} (h : k ≤ W.heap.size) : k ≤ (W.setCell a v).heap.size := by simpa [World.setCell] using h
theorem le_alloc {k : Nat} {W : World} {o : Obj} (h : k ≤ W.heap.size) : k ≤ (W.alloc o).heap.size := by simp; omega

set_option maxRecDepth 100000 in
set_option maxHeartbeats 2000000 in
theorem after9 (k who side acc n ep ex : Int) (v : Value) (w : World) (h : k = 2) :
    Calls Try.prog 11 #[.int .i64 k, .int .i64 who, .agg #[.int .i64 side, .int .i64 acc, .int .u64 n, v], .int .u64 ep, .int .u64 ex] w fun e w' => e = .returned (.tuple #[.agg #[.int .i64 9, .int .i64 who, .int .i64 0, .int .i64 0, .int .u64 0, .int .i64 side, .int .i64 acc, .int .u64 0, .int .u64 ex], .bool true]) ∧ Below w.heap.size w w' := by
  have HO := Lib.hid (op_any k 9 (by omega))
  clear h
  go_enter Try.func11, Try.ntmps11
  go_wp2
  have z0 : ((w.alloc (.cells #[.int .i64 side, .int .i64 acc, .int .u64 n, v] 25)).alloc (.cells #[.int .i64 0, .int .i64 0, .int .i64 0, .int .i64 0, .int .u64 0, .int .i64 0, .int .i64 0, .int .u64 0, .int .u64 0] 32)).cell? ⟨w.heap.size + 1, 0, none⟩ = some (.int .i64 0) := by simp
  have z1 : ((w.alloc (.cells #[.int .i64 side, .int .i64 acc, .int .u64 n, v] 25)).alloc (.cells #[.int .i64 0, .int .i64 0, .int .i64 0, .int .i64 0, .int .u64 0, .int .i64 0, .int .i64 0, .int .u64 0, .int .u64 0] 32)).cell? ⟨w.heap.size + 1, 1, none⟩ = some (.int .i64 0) := by simp
  have z2 : ((w.alloc (.cells #[.int .i64 side, .int .i64 acc, .int .u64 n, v] 25)).alloc (.cells #[.int .i64 0, .int .i64 0, .int .i64 0, .int .i64 0, .int .u64 0, .int .i64 0, .int .i64 0, .int .u64 0, .int .u64 0] 32)).cell? ⟨w.heap.size + 1, 2, none⟩ = some (.int .i64 0) := by simp
  have z3 : ((w.alloc (.cells #[.int .i64 side, .int .i64 acc, .int .u64 n, v] 25)).alloc (.cells #[.int .i64 0, .int .i64 0, .int .i64 0, .int .i64 0, .int .u64 0, .int .i64 0, .int .i64 0, .int .u64 0, .int .u64 0] 32)).cell? ⟨w.heap.size + 1, 3, none⟩ = some (.int .i64 0) := by simp
  have z4 : ((w.alloc (.cells #[.int .i64 side, .int .i64 acc, .int .u64 n, v] 25)).alloc (.cells #[.int .i64 0, .int .i64 0, .int .i64 0, .int .i64 0, .int .u64 0, .int .i64 0, .int .i64 0, .int .u64 0, .int .u64 0] 32)).cell? ⟨w.heap.size + 1, 4, none⟩ = some (.int .u64 0) := by simp
  have z5 : ((w.alloc (.cells #[.int .i64 side, .int .i64 acc, .int .u64 n, v] 25)).alloc (.cells #[.int .i64 0, .int .i64 0, .int .i64 0, .int .i64 0, .int .u64 0, .int .i64 0, .int .i64 0, .int .u64 0, .int .u64 0] 32)).cell? ⟨w.heap.size + 1, 5, none⟩ = some (.int .i64 0) := by simp
  have z6 : ((w.alloc (.cells #[.int .i64 side, .int .i64 acc, .int .u64 n, v] 25)).alloc (.cells #[.int .i64 0, .int .i64 0, .int .i64 0, .int .i64 0, .int .u64 0, .int .i64 0, .int .i64 0, .int .u64 0, .int .u64 0] 32)).cell? ⟨w.heap.size + 1, 6, none⟩ = some (.int .i64 0) := by simp
  have z7 : ((w.alloc (.cells #[.int .i64 side, .int .i64 acc, .int .u64 n, v] 25)).alloc (.cells #[.int .i64 0, .int .i64 0, .int .i64 0, .int .i64 0, .int .u64 0, .int .i64 0, .int .i64 0, .int .u64 0, .int .u64 0] 32)).cell? ⟨w.heap.size + 1, 7, none⟩ = some (.int .u64 0) := by simp
  have z8 : ((w.alloc (.cells #[.int .i64 side, .int .i64 acc, .int .u64 n, v] 25)).alloc (.cells #[.int .i64 0, .int .i64 0, .int .i64 0, .int .i64 0, .int .u64 0, .int .i64 0, .int .i64 0, .int .u64 0, .int .u64 0] 32)).cell? ⟨w.heap.size + 1, 8, none⟩ = some (.int .u64 0) := by simp
  have f0 : ((w.alloc (.cells #[.int .i64 side, .int .i64 acc, .int .u64 n, v] 25)).alloc (.cells #[.int .i64 0, .int .i64 0, .int .i64 0, .int .i64 0, .int .u64 0, .int .i64 0, .int .i64 0, .int .u64 0, .int .u64 0] 32)).frozen? ⟨w.heap.size + 1, 0, none⟩ = false := by simp
  have f1 : ((w.alloc (.cells #[.int .i64 side, .int .i64 acc, .int .u64 n, v] 25)).alloc (.cells #[.int .i64 0, .int .i64 0, .int .i64 0, .int .i64 0, .int .u64 0, .int .i64 0, .int .i64 0, .int .u64 0, .int .u64 0] 32)).frozen? ⟨w.heap.size + 1, 1, none⟩ = false := by simp
  have f2 : ((w.alloc (.cells #[.int .i64 side, .int .i64 acc, .int .u64 n, v] 25)).alloc (.cells #[.int .i64 0, .int .i64 0, .int .i64 0, .int .i64 0, .int .u64 0, .int .i64 0, .int .i64 0, .int .u64 0, .int .u64 0] 32)).frozen? ⟨w.heap.size + 1, 2, none⟩ = false := by simp
  have f3 : ((w.alloc (.cells #[.int .i64 side, .int .i64 acc, .int .u64 n, v] 25)).alloc (.cells #[.int .i64 0, .int .i64 0, .int .i64 0, .int .i64 0, .int .u64 0, .int .i64 0, .int .i64 0, .int .u64 0, .int .u64 0] 32)).frozen? ⟨w.heap.size + 1, 3, none⟩ = false := by simp
  have f4 : ((w.alloc (.cells #[.int .i64 side, .int .i64 acc, .int .u64 n, v] 25)).alloc (.cells #[.int .i64 0, .int .i64 0, .int .i64 0, .int .i64 0, .int .u64 0, .int .i64 0, .int .i64 0, .int .u64 0, .int .u64 0] 32)).frozen? ⟨w.heap.size + 1, 4, none⟩ = false := by simp
  have f5 : ((w.alloc (.cells #[.int .i64 side, .int .i64 acc, .int .u64 n, v] 25)).alloc (.cells #[.int .i64 0, .int .i64 0, .int .i64 0, .int .i64 0, .int .u64 0, .int .i64 0, .int .i64 0, .int .u64 0, .int .u64 0] 32)).frozen? ⟨w.heap.size + 1, 5, none⟩ = false := by simp
  have f6 : ((w.alloc (.cells #[.int .i64 side, .int .i64 acc, .int .u64 n, v] 25)).alloc (.cells #[.int .i64 0, .int .i64 0, .int .i64 0, .int .i64 0, .int .u64 0, .int .i64 0, .int .i64 0, .int .u64 0, .int .u64 0] 32)).frozen? ⟨w.heap.size + 1, 6, none⟩ = false := by simp
  have f7 : ((w.alloc (.cells #[.int .i64 side, .int .i64 acc, .int .u64 n, v] 25)).alloc (.cells #[.int .i64 0, .int .i64 0, .int .i64 0, .int .i64 0, .int .u64 0, .int .i64 0, .int .i64 0, .int .u64 0, .int .u64 0] 32)).frozen? ⟨w.heap.size + 1, 7, none⟩ = false := by simp
  have f8 : ((w.alloc (.cells #[.int .i64 side, .int .i64 acc, .int .u64 n, v] 25)).alloc (.cells #[.int .i64 0, .int .i64 0, .int .i64 0, .int .i64 0, .int .u64 0, .int .i64 0, .int .i64 0, .int .u64 0, .int .u64 0] 32)).frozen? ⟨w.heap.size + 1, 8, none⟩ = false := by simp
  have c0 : ((w.alloc (.cells #[.int .i64 side, .int .i64 acc, .int .u64 n, v] 25)).alloc (.cells #[.int .i64 0, .int .i64 0, .int .i64 0, .int .i64 0, .int .u64 0, .int .i64 0, .int .i64 0, .int .u64 0, .int .u64 0] 32)).cell? ⟨w.heap.size, 0, none⟩ = some (.int .i64 side) := by simp
  have c2 : ((w.alloc (.cells #[.int .i64 side, .int .i64 acc, .int .u64 n, v] 25)).alloc (.cells #[.int .i64 0, .int .i64 0, .int .i64 0, .int .i64 0, .int .u64 0, .int .i64 0, .int .i64 0, .int .u64 0, .int .u64 0] 32)).cell? ⟨w.heap.size, 2, none⟩ = some (.int .u64 n) := by simp
  have hS : S2 w.heap.size side acc ((w.alloc (.cells #[.int .i64 side, .int .i64 acc, .int .u64 n, v] 25)).alloc (.cells #[.int .i64 0, .int .i64 0, .int .i64 0, .int .i64 0, .int .u64 0, .int .i64 0, .int .i64 0, .int .u64 0, .int .u64 0] 32)) := ⟨by simp, by simp⟩
  have hB : Below w.heap.size w ((w.alloc (.cells #[.int .i64 side, .int .i64 acc, .int .u64 n, v] 25)).alloc (.cells #[.int .i64 0, .int .i64 0, .int .i64 0, .int .i64 0, .int .u64 0, .int .i64 0, .int .i64 0, .int .u64 0, .int .u64 0] 32)) := ((Below.refl _ _).alloc (Nat.le_refl _) _).alloc (by simp) _
  have hz : ((w.alloc (.cells #[.int .i64 side, .int .i64 acc, .int .u64 n, v] 25)).alloc (.cells #[.int .i64 0, .int .i64 0, .int .i64 0, .int .i64 0, .int .u64 0, .int .i64 0, .int .i64 0, .int .u64 0, .int .u64 0] 32)).heap.size = w.heap.size + 1 + 1 := by simp
  generalize ((w.alloc (.cells #[.int .i64 side, .int .i64 acc, .int .u64 n, v] 25)).alloc (.cells #[.int .i64 0, .int .i64 0, .int .i64 0, .int .i64 0, .int .u64 0, .int .i64 0, .int .i64 0, .int .u64 0, .int .u64 0] 32)) = W0 at hS hB hz z0 f0 z1 f1 z2 f2 z3 f3 z4 f4 z5 f5 z6 f6 z7 f7 z8 f8 c0 c2 ⊢
  have hlt : w.heap.size < W0.heap.size := by omega
  have hne : w.heap.size ≠ W0.heap.size := by omega
  have hlt1 : w.heap.size + 1 < W0.heap.size := by omega
  have HZ := Lib.hid hz
  clear hz
  go_region_held3 (fun W => W.cell? ⟨w.heap.size, 0, none⟩ = some (.int .i64 side) ∧ W.cell? ⟨w.heap.size, 1, none⟩ = some (.int .i64 acc))
    (first | assumption | exact S2.drew hS | exact S2.new hlt hS | exact S2.store (by assumption) hne | exact S2.store (S2.new hlt hS) hne | exact S2.drew (by assumption))
    (first | (go_at_call 48; ((with_reducible refine (HO.out _).mono ?_); rintro e w1 ⟨rfl, rfl⟩)))
  all_goals go_wp2
  all_goals
    refine bodyPost_ret (v := .tuple #[.agg #[.int .i64 9, .int .i64 who, .int .i64 0, .int .i64 0, .int .u64 0, .int .i64 side, .int .i64 acc, .int .u64 0, .int .u64 ex], .bool true]) (by simp [results, Try.results11, go_sem, z0, z1, z2, z3, z4, z5, z6, z7, z8, hlt1]) rfl ⟨rfl, ?_⟩
    repeat (first | (with_reducible exact hB) | (with_reducible refine Below.drew ?_) | (with_reducible refine Below.setCell (p := ⟨_, _, none⟩) ?_ (Nat.le_of_lt (by first | exact Nat.lt_succ_self _ | exact hlt)) _) | (with_reducible refine Below.alloc ?_ ?_ _))
    all_goals (repeat (first | (with_reducible exact hB.size) | (with_reducible refine le_drew ?_) | (with_reducible refine le_set ?_) | (with_reducible refine le_alloc ?_)))

set_option maxRecDepth 100000 in
set_option maxHeartbeats 2000000 in
theorem after7 (k who side acc n ep ex : Int) (v : Value) (w : World) (h : k = 1) :
    Calls Try.prog 11 #[.int .i64 k, .int .i64 who, .agg #[.int .i64 side, .int .i64 acc, .int .u64 n, v], .int .u64 ep, .int .u64 ex] w fun e w' => e = .returned (.tuple #[.agg #[.int .i64 7, .int .i64 who, .int .i64 0, .int .i64 0, .int .u64 0, .int .i64 side, .int .i64 acc, .int .u64 ep, .int .u64 n], .bool true]) ∧ Below w.heap.size w w' := by
  have HO := Lib.hid (op_any k 7 (by omega))
  clear h
  go_enter Try.func11, Try.ntmps11
  go_wp2
  have z0 : ((w.alloc (.cells #[.int .i64 side, .int .i64 acc, .int .u64 n, v] 25)).alloc (.cells #[.int .i64 0, .int .i64 0, .int .i64 0, .int .i64 0, .int .u64 0, .int .i64 0, .int .i64 0, .int .u64 0, .int .u64 0] 32)).cell? ⟨w.heap.size + 1, 0, none⟩ = some (.int .i64 0) := by simp
  have z1 : ((w.alloc (.cells #[.int .i64 side, .int .i64 acc, .int .u64 n, v] 25)).alloc (.cells #[.int .i64 0, .int .i64 0, .int .i64 0, .int .i64 0, .int .u64 0, .int .i64 0, .int .i64 0, .int .u64 0, .int .u64 0] 32)).cell? ⟨w.heap.size + 1, 1, none⟩ = some (.int .i64 0) := by simp
  have z2 : ((w.alloc (.cells #[.int .i64 side, .int .i64 acc, .int .u64 n, v] 25)).alloc (.cells #[.int .i64 0, .int .i64 0, .int .i64 0, .int .i64 0, .int .u64 0, .int .i64 0, .int .i64 0, .int .u64 0, .int .u64 0] 32)).cell? ⟨w.heap.size + 1, 2, none⟩ = some (.int .i64 0) := by simp
  have z3 : ((w.alloc (.cells #[.int .i64 side, .int .i64 acc, .int .u64 n, v] 25)).alloc (.cells #[.int .i64 0, .int .i64 0, .int .i64 0, .int .i64 0, .int .u64 0, .int .i64 0, .int .i64 0, .int .u64 0, .int .u64 0] 32)).cell? ⟨w.heap.size + 1, 3, none⟩ = some (.int .i64 0) := by simp
  have z4 : ((w.alloc (.cells #[.int .i64 side, .int .i64 acc, .int .u64 n, v] 25)).alloc (.cells #[.int .i64 0, .int .i64 0, .int .i64 0, .int .i64 0, .int .u64 0, .int .i64 0, .int .i64 0, .int .u64 0, .int .u64 0] 32)).cell? ⟨w.heap.size + 1, 4, none⟩ = some (.int .u64 0) := by simp
  have z5 : ((w.alloc (.cells #[.int .i64 side, .int .i64 acc, .int .u64 n, v] 25)).alloc (.cells #[.int .i64 0, .int .i64 0, .int .i64 0, .int .i64 0, .int .u64 0, .int .i64 0, .int .i64 0, .int .u64 0, .int .u64 0] 32)).cell? ⟨w.heap.size + 1, 5, none⟩ = some (.int .i64 0) := by simp
  have z6 : ((w.alloc (.cells #[.int .i64 side, .int .i64 acc, .int .u64 n, v] 25)).alloc (.cells #[.int .i64 0, .int .i64 0, .int .i64 0, .int .i64 0, .int .u64 0, .int .i64 0, .int .i64 0, .int .u64 0, .int .u64 0] 32)).cell? ⟨w.heap.size + 1, 6, none⟩ = some (.int .i64 0) := by simp
  have z7 : ((w.alloc (.cells #[.int .i64 side, .int .i64 acc, .int .u64 n, v] 25)).alloc (.cells #[.int .i64 0, .int .i64 0, .int .i64 0, .int .i64 0, .int .u64 0, .int .i64 0, .int .i64 0, .int .u64 0, .int .u64 0] 32)).cell? ⟨w.heap.size + 1, 7, none⟩ = some (.int .u64 0) := by simp
  have z8 : ((w.alloc (.cells #[.int .i64 side, .int .i64 acc, .int .u64 n, v] 25)).alloc (.cells #[.int .i64 0, .int .i64 0, .int .i64 0, .int .i64 0, .int .u64 0, .int .i64 0, .int .i64 0, .int .u64 0, .int .u64 0] 32)).cell? ⟨w.heap.size + 1, 8, none⟩ = some (.int .u64 0) := by simp
  have f0 : ((w.alloc (.cells #[.int .i64 side, .int .i64 acc, .int .u64 n, v] 25)).alloc (.cells #[.int .i64 0, .int .i64 0, .int .i64 0, .int .i64 0, .int .u64 0, .int .i64 0, .int .i64 0, .int .u64 0, .int .u64 0] 32)).frozen? ⟨w.heap.size + 1, 0, none⟩ = false := by simp
  have f1 : ((w.alloc (.cells #[.int .i64 side, .int .i64 acc, .int .u64 n, v] 25)).alloc (.cells #[.int .i64 0, .int .i64 0, .int .i64 0, .int .i64 0, .int .u64 0, .int .i64 0, .int .i64 0, .int .u64 0, .int .u64 0] 32)).frozen? ⟨w.heap.size + 1, 1, none⟩ = false := by simp
  have f2 : ((w.alloc (.cells #[.int .i64 side, .int .i64 acc, .int .u64 n, v] 25)).alloc (.cells #[.int .i64 0, .int .i64 0, .int .i64 0, .int .i64 0, .int .u64 0, .int .i64 0, .int .i64 0, .int .u64 0, .int .u64 0] 32)).frozen? ⟨w.heap.size + 1, 2, none⟩ = false := by simp
  have f3 : ((w.alloc (.cells #[.int .i64 side, .int .i64 acc, .int .u64 n, v] 25)).alloc (.cells #[.int .i64 0, .int .i64 0, .int .i64 0, .int .i64 0, .int .u64 0, .int .i64 0, .int .i64 0, .int .u64 0, .int .u64 0] 32)).frozen? ⟨w.heap.size + 1, 3, none⟩ = false := by simp
  have f4 : ((w.alloc (.cells #[.int .i64 side, .int .i64 acc, .int .u64 n, v] 25)).alloc (.cells #[.int .i64 0, .int .i64 0, .int .i64 0, .int .i64 0, .int .u64 0, .int .i64 0, .int .i64 0, .int .u64 0, .int .u64 0] 32)).frozen? ⟨w.heap.size + 1, 4, none⟩ = false := by simp
  have f5 : ((w.alloc (.cells #[.int .i64 side, .int .i64 acc, .int .u64 n, v] 25)).alloc (.cells #[.int .i64 0, .int .i64 0, .int .i64 0, .int .i64 0, .int .u64 0, .int .i64 0, .int .i64 0, .int .u64 0, .int .u64 0] 32)).frozen? ⟨w.heap.size + 1, 5, none⟩ = false := by simp
  have f6 : ((w.alloc (.cells #[.int .i64 side, .int .i64 acc, .int .u64 n, v] 25)).alloc (.cells #[.int .i64 0, .int .i64 0, .int .i64 0, .int .i64 0, .int .u64 0, .int .i64 0, .int .i64 0, .int .u64 0, .int .u64 0] 32)).frozen? ⟨w.heap.size + 1, 6, none⟩ = false := by simp
  have f7 : ((w.alloc (.cells #[.int .i64 side, .int .i64 acc, .int .u64 n, v] 25)).alloc (.cells #[.int .i64 0, .int .i64 0, .int .i64 0, .int .i64 0, .int .u64 0, .int .i64 0, .int .i64 0, .int .u64 0, .int .u64 0] 32)).frozen? ⟨w.heap.size + 1, 7, none⟩ = false := by simp
  have f8 : ((w.alloc (.cells #[.int .i64 side, .int .i64 acc, .int .u64 n, v] 25)).alloc (.cells #[.int .i64 0, .int .i64 0, .int .i64 0, .int .i64 0, .int .u64 0, .int .i64 0, .int .i64 0, .int .u64 0, .int .u64 0] 32)).frozen? ⟨w.heap.size + 1, 8, none⟩ = false := by simp
  have c0 : ((w.alloc (.cells #[.int .i64 side, .int .i64 acc, .int .u64 n, v] 25)).alloc (.cells #[.int .i64 0, .int .i64 0, .int .i64 0, .int .i64 0, .int .u64 0, .int .i64 0, .int .i64 0, .int .u64 0, .int .u64 0] 32)).cell? ⟨w.heap.size, 0, none⟩ = some (.int .i64 side) := by simp
  have c2 : ((w.alloc (.cells #[.int .i64 side, .int .i64 acc, .int .u64 n, v] 25)).alloc (.cells #[.int .i64 0, .int .i64 0, .int .i64 0, .int .i64 0, .int .u64 0, .int .i64 0, .int .i64 0, .int .u64 0, .int .u64 0] 32)).cell? ⟨w.heap.size, 2, none⟩ = some (.int .u64 n) := by simp
  have hS : S2 w.heap.size side acc ((w.alloc (.cells #[.int .i64 side, .int .i64 acc, .int .u64 n, v] 25)).alloc (.cells #[.int .i64 0, .int .i64 0, .int .i64 0, .int .i64 0, .int .u64 0, .int .i64 0, .int .i64 0, .int .u64 0, .int .u64 0] 32)) := ⟨by simp, by simp⟩
  have hB : Below w.heap.size w ((w.alloc (.cells #[.int .i64 side, .int .i64 acc, .int .u64 n, v] 25)).alloc (.cells #[.int .i64 0, .int .i64 0, .int .i64 0, .int .i64 0, .int .u64 0, .int .i64 0, .int .i64 0, .int .u64 0, .int .u64 0] 32)) := ((Below.refl _ _).alloc (Nat.le_refl _) _).alloc (by simp) _
  have hz : ((w.alloc (.cells #[.int .i64 side, .int .i64 acc, .int .u64 n, v] 25)).alloc (.cells #[.int .i64 0, .int .i64 0, .int .i64 0, .int .i64 0, .int .u64 0, .int .i64 0, .int .i64 0, .int .u64 0, .int .u64 0] 32)).heap.size = w.heap.size + 1 + 1 := by simp
  generalize ((w.alloc (.cells #[.int .i64 side, .int .i64 acc, .int .u64 n, v] 25)).alloc (.cells #[.int .i64 0, .int .i64 0, .int .i64 0, .int .i64 0, .int .u64 0, .int .i64 0, .int .i64 0, .int .u64 0, .int .u64 0] 32)) = W0 at hS hB hz z0 f0 z1 f1 z2 f2 z3 f3 z4 f4 z5 f5 z6 f6 z7 f7 z8 f8 c0 c2 ⊢
  have hlt : w.heap.size < W0.heap.size := by omega
  have hne : w.heap.size ≠ W0.heap.size := by omega
  have hlt1 : w.heap.size + 1 < W0.heap.size := by omega
  have HZ := Lib.hid hz
  clear hz
  go_region_held3 (fun W => W.cell? ⟨w.heap.size, 0, none⟩ = some (.int .i64 side) ∧ W.cell? ⟨w.heap.size, 1, none⟩ = some (.int .i64 acc))
    (first | assumption | exact S2.drew hS | exact S2.new hlt hS | exact S2.store (by assumption) hne | exact S2.store (S2.new hlt hS) hne | exact S2.drew (by assumption))
    (first | (go_at_call 48; ((with_reducible refine (HO.out _).mono ?_); rintro e w1 ⟨rfl, rfl⟩)))
  all_goals go_wp2
  all_goals go_region_held3 (fun W => W.cell? ⟨w.heap.size, 2, none⟩ = some (.int .u64 n))
    (first | assumption | exact (World.cell?_alloc_lt W0 _ ⟨w.heap.size, 2, none⟩ hlt).trans c2 | exact cell_far (by assumption) hne | exact cell_far ((World.cell?_alloc_lt W0 _ ⟨w.heap.size, 2, none⟩ hlt).trans c2) hne) (fail)
  all_goals go_wp2
  all_goals
    refine bodyPost_ret (v := .tuple #[.agg #[.int .i64 7, .int .i64 who, .int .i64 0, .int .i64 0, .int .u64 0, .int .i64 side, .int .i64 acc, .int .u64 ep, .int .u64 n], .bool true]) (by simp [results, Try.results11, go_sem, z0, z1, z2, z3, z4, z5, z6, z7, z8, hlt1]) rfl ⟨rfl, ?_⟩
    repeat (first | (with_reducible exact hB) | (with_reducible refine Below.drew ?_) | (with_reducible refine Below.setCell (p := ⟨_, _, none⟩) ?_ (Nat.le_of_lt (by first | exact Nat.lt_succ_self _ | exact hlt)) _) | (with_reducible refine Below.alloc ?_ ?_ _))
    all_goals (repeat (first | (with_reducible exact hB.size) | (with_reducible refine le_drew ?_) | (with_reducible refine le_set ?_) | (with_reducible refine le_alloc ?_)))

set_option maxRecDepth 100000 in
set_option maxHeartbeats 2000000 in
theorem after8 (k who side acc n ep ex : Int) (v : Value) (w : World) (h : k = 3 ∨ k = 4 ∨ k = 5 ∨ k = 6 ∨ k = 8 ∨ k = 9) :
    Calls Try.prog 11 #[.int .i64 k, .int .i64 who, .agg #[.int .i64 side, .int .i64 acc, .int .u64 n, v], .int .u64 ep, .int .u64 ex] w fun e w' => e = .returned (.tuple #[.agg #[.int .i64 8, .int .i64 who, .int .i64 0, .int .i64 0, .int .u64 0, .int .i64 side, .int .i64 acc, .int .u64 ep, .int .u64 n], .bool true]) ∧ Below w.heap.size w w' := by
  have HO := Lib.hid (op_any k 8 (by omega))
  clear h
  go_enter Try.func11, Try.ntmps11
  go_wp2
  have z0 : ((w.alloc (.cells #[.int .i64 side, .int .i64 acc, .int .u64 n, v] 25)).alloc (.cells #[.int .i64 0, .int .i64 0, .int .i64 0, .int .i64 0, .int .u64 0, .int .i64 0, .int .i64 0, .int .u64 0, .int .u64 0] 32)).cell? ⟨w.heap.size + 1, 0, none⟩ = some (.int .i64 0) := by simp
  have z1 : ((w.alloc (.cells #[.int .i64 side, .int .i64 acc, .int .u64 n, v] 25)).alloc (.cells #[.int .i64 0, .int .i64 0, .int .i64 0, .int .i64 0, .int .u64 0, .int .i64 0, .int .i64 0, .int .u64 0, .int .u64 0] 32)).cell? ⟨w.heap.size + 1, 1, none⟩ = some (.int .i64 0) := by simp
  have z2 : ((w.alloc (.cells #[.int .i64 side, .int .i64 acc, .int .u64 n, v] 25)).alloc (.cells #[.int .i64 0, .int .i64 0, .int .i64 0, .int .i64 0, .int .u64 0, .int .i64 0, .int .i64 0, .int .u64 0, .int .u64 0] 32)).cell? ⟨w.heap.size + 1, 2, none⟩ = some (.int .i64 0) := by simp
  have z3 : ((w.alloc (.cells #[.int .i64 side, .int .i64 acc, .int .u64 n, v] 25)).alloc (.cells #[.int .i64 0, .int .i64 0, .int .i64 0, .int .i64 0, .int .u64 0, .int .i64 0, .int .i64 0, .int .u64 0, .int .u64 0] 32)).cell? ⟨w.heap.size + 1, 3, none⟩ = some (.int .i64 0) := by simp
  have z4 : ((w.alloc (.cells #[.int .i64 side, .int .i64 acc, .int .u64 n, v] 25)).alloc (.cells #[.int .i64 0, .int .i64 0, .int .i64 0, .int .i64 0, .int .u64 0, .int .i64 0, .int .i64 0, .int .u64 0, .int .u64 0] 32)).cell? ⟨w.heap.size + 1, 4, none⟩ = some (.int .u64 0) := by simp
  have z5 : ((w.alloc (.cells #[.int .i64 side, .int .i64 acc, .int .u64 n, v] 25)).alloc (.cells #[.int .i64 0, .int .i64 0, .int .i64 0, .int .i64 0, .int .u64 0, .int .i64 0, .int .i64 0, .int .u64 0, .int .u64 0] 32)).cell? ⟨w.heap.size + 1, 5, none⟩ = some (.int .i64 0) := by simp
  have z6 : ((w.alloc (.cells #[.int .i64 side, .int .i64 acc, .int .u64 n, v] 25)).alloc (.cells #[.int .i64 0, .int .i64 0, .int .i64 0, .int .i64 0, .int .u64 0, .int .i64 0, .int .i64 0, .int .u64 0, .int .u64 0] 32)).cell? ⟨w.heap.size + 1, 6, none⟩ = some (.int .i64 0) := by simp
  have z7 : ((w.alloc (.cells #[.int .i64 side, .int .i64 acc, .int .u64 n, v] 25)).alloc (.cells #[.int .i64 0, .int .i64 0, .int .i64 0, .int .i64 0, .int .u64 0, .int .i64 0, .int .i64 0, .int .u64 0, .int .u64 0] 32)).cell? ⟨w.heap.size + 1, 7, none⟩ = some (.int .u64 0) := by simp
  have z8 : ((w.alloc (.cells #[.int .i64 side, .int .i64 acc, .int .u64 n, v] 25)).alloc (.cells #[.int .i64 0, .int .i64 0, .int .i64 0, .int .i64 0, .int .u64 0, .int .i64 0, .int .i64 0, .int .u64 0, .int .u64 0] 32)).cell? ⟨w.heap.size + 1, 8, none⟩ = some (.int .u64 0) := by simp
  have f0 : ((w.alloc (.cells #[.int .i64 side, .int .i64 acc, .int .u64 n, v] 25)).alloc (.cells #[.int .i64 0, .int .i64 0, .int .i64 0, .int .i64 0, .int .u64 0, .int .i64 0, .int .i64 0, .int .u64 0, .int .u64 0] 32)).frozen? ⟨w.heap.size + 1, 0, none⟩ = false := by simp
  have f1 : ((w.alloc (.cells #[.int .i64 side, .int .i64 acc, .int .u64 n, v] 25)).alloc (.cells #[.int .i64 0, .int .i64 0, .int .i64 0, .int .i64 0, .int .u64 0, .int .i64 0, .int .i64 0, .int .u64 0, .int .u64 0] 32)).frozen? ⟨w.heap.size + 1, 1, none⟩ = false := by simp
  have f2 : ((w.alloc (.cells #[.int .i64 side, .int .i64 acc, .int .u64 n, v] 25)).alloc (.cells #[.int .i64 0, .int .i64 0, .int .i64 0, .int .i64 0, .int .u64 0, .int .i64 0, .int .i64 0, .int .u64 0, .int .u64 0] 32)).frozen? ⟨w.heap.size + 1, 2, none⟩ = false := by simp
  have f3 : ((w.alloc (.cells #[.int .i64 side, .int .i64 acc, .int .u64 n, v] 25)).alloc (.cells #[.int .i64 0, .int .i64 0, .int .i64 0, .int .i64 0, .int .u64 0, .int .i64 0, .int .i64 0, .int .u64 0, .int .u64 0] 32)).frozen? ⟨w.heap.size + 1, 3, none⟩ = false := by simp
  have f4 : ((w.alloc (.cells #[.int .i64 side, .int .i64 acc, .int .u64 n, v] 25)).alloc (.cells #[.int .i64 0, .int .i64 0, .int .i64 0, .int .i64 0, .int .u64 0, .int .i64 0, .int .i64 0, .int .u64 0, .int .u64 0] 32)).frozen? ⟨w.heap.size + 1, 4, none⟩ = false := by simp
  have f5 : ((w.alloc (.cells #[.int .i64 side, .int .i64 acc, .int .u64 n, v] 25)).alloc (.cells #[.int .i64 0, .int .i64 0, .int .i64 0, .int .i64 0, .int .u64 0, .int .i64 0, .int .i64 0, .int .u64 0, .int .u64 0] 32)).frozen? ⟨w.heap.size + 1, 5, none⟩ = false := by simp
  have f6 : ((w.alloc (.cells #[.int .i64 side, .int .i64 acc, .int .u64 n, v] 25)).alloc (.cells #[.int .i64 0, .int .i64 0, .int .i64 0, .int .i64 0, .int .u64 0, .int .i64 0, .int .i64 0, .int .u64 0, .int .u64 0] 32)).frozen? ⟨w.heap.size + 1, 6, none⟩ = false := by simp
  have f7 : ((w.alloc (.cells #[.int .i64 side, .int .i64 acc, .int .u64 n, v] 25)).alloc (.cells #[.int .i64 0, .int .i64 0, .int .i64 0, .int .i64 0, .int .u64 0, .int .i64 0, .int .i64 0, .int .u64 0, .int .u64 0] 32)).frozen? ⟨w.heap.size + 1, 7, none⟩ = false := by simp
  have f8 : ((w.alloc (.cells #[.int .i64 side, .int .i64 acc, .int .u64 n, v] 25)).alloc (.cells #[.int .i64 0, .int .i64 0, .int .i64 0, .int .i64 0, .int .u64 0, .int .i64 0, .int .i64 0, .int .u64 0, .int .u64 0] 32)).frozen? ⟨w.heap.size + 1, 8, none⟩ = false := by simp
  have c0 : ((w.alloc (.cells #[.int .i64 side, .int .i64 acc, .int .u64 n, v] 25)).alloc (.cells #[.int .i64 0, .int .i64 0, .int .i64 0, .int .i64 0, .int .u64 0, .int .i64 0, .int .i64 0, .int .u64 0, .int .u64 0] 32)).cell? ⟨w.heap.size, 0, none⟩ = some (.int .i64 side) := by simp
  have c2 : ((w.alloc (.cells #[.int .i64 side, .int .i64 acc, .int .u64 n, v] 25)).alloc (.cells #[.int .i64 0, .int .i64 0, .int .i64 0, .int .i64 0, .int .u64 0, .int .i64 0, .int .i64 0, .int .u64 0, .int .u64 0] 32)).cell? ⟨w.heap.size, 2, none⟩ = some (.int .u64 n) := by simp
  have hS : S2 w.heap.size side acc ((w.alloc (.cells #[.int .i64 side, .int .i64 acc, .int .u64 n, v] 25)).alloc (.cells #[.int .i64 0, .int .i64 0, .int .i64 0, .int .i64 0, .int .u64 0, .int .i64 0, .int .i64 0, .int .u64 0, .int .u64 0] 32)) := ⟨by simp, by simp⟩
  have hB : Below w.heap.size w ((w.alloc (.cells #[.int .i64 side, .int .i64 acc, .int .u64 n, v] 25)).alloc (.cells #[.int .i64 0, .int .i64 0, .int .i64 0, .int .i64 0, .int .u64 0, .int .i64 0, .int .i64 0, .int .u64 0, .int .u64 0] 32)) := ((Below.refl _ _).alloc (Nat.le_refl _) _).alloc (by simp) _
  have hz : ((w.alloc (.cells #[.int .i64 side, .int .i64 acc, .int .u64 n, v] 25)).alloc (.cells #[.int .i64 0, .int .i64 0, .int .i64 0, .int .i64 0, .int .u64 0, .int .i64 0, .int .i64 0, .int .u64 0, .int .u64 0] 32)).heap.size = w.heap.size + 1 + 1 := by simp
  generalize ((w.alloc (.cells #[.int .i64 side, .int .i64 acc, .int .u64 n, v] 25)).alloc (.cells #[.int .i64 0, .int .i64 0, .int .i64 0, .int .i64 0, .int .u64 0, .int .i64 0, .int .i64 0, .int .u64 0, .int .u64 0] 32)) = W0 at hS hB hz z0 f0 z1 f1 z2 f2 z3 f3 z4 f4 z5 f5 z6 f6 z7 f7 z8 f8 c0 c2 ⊢
  have hlt : w.heap.size < W0.heap.size := by omega
  have hne : w.heap.size ≠ W0.heap.size := by omega
  have hlt1 : w.heap.size + 1 < W0.heap.size := by omega
  have HZ := Lib.hid hz
  clear hz
  go_region_held3 (fun W => W.cell? ⟨w.heap.size, 0, none⟩ = some (.int .i64 side) ∧ W.cell? ⟨w.heap.size, 1, none⟩ = some (.int .i64 acc))
    (first | assumption | exact S2.drew hS | exact S2.new hlt hS | exact S2.store (by assumption) hne | exact S2.store (S2.new hlt hS) hne | exact S2.drew (by assumption))
    (first | (go_at_call 48; ((with_reducible refine (HO.out _).mono ?_); rintro e w1 ⟨rfl, rfl⟩)))
  all_goals go_wp2
  all_goals go_region_held3 (fun W => W.cell? ⟨w.heap.size, 2, none⟩ = some (.int .u64 n))
    (first | assumption | exact (World.cell?_alloc_lt W0 _ ⟨w.heap.size, 2, none⟩ hlt).trans c2 | exact cell_far (by assumption) hne | exact cell_far ((World.cell?_alloc_lt W0 _ ⟨w.heap.size, 2, none⟩ hlt).trans c2) hne) (fail)
  all_goals go_wp2
  all_goals
    refine bodyPost_ret (v := .tuple #[.agg #[.int .i64 8, .int .i64 who, .int .i64 0, .int .i64 0, .int .u64 0, .int .i64 side, .int .i64 acc, .int .u64 ep, .int .u64 n], .bool true]) (by simp [results, Try.results11, go_sem, z0, z1, z2, z3, z4, z5, z6, z7, z8, hlt1]) rfl ⟨rfl, ?_⟩
    repeat (first | (with_reducible exact hB) | (with_reducible refine Below.drew ?_) | (with_reducible refine Below.setCell (p := ⟨_, _, none⟩) ?_ (Nat.le_of_lt (by first | exact Nat.lt_succ_self _ | exact hlt)) _) | (with_reducible refine Below.alloc ?_ ?_ _))
    all_goals (repeat (first | (with_reducible exact hB.size) | (with_reducible refine le_drew ?_) | (with_reducible refine le_set ?_) | (with_reducible refine le_alloc ?_)))

set_option maxRecDepth 100000 in
set_option maxHeartbeats 2000000 in
theorem after0 (k who side acc n ep ex : Int) (v : Value) (w : World) (h : k < 1 ∨ k = 7 ∨ 9 < k) :
    Calls Try.prog 11 #[.int .i64 k, .int .i64 who, .agg #[.int .i64 side, .int .i64 acc, .int .u64 n, v], .int .u64 ep, .int .u64 ex] w fun e w' => e = .returned (.tuple #[.agg #[.int .i64 0, .int .i64 0, .int .i64 0, .int .i64 0, .int .u64 0, .int .i64 0, .int .i64 0, .int .u64 0, .int .u64 0], .bool false]) ∧ Below w.heap.size w w' := by
  have HO := Lib.hid (op_any k 0 (by omega))
  clear h
  go_enter Try.func11, Try.ntmps11
  go_wp2
  have z0 : ((w.alloc (.cells #[.int .i64 side, .int .i64 acc, .int .u64 n, v] 25)).alloc (.cells #[.int .i64 0, .int .i64 0, .int .i64 0, .int .i64 0, .int .u64 0, .int .i64 0, .int .i64 0, .int .u64 0, .int .u64 0] 32)).cell? ⟨w.heap.size + 1, 0, none⟩ = some (.int .i64 0) := by simp
  have z1 : ((w.alloc (.cells #[.int .i64 side, .int .i64 acc, .int .u64 n, v] 25)).alloc (.cells #[.int .i64 0, .int .i64 0, .int .i64 0, .int .i64 0, .int .u64 0, .int .i64 0, .int .i64 0, .int .u64 0, .int .u64 0] 32)).cell? ⟨w.heap.size + 1, 1, none⟩ = some (.int .i64 0) := by simp
  have z2 : ((w.alloc (.cells #[.int .i64 side, .int .i64 acc, .int .u64 n, v] 25)).alloc (.cells #[.int .i64 0, .int .i64 0, .int .i64 0, .int .i64 0, .int .u64 0, .int .i64 0, .int .i64 0, .int .u64 0, .int .u64 0] 32)).cell? ⟨w.heap.size + 1, 2, none⟩ = some (.int .i64 0) := by simp
  have z3 : ((w.alloc (.cells #[.int .i64 side, .int .i64 acc, .int .u64 n, v] 25)).alloc (.cells #[.int .i64 0, .int .i64 0, .int .i64 0, .int .i64 0, .int .u64 0, .int .i64 0, .int .i64 0, .int .u64 0, .int .u64 0] 32)).cell? ⟨w.heap.size + 1, 3, none⟩ = some (.int .i64 0) := by simp
  have z4 : ((w.alloc (.cells #[.int .i64 side, .int .i64 acc, .int .u64 n, v] 25)).alloc (.cells #[.int .i64 0, .int .i64 0, .int .i64 0, .int .i64 0, .int .u64 0, .int .i64 0, .int .i64 0, .int .u64 0, .int .u64 0] 32)).cell? ⟨w.heap.size + 1, 4, none⟩ = some (.int .u64 0) := by simp
  have z5 : ((w.alloc (.cells #[.int .i64 side, .int .i64 acc, .int .u64 n, v] 25)).alloc (.cells #[.int .i64 0, .int .i64 0, .int .i64 0, .int .i64 0, .int .u64 0, .int .i64 0, .int .i64 0, .int .u64 0, .int .u64 0] 32)).cell? ⟨w.heap.size + 1, 5, none⟩ = some (.int .i64 0) := by simp
  have z6 : ((w.alloc (.cells #[.int .i64 side, .int .i64 acc, .int .u64 n, v] 25)).alloc (.cells #[.int .i64 0, .int .i64 0, .int .i64 0, .int .i64 0, .int .u64 0, .int .i64 0, .int .i64 0, .int .u64 0, .int .u64 0] 32)).cell? ⟨w.heap.size + 1, 6, none⟩ = some (.int .i64 0) := by simp
  have z7 : ((w.alloc (.cells #[.int .i64 side, .int .i64 acc, .int .u64 n, v] 25)).alloc (.cells #[.int .i64 0, .int .i64 0, .int .i64 0, .int .i64 0, .int .u64 0, .int .i64 0, .int .i64 0, .int .u64 0, .int .u64 0] 32)).cell? ⟨w.heap.size + 1, 7, none⟩ = some (.int .u64 0) := by simp
  have z8 : ((w.alloc (.cells #[.int .i64 side, .int .i64 acc, .int .u64 n, v] 25)).alloc (.cells #[.int .i64 0, .int .i64 0, .int .i64 0, .int .i64 0, .int .u64 0, .int .i64 0, .int .i64 0, .int .u64 0, .int .u64 0] 32)).cell? ⟨w.heap.size + 1, 8, none⟩ = some (.int .u64 0) := by simp
  have f0 : ((w.alloc (.cells #[.int .i64 side, .int .i64 acc, .int .u64 n, v] 25)).alloc (.cells #[.int .i64 0, .int .i64 0, .int .i64 0, .int .i64 0, .int .u64 0, .int .i64 0, .int .i64 0, .int .u64 0, .int .u64 0] 32)).frozen? ⟨w.heap.size + 1, 0, none⟩ = false := by simp
  have f1 : ((w.alloc (.cells #[.int .i64 side, .int .i64 acc, .int .u64 n, v] 25)).alloc (.cells #[.int .i64 0, .int .i64 0, .int .i64 0, .int .i64 0, .int .u64 0, .int .i64 0, .int .i64 0, .int .u64 0, .int .u64 0] 32)).frozen? ⟨w.heap.size + 1, 1, none⟩ = false := by simp
  have f2 : ((w.alloc (.cells #[.int .i64 side, .int .i64 acc, .int .u64 n, v] 25)).alloc (.cells #[.int .i64 0, .int .i64 0, .int .i64 0, .int .i64 0, .int .u64 0, .int .i64 0, .int .i64 0, .int .u64 0, .int .u64 0] 32)).frozen? ⟨w.heap.size + 1, 2, none⟩ = false := by simp
  have f3 : ((w.alloc (.cells #[.int .i64 side, .int .i64 acc, .int .u64 n, v] 25)).alloc (.cells #[.int .i64 0, .int .i64 0, .int .i64 0, .int .i64 0, .int .u64 0, .int .i64 0, .int .i64 0, .int .u64 0, .int .u64 0] 32)).frozen? ⟨w.heap.size + 1, 3, none⟩ = false := by simp
  have f4 : ((w.alloc (.cells #[.int .i64 side, .int .i64 acc, .int .u64 n, v] 25)).alloc (.cells #[.int .i64 0, .int .i64 0, .int .i64 0, .int .i64 0, .int .u64 0, .int .i64 0, .int .i64 0, .int .u64 0, .int .u64 0] 32)).frozen? ⟨w.heap.size + 1, 4, none⟩ = false := by simp
  have f5 : ((w.alloc (.cells #[.int .i64 side, .int .i64 acc, .int .u64 n, v] 25)).alloc (.cells #[.int .i64 0, .int .i64 0, .int .i64 0, .int .i64 0, .int .u64 0, .int .i64 0, .int .i64 0, .int .u64 0, .int .u64 0] 32)).frozen? ⟨w.heap.size + 1, 5, none⟩ = false := by simp
  have f6 : ((w.alloc (.cells #[.int .i64 side, .int .i64 acc, .int .u64 n, v] 25)).alloc (.cells #[.int .i64 0, .int .i64 0, .int .i64 0, .int .i64 0, .int .u64 0, .int .i64 0, .int .i64 0, .int .u64 0, .int .u64 0] 32)).frozen? ⟨w.heap.size + 1, 6, none⟩ = false := by simp
  have f7 : ((w.alloc (.cells #[.int .i64 side, .int .i64 acc, .int .u64 n, v] 25)).alloc (.cells #[.int .i64 0, .int .i64 0, .int .i64 0, .int .i64 0, .int .u64 0, .int .i64 0, .int .i64 0, .int .u64 0, .int .u64 0] 32)).frozen? ⟨w.heap.size + 1, 7, none⟩ = false := by simp
  have f8 : ((w.alloc (.cells #[.int .i64 side, .int .i64 acc, .int .u64 n, v] 25)).alloc (.cells #[.int .i64 0, .int .i64 0, .int .i64 0, .int .i64 0, .int .u64 0, .int .i64 0, .int .i64 0, .int .u64 0, .int .u64 0] 32)).frozen? ⟨w.heap.size + 1, 8, none⟩ = false := by simp
  have c0 : ((w.alloc (.cells #[.int .i64 side, .int .i64 acc, .int .u64 n, v] 25)).alloc (.cells #[.int .i64 0, .int .i64 0, .int .i64 0, .int .i64 0, .int .u64 0, .int .i64 0, .int .i64 0, .int .u64 0, .int .u64 0] 32)).cell? ⟨w.heap.size, 0, none⟩ = some (.int .i64 side) := by simp
  have c2 : ((w.alloc (.cells #[.int .i64 side, .int .i64 acc, .int .u64 n, v] 25)).alloc (.cells #[.int .i64 0, .int .i64 0, .int .i64 0, .int .i64 0, .int .u64 0, .int .i64 0, .int .i64 0, .int .u64 0, .int .u64 0] 32)).cell? ⟨w.heap.size, 2, none⟩ = some (.int .u64 n) := by simp
  have hS : S2 w.heap.size side acc ((w.alloc (.cells #[.int .i64 side, .int .i64 acc, .int .u64 n, v] 25)).alloc (.cells #[.int .i64 0, .int .i64 0, .int .i64 0, .int .i64 0, .int .u64 0, .int .i64 0, .int .i64 0, .int .u64 0, .int .u64 0] 32)) := ⟨by simp, by simp⟩
  have hB : Below w.heap.size w ((w.alloc (.cells #[.int .i64 side, .int .i64 acc, .int .u64 n, v] 25)).alloc (.cells #[.int .i64 0, .int .i64 0, .int .i64 0, .int .i64 0, .int .u64 0, .int .i64 0, .int .i64 0, .int .u64 0, .int .u64 0] 32)) := ((Below.refl _ _).alloc (Nat.le_refl _) _).alloc (by simp) _
  have hz : ((w.alloc (.cells #[.int .i64 side, .int .i64 acc, .int .u64 n, v] 25)).alloc (.cells #[.int .i64 0, .int .i64 0, .int .i64 0, .int .i64 0, .int .u64 0, .int .i64 0, .int .i64 0, .int .u64 0, .int .u64 0] 32)).heap.size = w.heap.size + 1 + 1 := by simp
  generalize ((w.alloc (.cells #[.int .i64 side, .int .i64 acc, .int .u64 n, v] 25)).alloc (.cells #[.int .i64 0, .int .i64 0, .int .i64 0, .int .i64 0, .int .u64 0, .int .i64 0, .int .i64 0, .int .u64 0, .int .u64 0] 32)) = W0 at hS hB hz z0 f0 z1 f1 z2 f2 z3 f3 z4 f4 z5 f5 z6 f6 z7 f7 z8 f8 c0 c2 ⊢
  have hlt : w.heap.size < W0.heap.size := by omega
  have hne : w.heap.size ≠ W0.heap.size := by omega
  have hlt1 : w.heap.size + 1 < W0.heap.size := by omega
  have HZ := Lib.hid hz
  clear hz
  go_region_held3 (fun W => W.cell? ⟨w.heap.size, 0, none⟩ = some (.int .i64 side) ∧ W.cell? ⟨w.heap.size, 1, none⟩ = some (.int .i64 acc))
    (first | assumption | exact S2.drew hS | exact S2.new hlt hS | exact S2.store (by assumption) hne | exact S2.store (S2.new hlt hS) hne | exact S2.drew (by assumption))
    (first | (go_at_call 48; ((with_reducible refine (HO.out _).mono ?_); rintro e w1 ⟨rfl, rfl⟩)))
  all_goals go_wp2
  all_goals
    refine bodyPost_ret (v := .tuple #[.agg #[.int .i64 0, .int .i64 0, .int .i64 0, .int .i64 0, .int .u64 0, .int .i64 0, .int .i64 0, .int .u64 0, .int .u64 0], .bool false]) (by simp [results, Try.results11, go_sem, z0, z1, z2, z3, z4, z5, z6, z7, z8, hlt1]) rfl ⟨rfl, ?_⟩
    repeat (first | (with_reducible exact hB) | (with_reducible refine Below.drew ?_) | (with_reducible refine Below.setCell (p := ⟨_, _, none⟩) ?_ (Nat.le_of_lt (by first | exact Nat.lt_succ_self _ | exact hlt)) _) | (with_reducible refine Below.alloc ?_ ?_ _))
    all_goals (repeat (first | (with_reducible exact hB.size) | (with_reducible refine le_drew ?_) | (with_reducible refine le_set ?_) | (with_reducible refine le_alloc ?_)))

end Go.Proofs.Ytnidafgjbocfcaa.Subm
