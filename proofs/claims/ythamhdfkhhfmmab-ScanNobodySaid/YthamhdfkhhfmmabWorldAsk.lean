/- A world as it is made of a plain config, and what it is asked. -/
import Derived.Test.YthamhdfkhhfmmabWorldNew
namespace Go.Proofs.Ythamhdfkhhfmmab.Wd
open Go Go.RowKit Conf

/-- a world as it is made lies in block B -/
structure WdIs (V : World) (B L0 L1 : Nat) : Prop where
  box : V.heap[B]? = some (.cells #[.pointer (some ⟨L0, 0, none⟩), .pointer (some ⟨L1, 0, none⟩), .int .i64 0, .int .i64 0, .int .i64 0, .int .i64 0, .int .u64 0, .slice none 0 0] TWd (0, 0))
  l0 : ∃ lo, LgIs V lo L0 0
  l1 : ∃ lo, LgIs V lo L1 1
theorem WdIs.below {V V' : World} {B L0 L1 : Nat} (h : WdIs V B L0 L1) (hb : Below V.heap.size V V') : WdIs V' B L0 L1 := ⟨(hb.block _ (lt_of h.box)).trans h.box, h.l0.imp fun _ h => h.below hb, h.l1.imp fun _ h => h.below hb⟩
set_option maxRecDepth 20000 in
set_option maxHeartbeats 4000000 in
theorem world_new (u cap : Nat) (b : Bool) (W : World) (hA : W.cell? ⟨u, 0, none⟩ = some (.bool b)) :
    Calls Try.prog 7 #[.agg #[.slice (some ⟨u, 0, none⟩) 1 cap, .int .i64 1, .int .i64 2, .int .i64 8, .int .i64 8, .int .i64 4, .int .i64 3, .int .i64 2, .int .i64 4, .int .i64 6, .int .i64 0, .int .u64 0]] W fun e w' => (∃ B L0 L1, e = .returned (.tuple #[.pointer (some ⟨B, 0, none⟩), .int .i64 0]) ∧ WdIs w' B L0 L1) ∧ Below W.heap.size W w' := by
  have hbox := (Below.heap_alloc (W.alloc (.cells #[.slice (some ⟨u, 0, none⟩) 1 cap, .int .i64 1, .int .i64 2, .int .i64 8, .int .i64 8, .int .i64 4, .int .i64 3, .int .i64 2, .int .i64 4, .int .i64 6, .int .i64 0, .int .u64 0] TCf)) (.cells #[.pointer none, .pointer none, .int .i64 0, .int .i64 0, .int .i64 0, .int .i64 0, .int .u64 0, .slice none 0 0] TWd) W.heap.size (by simp)).trans (heap_alloc_new W (.cells #[.slice (some ⟨u, 0, none⟩) 1 cap, .int .i64 1, .int .i64 2, .int .i64 8, .int .i64 8, .int .i64 4, .int .i64 3, .int .i64 2, .int .i64 4, .int .i64 6, .int .i64 0, .int .u64 0] TCf))
  have hwd := heap_at (W.alloc (.cells #[.slice (some ⟨u, 0, none⟩) 1 cap, .int .i64 1, .int .i64 2, .int .i64 8, .int .i64 8, .int .i64 4, .int .i64 3, .int .i64 2, .int .i64 4, .int .i64 6, .int .i64 0, .int .u64 0] TCf)) (.cells #[.pointer none, .pointer none, .int .i64 0, .int .i64 0, .int .i64 0, .int .i64 0, .int .u64 0, .slice none 0 0] TWd) (W.heap.size + 1) (by simp)
  have hbel := ((Below.refl W.heap.size W).alloc (Nat.le_refl _) (.cells #[.slice (some ⟨u, 0, none⟩) 1 cap, .int .i64 1, .int .i64 2, .int .i64 8, .int .i64 8, .int .i64 4, .int .i64 3, .int .i64 2, .int .i64 4, .int .i64 6, .int .i64 0, .int .u64 0] TCf)).alloc (by simp) (.cells #[.pointer none, .pointer none, .int .i64 0, .int .i64 0, .int .i64 0, .int .i64 0, .int .u64 0, .slice none 0 0] TWd)
  have hbit := (hbel.cell (p := ⟨u, 0, none⟩) (World.block_lt_of_cell? W _ hA)).trans hA
  have huW : u < W.heap.size := World.block_lt_of_cell? W _ hA
  obtain ⟨w0, hw0⟩ : ∃ X, X = (W.alloc (.cells #[.slice (some ⟨u, 0, none⟩) 1 cap, .int .i64 1, .int .i64 2, .int .i64 8, .int .i64 8, .int .i64 4, .int .i64 3, .int .i64 2, .int .i64 4, .int .i64 6, .int .i64 0, .int .u64 0] TCf)).alloc (.cells #[.pointer none, .pointer none, .int .i64 0, .int .i64 0, .int .i64 0, .int .i64 0, .int .u64 0, .slice none 0 0] TWd) := ⟨_, rfl⟩
  rw [← hw0] at hbox hwd hbel hbit
  obtain ⟨B, hB⟩ : ∃ X, X = W.heap.size + 1 := ⟨_, rfl⟩
  rw [← hB] at hwd
  have q := fun i => cell_of_row w0 W.heap.size i _ _ (0, 0) hbox
  have q0 := q 0
  have q1 := q 1
  have q2 := q 2
  have q3 := q 3
  have q4 := q 4
  have q5 := q 5
  have q6 := q 6
  have q7 := q 7
  have q8 := q 8
  have q9 := q 9
  have q10 := q 10
  have q11 := q 11
  have hsz : w0.heap.size = B + 1 := by rw [hw0, hB]; simp
  have HA0 := Lib.hid (ledger_new0 u cap b w0 hbit)
  have H0 := Lib.hid (And.intro hbox (And.intro hwd (And.intro hbel (And.intro hbit (And.intro huW (And.intro hB hsz))))))
  clear q hbox hwd hbel hbit huW hA hsz
  go_enter Try.func7, Try.ntmps7
  go_upto_region 2 with fail
  rw [← hw0, ← hB]
  clear hw0 hB
  go_wp2_with fail
  refine wp_loop_rounds 3 ?_
  rw [rounds_succ]
  go_wp2_with fail
  refine HA0.out.mono ?_
  rintro _ w1 ⟨⟨L0, rfl, hL0⟩, b1⟩
  have hbW : W.heap.size < B := by have := H0.out.2.2.2.2.2.1; omega
  have hbox1 := (b1.block _ (lt_of H0.out.1)).trans H0.out.1
  have hwd1 := (b1.block _ (lt_of H0.out.2.1)).trans H0.out.2.1
  have hbel1 := H0.out.2.2.1.trans (b1.mono H0.out.2.2.1.size)
  have hbit1 := (b1.cell (p := ⟨u, 0, none⟩) (World.block_lt_of_cell? w0 _ H0.out.2.2.2.1)).trans H0.out.2.2.2.1
  have c0 := cell_of_row w1 B 0 _ _ (0, 0) hwd1
  have f0 : w1.frozen? ⟨B, 0, none⟩ = false := by simp [World.frozen?, hwd1]
  obtain ⟨w2, hw2⟩ : ∃ X, X = w1.setCell ⟨B, 0, none⟩ (.pointer (some ⟨L0, 0, none⟩)) := ⟨_, rfl⟩
  have hwd2 : w2.heap[B]? = some (.cells #[.pointer (some ⟨L0, 0, none⟩), .pointer none, .int .i64 0, .int .i64 0, .int .i64 0, .int .i64 0, .int .u64 0, .slice none 0 0] TWd (0, 0)) := by rw [hw2]; exact (set_at _ hwd1).trans rfl
  have hbox2 : w2.heap[W.heap.size]? = some (.cells #[.slice (some ⟨u, 0, none⟩) 1 cap, .int .i64 1, .int .i64 2, .int .i64 8, .int .i64 8, .int .i64 4, .int .i64 3, .int .i64 2, .int .i64 4, .int .i64 6, .int .i64 0, .int .u64 0] TCf (0, 0)) := by rw [hw2]; exact (Below.heap_setCell _ _ _ _ (by show W.heap.size ≠ B; omega)).trans hbox1
  have hbel2 : Below W.heap.size W w2 := by rw [hw2]; exact hbel1.setCell (p := ⟨B, 0, none⟩) (by show W.heap.size ≤ B; omega) _
  have hbit2 : w2.cell? ⟨u, 0, none⟩ = some (.bool b) := by
    rw [hw2]
    exact (World.cell?_of_block (a := ⟨u, 0, none⟩) (Below.heap_setCell w1 ⟨B, 0, none⟩ _ u (by show u ≠ B; have := H0.out.2.2.2.2.1; omega))).trans hbit1
  have hl2 : LgIs w2 w0.heap.size L0 0 := by rw [hw2]; exact hL0.set (by have := H0.out.2.2.2.2.2.2; omega)
  have HA1 := Lib.hid (ledger_new1 u cap b w2 hbit2)
  have H2 := Lib.hid (And.intro hbox2 (And.intro hwd2 (And.intro hbel2 (And.intro hl2 (And.intro (show B < w0.heap.size by have := H0.out.2.2.2.2.2.2; omega) (And.intro hbW (lt_of hwd2)))))))
  have hq := fun i => cell_of_row w2 W.heap.size i _ _ (0, 0) hbox2
  clear HA0 H0 hbox1 hwd1 hbel1 hbit1 hbox2 hwd2 hbel2 hbit2 hl2 hL0 b1 q0 q1 q2 q3 q4 q5 q6 q7 q8 q9 q10 q11
  have q0 := hq 0
  have q1 := hq 1
  have q2 := hq 2
  have q3 := hq 3
  have q4 := hq 4
  have q5 := hq 5
  have q6 := hq 6
  have q7 := hq 7
  have q8 := hq 8
  have q9 := hq 9
  have q10 := hq 10
  have q11 := hq 11
  clear hq hbW
  go_upto_region 9 with fail
  rw [← hw2]
  clear hw2 c0 f0
  go_wp2_with fail
  rw [rounds_succ]
  go_wp2_with fail
  refine HA1.out.mono ?_
  rintro _ w3 ⟨⟨L1, rfl, hL1⟩, b3⟩
  have hwd3 := (b3.block _ (lt_of H2.out.2.1)).trans H2.out.2.1
  have hbel3 := H2.out.2.2.1.trans (b3.mono H2.out.2.2.1.size)
  have hl3 := H2.out.2.2.2.1.below b3
  have c1 := cell_of_row w3 B 1 _ _ (0, 0) hwd3
  have f1 : w3.frozen? ⟨B, 1, none⟩ = false := by simp [World.frozen?, hwd3]
  have HF : Hid (WdIs (w3.setCell ⟨B, 1, none⟩ (.pointer (some ⟨L1, 0, none⟩))) B L0 L1 ∧ Below W.heap.size W (w3.setCell ⟨B, 1, none⟩ (.pointer (some ⟨L1, 0, none⟩)))) :=
    Lib.hid ⟨⟨(set_at _ hwd3).trans rfl, ⟨_, hl3.set H2.out.2.2.2.2.1⟩, ⟨_, hL1.set H2.out.2.2.2.2.2.2⟩⟩, hbel3.setCell (p := ⟨B, 1, none⟩) (by show W.heap.size ≤ B; have := H2.out.2.2.2.2.2.1; omega) _⟩
  clear hwd3 hbel3 hl3 hL1 b3 HA1 H2 q0 q1 q2 q3 q4 q5 q6 q7 q8 q9 q10 q11
  go_upto_region 9 with fail
  go_wp2_with fail
  rw [rounds_succ]
  go_wp2
  go_ret2
  exact ⟨⟨B, L0, L1, rfl, HF.out.1⟩, HF.out.2⟩
end Go.Proofs.Ythamhdfkhhfmmab.Wd
