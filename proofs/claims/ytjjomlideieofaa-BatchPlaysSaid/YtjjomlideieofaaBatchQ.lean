/- The page's batch of messages: Has, Due. -/
import Derived.Test.YtjjomlideieofaaBatchPut2
import Derived.Test.YtjjomlideieofaaRightRef
namespace Go.Proofs.Ytjjomlideieofaa.Msg
open Go Go.RowKit

abbrev TQ : Nat := 60

/-- At block g stands the page's batch, its row v. -/
def Qt (W : World) (base g : Nat) (sz wt : Int) (v : Value) (since : Int) (ms : List M7) : Prop :=
  base ≤ g ∧ W.heap[g]? = some (.cells #[.int .i64 sz, .int .i64 wt, .int .u64 since, v] TQ (0, 0)) ∧ W.ownsRow base TM 7 v ms.length (mevs ms)
section
variable {w w' : World} {base g : Nat} {sz wt since : Int} {v : Value} {ms : List M7}
theorem Qt.below (h : Qt w base g sz wt v since ms) (hb : Below w.heap.size w w') : Qt w' base g sz wt v since ms := ⟨h.1, (hb.block g (lt_blk h.2.1)).trans h.2.1, own_below h.2.2 hb⟩
theorem Qt.cells (h : Qt w base g sz wt v since ms) : w.cell? ⟨g, 0, none⟩ = some (.int .i64 sz) ∧ w.cell? ⟨g, 1, none⟩ = some (.int .i64 wt) ∧ w.cell? ⟨g, 2, none⟩ = some (.int .u64 since) ∧ w.cell? ⟨g, 3, none⟩ = some v :=
  ⟨cell_of_row _ _ 0 _ _ _ h.2.1, cell_of_row _ _ 1 _ _ _ h.2.1, cell_of_row _ _ 2 _ _ _ h.2.1, cell_of_row _ _ 3 _ _ _ h.2.1⟩
theorem Qt.free (h : Qt w base g sz wt v since ms) (i : Nat) : w.frozen? ⟨g, i, none⟩ = false := by
  have := h.2.1
  simp [World.frozen?, this]
theorem Qt.drewN (h : Qt w base g sz wt v since ms) (q : Nat) : Qt (w.drewN q) base g sz wt v since ms := h
end

set_option maxHeartbeats 2000000 in
theorem qhas_any {w : World} {base g : Nat} {sz wt since : Int} {v : Value} {ms : List M7} (h : Qt w base g sz wt v since ms) (x : M7) (hl : ms.length ≤ 1000000) :
    Calls Try.prog 35 #[.pointer (some ⟨g, 0, none⟩), .agg #[.int .i64 x.k, .int .i64 x.c, .int .i64 x.f, .int .u64 x.s, .int .u64 x.t, .string x.d, .string x.a]] w fun e w' => e = .returned (.bool (decide (place ms x ms.length 0 ≠ -1))) ∧ Below w.heap.size w w' := by
  have hb0 : Below w.heap.size w (w.alloc (.cells #[.int .i64 x.k, .int .i64 x.c, .int .i64 x.f, .int .u64 x.s, .int .u64 x.t, .string x.d, .string x.a] TM)) := (Below.refl _ _).alloc (Nat.le_refl _) _
  have h1 := h.below hb0
  have hbx : Box (w.alloc (.cells #[.int .i64 x.k, .int .i64 x.c, .int .i64 x.f, .int .u64 x.s, .int .u64 x.t, .string x.d, .string x.a] TM)) w.heap.size x := heap_alloc_new w _
  obtain ⟨x0, x1, x2, x3, x4, x5, x6⟩ := hbx.cells
  obtain ⟨A, c, rfl⟩ := own_formN h.2.2
  obtain ⟨_, _, _, g3⟩ := h1.cells
  have hrd := Lib.hid (row_at h1.2.2 rfl)
  have HB := Lib.hid hb0
  have heq : ∀ m W, (binOp .eql 27 (.agg #[.int .i64 m.k, .int .i64 m.c, .int .i64 m.f, .int .u64 m.s, .int .u64 m.t, .string m.d, .string m.a]) (.agg #[.int .i64 x.k, .int .i64 x.c, .int .i64 x.f, .int .u64 x.s, .int .u64 x.t, .string x.d, .string x.a])).run Try.prog W = .ok (.bool (same m x)) W := fun m W => eq_run m x W
  clear h h1 hbx hb0
  obtain ⟨n, hn⟩ : ∃ n, n = ms.length := ⟨_, rfl⟩
  rw [← hn] at hl g3 ⊢
  have HN := Lib.hid hn
  clear hn
  go_enter Try.func35, Try.ntmps35
  go_wp2
  go_loopw [5] (fun i wr => ∃ k : Nat, i = .int .i64 (k : Int) ∧ k ≤ n ∧ Hid (place ms x n 0 = place ms x (n - k) k) ∧ ∃ q, wr = (w.alloc (.cells #[.int .i64 x.k, .int .i64 x.c, .int .i64 x.f, .int .u64 x.s, .int .u64 x.t, .string x.d, .string x.a] TM)).drewN q) (fun i _ => n - (intOf i).toNat)
  case atStart => exact ⟨0, rfl, Nat.zero_le _, Lib.hid rfl, 0, rfl⟩
  case round =>
    obtain ⟨k, rfl, hk, hp, q, rfl⟩ := hrel
    by_cases hlt : k < n
    · obtain ⟨b, off, rfl, _, hc⟩ := hrd.out.at (Below.refl _ _) (by have := HN.out; omega)
      have hck := hc k (by have := HN.out; omega)
      clear hc
      obtain ⟨m, hm⟩ : ∃ m, ms.getD k m0 = m := ⟨_, rfl⟩
      rw [hm] at hck
      obtain ⟨c0, c1, c2, c3, c4, c5, c6⟩ := hck
      have HM := Lib.hid hm
      have hem := heq m
      have hi0 : (0 : Int) ≤ (k : Int) := by omega
      have hi1 : (k : Int) < (n : Int) := by omega
      clear hm
      by_cases hs : same m x = true
      · rw [hs] at hem
        go_wp2
        go_quiet (fail)
        go_wp2
        go_ret
        refine ⟨?_, below_drewN (below_drewN HB.out _) _⟩
        rw [hp.out, show n - k = n - k - 1 + 1 from by omega, place]
        have hm2 := HM.out
        unfold m0 at hm2
        rw [hm2, if_pos hs]
        show _ = Ending.returned (.bool (decide ((k : Int) ≠ -1)))
        rw [decide_eq_true (show (k : Int) ≠ -1 by omega)]
        rfl
      · have hs' : same m x = false := by simpa using hs
        rw [hs'] at hem
        go_wp2
        go_quiet (fail)
        go_wp2
        refine ⟨⟨k + 1, by go_num, by omega, Lib.hid ?_, _, rfl⟩, by simp [intOf]; omega⟩
        have hm2 := HM.out
        unfold m0 at hm2
        rw [hp.out, show n - k = n - (k + 1) + 1 from by omega, place, hm2, if_neg hs]
    · obtain rfl : k = n := by omega
      go_wp2
      go_ret
      refine ⟨?_, below_drewN HB.out _⟩
      rw [hp.out, Nat.sub_self]
      rfl
end Go.Proofs.Ytjjomlideieofaa.Msg
