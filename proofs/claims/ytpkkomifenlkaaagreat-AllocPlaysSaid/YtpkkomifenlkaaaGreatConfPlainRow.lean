import Derived.Test.YtpkkomifenlkaaaGreatConfC
/- conf.Plain, conf.Workers, conf.Dir, conf.Number. -/
namespace Go.Proofs.YtpkkomifenlkaaaGreat.Conf
open Go.RowKit

def clampN (n : Int) : Nat := (if n < 0 then 0 else if n ≤ 4 then n else 4).toNat
def bools (k : Nat) : List Value := (List.range k).map fun i : Nat => .bool ((i : Int) % 2 == 1)
theorem bools_succ (k : Nat) : bools (k + 1) = bools k ++ [.bool ((k : Int) % 2 == 1)] := by simp [bools, List.range_succ]
theorem infoB : (Tryz.prog.info? 4).map (fun i => (i.zero, i.size, i.bytes)) = some (some (.bool false), 1, 1) := by kernel_rfl

def plain (A : Option Addr) (n cap : Nat) (a : Int) : Cfg := ⟨A, n, cap, a, 2, 8, 8, 4, 3, 2, 4, 6, 0, 0⟩

theorem lt_blkC {w : World} {g : Nat} {o : Obj} (h : w.heap[g]? = some o) : g < w.heap.size := by
  rcases Nat.lt_or_ge g w.heap.size with h1 | h1
  · exact h1
  · rw [Array.getElem?_eq_none h1] at h; cases h

theorem own_keeps {w w1 : World} {base e n k : Nat} {v : Value} {xs : List Value} {o : Obj} (h : w.ownsRow base e 1 v n xs) (hk : k < base) (hb : w.heap[k]? = some o) (hg : w.grownBy w1 v.ownBlock) : w1.heap[k]? = some o :=
  (hg.block k (lt_blkC hb) fun e => by have := own_ge h k e.symm; omega).trans hb

theorem own_setlow {w : World} {base e n k i : Nat} {v u : Value} {xs : List Value} (h : w.ownsRow base e 1 v n xs) (hk : k < base) : (w.setCell ⟨k, i, none⟩ u).ownsRow base e 1 v n xs := by
  refine ⟨h.1, ?_⟩
  rcases h.2 with h2 | ⟨g, cap, cur, hv, hg, hh, r⟩
  · exact Or.inl h2
  · exact Or.inr ⟨g, cap, cur, hv, hg, (Below.heap_setCell _ _ _ _ (by show g ≠ k; omega)).trans hh, r⟩
theorem own_low {w : World} {base base' e n : Nat} {v : Value} {xs : List Value} (h : w.ownsRow base e 1 v n xs) (hb : base' ≤ base) : w.ownsRow base' e 1 v n xs := by
  refine ⟨h.1, ?_⟩
  rcases h.2 with h2 | ⟨g, cap, cur, hv, hg, hh, r⟩
  · exact Or.inl h2
  · exact Or.inr ⟨g, cap, cur, hv, by omega, hh, r⟩

set_option maxRecDepth 20000 in
set_option maxHeartbeats 1000000 in
theorem plain_mid (m : Nat) (hm : m ≤ 4) (a : Int) (w : World) :
    Calls Tryz.prog 12 #[.int .i64 ((m : Int)), .int .i64 a] w fun e w' => ∃ A cap, e = .returned (.agg (plain A (m) cap a).cells) ∧ w'.ownsRow w.heap.size 4 1 (.slice A (m) cap) (m) (bools (m)) ∧ Below w.heap.size w w' := by
  obtain ⟨i0, hi, hz0, hz1, hz2⟩ := info_parts infoB
  go_enter Tryz.func12, Tryz.ntmps12
  go_wp2
  go_loopw [5, 10] (fun v i wr => ∃ k : Nat, i = .int .i64 (k : Int) ∧ k ≤ m ∧ wr.ownsRow (w.heap.size + 1) 4 1 v k (bools k) ∧ Hid (Below w.heap.size w wr ∧ wr.heap[w.heap.size]? = some (.cells #[.slice none 0 0, .int .i64 0, .int .i64 0, .int .i64 0, .int .i64 0, .int .i64 0, .int .i64 0, .int .i64 0, .int .i64 0, .int .i64 0, .int .i64 0, .int .u64 0] 42 (0, 0))) ∧ w.heap.size < wr.heap.size)
    (fun _ i _ => m - (intOf i).toNat)
  case atStart => exact ⟨0, rfl, Nat.zero_le _, World.ownsRow_nil _ _ _ _, Lib.hid ⟨(Below.refl _ _).alloc (Nat.le_refl _) _, heap_alloc_new w _⟩, by simp⟩
  case round =>
    obtain ⟨k, rfl, hk, hown, H, hz⟩ := hrel
    obtain ⟨A, c, rfl⟩ := own_form hown
    by_cases hlt : k < m
    · have hw : wrap64 ((k : Int).tmod 2) = (k : Int) % 2 := by rw [Int.tmod_eq_emod_of_nonneg (by omega)]; exact IntWalk.wrap64_in _ ⟨by omega, by omega⟩
      have hk0 : (0 : Int) ≤ (k : Int) := by omega
      have hk4 : (k : Int) < 4 := by omega
      go_wp2_with (at_builtin; refine wpList_append_own _ rfl _ _ 40 rfl (w.heap.size + 1) 4 i0 (.bool false) 1 1 Tryz.underlying40 hi hz0 hz1 hz2 rfl (by decide) _ _ _ rfl (hown.alloc _) ⟨wr.heap.size, 0, none⟩ 1 1 [.bool ((k : Int) % 2 == 1)] rfl rfl (cell_one_new _ _ _) (one_one rfl) (by unfold maxLen; omega) (by omega) (by simp; omega) ?_; intro v1 w2 hown1 hg1 _)
      have hbox := own_keeps (hown.alloc (.cells #[.bool ((k : Int) % 2 == 1)] 4)) (Nat.lt_succ_self _) ((Below.heap_alloc _ _ _ hz).trans H.out.2) hg1
      refine ⟨⟨k + 1, by go_num, by omega, ?_, Lib.hid ⟨below_push H.out.1 (Nat.le_of_lt hz) (own_low hown (Nat.le_succ _)) hg1, hbox⟩, ?_⟩, by simp [intOf]; omega⟩
      · rw [bools_succ]
        exact hown1
      · have := hg1.size
        simp at this
        omega
    · obtain rfl : k = m := by omega
      have hB := H.out.1
      have x0 : wr.cell? ⟨w.heap.size, 0, none⟩ = some (.slice none 0 0) := cell_of_row wr _ 0 _ _ (0, 0) H.out.2
      have f0 : wr.frozen? ⟨w.heap.size, 0, none⟩ = false := by simp [World.frozen?, H.out.2]
      have x1 : wr.cell? ⟨w.heap.size, 1, none⟩ = some (.int .i64 0) := cell_of_row wr _ 1 _ _ (0, 0) H.out.2
      have f1 : wr.frozen? ⟨w.heap.size, 1, none⟩ = false := by simp [World.frozen?, H.out.2]
      have x2 : wr.cell? ⟨w.heap.size, 2, none⟩ = some (.int .i64 0) := cell_of_row wr _ 2 _ _ (0, 0) H.out.2
      have f2 : wr.frozen? ⟨w.heap.size, 2, none⟩ = false := by simp [World.frozen?, H.out.2]
      have x3 : wr.cell? ⟨w.heap.size, 3, none⟩ = some (.int .i64 0) := cell_of_row wr _ 3 _ _ (0, 0) H.out.2
      have f3 : wr.frozen? ⟨w.heap.size, 3, none⟩ = false := by simp [World.frozen?, H.out.2]
      have x4 : wr.cell? ⟨w.heap.size, 4, none⟩ = some (.int .i64 0) := cell_of_row wr _ 4 _ _ (0, 0) H.out.2
      have f4 : wr.frozen? ⟨w.heap.size, 4, none⟩ = false := by simp [World.frozen?, H.out.2]
      have x5 : wr.cell? ⟨w.heap.size, 5, none⟩ = some (.int .i64 0) := cell_of_row wr _ 5 _ _ (0, 0) H.out.2
      have f5 : wr.frozen? ⟨w.heap.size, 5, none⟩ = false := by simp [World.frozen?, H.out.2]
      have x6 : wr.cell? ⟨w.heap.size, 6, none⟩ = some (.int .i64 0) := cell_of_row wr _ 6 _ _ (0, 0) H.out.2
      have f6 : wr.frozen? ⟨w.heap.size, 6, none⟩ = false := by simp [World.frozen?, H.out.2]
      have x7 : wr.cell? ⟨w.heap.size, 7, none⟩ = some (.int .i64 0) := cell_of_row wr _ 7 _ _ (0, 0) H.out.2
      have f7 : wr.frozen? ⟨w.heap.size, 7, none⟩ = false := by simp [World.frozen?, H.out.2]
      have x8 : wr.cell? ⟨w.heap.size, 8, none⟩ = some (.int .i64 0) := cell_of_row wr _ 8 _ _ (0, 0) H.out.2
      have f8 : wr.frozen? ⟨w.heap.size, 8, none⟩ = false := by simp [World.frozen?, H.out.2]
      have x9 : wr.cell? ⟨w.heap.size, 9, none⟩ = some (.int .i64 0) := cell_of_row wr _ 9 _ _ (0, 0) H.out.2
      have f9 : wr.frozen? ⟨w.heap.size, 9, none⟩ = false := by simp [World.frozen?, H.out.2]
      have x10 : wr.cell? ⟨w.heap.size, 10, none⟩ = some (.int .i64 0) := cell_of_row wr _ 10 _ _ (0, 0) H.out.2
      have f10 : wr.frozen? ⟨w.heap.size, 10, none⟩ = false := by simp [World.frozen?, H.out.2]
      have x11 : wr.cell? ⟨w.heap.size, 11, none⟩ = some (.int .u64 0) := cell_of_row wr _ 11 _ _ (0, 0) H.out.2
      have f11 : wr.frozen? ⟨w.heap.size, 11, none⟩ = false := by simp [World.frozen?, H.out.2]
      go_wp2
      refine bodyPost_ret (v := .agg (plain A (k) c a).cells) (by simp [results, Tryz.results12, go_sem, plain, Cfg.cells, x0, x1, x2, x3, x4, x5, x6, x7, x8, x9, x10, x11]) rfl ?_
      exact ⟨A, c, rfl, own_low (own_setlow (own_setlow (own_setlow (own_setlow (own_setlow (own_setlow (own_setlow (own_setlow (own_setlow (own_setlow (own_setlow (own_setlow hown (Nat.lt_succ_self _)) (Nat.lt_succ_self _)) (Nat.lt_succ_self _)) (Nat.lt_succ_self _)) (Nat.lt_succ_self _)) (Nat.lt_succ_self _)) (Nat.lt_succ_self _)) (Nat.lt_succ_self _)) (Nat.lt_succ_self _)) (Nat.lt_succ_self _)) (Nat.lt_succ_self _)) (Nat.lt_succ_self _)) (Nat.le_succ _), (Below.setCell (p := ⟨w.heap.size, 11, none⟩) (Below.setCell (p := ⟨w.heap.size, 10, none⟩) (Below.setCell (p := ⟨w.heap.size, 9, none⟩) (Below.setCell (p := ⟨w.heap.size, 8, none⟩) (Below.setCell (p := ⟨w.heap.size, 7, none⟩) (Below.setCell (p := ⟨w.heap.size, 6, none⟩) (Below.setCell (p := ⟨w.heap.size, 5, none⟩) (Below.setCell (p := ⟨w.heap.size, 4, none⟩) (Below.setCell (p := ⟨w.heap.size, 3, none⟩) (Below.setCell (p := ⟨w.heap.size, 2, none⟩) (Below.setCell (p := ⟨w.heap.size, 1, none⟩) (Below.setCell (p := ⟨w.heap.size, 0, none⟩) hB (Nat.le_refl _) _) (Nat.le_refl _) _) (Nat.le_refl _) _) (Nat.le_refl _) _) (Nat.le_refl _) _) (Nat.le_refl _) _) (Nat.le_refl _) _) (Nat.le_refl _) _) (Nat.le_refl _) _) (Nat.le_refl _) _) (Nat.le_refl _) _) (Nat.le_refl _) _)⟩
end Go.Proofs.YtpkkomifenlkaaaGreat.Conf
