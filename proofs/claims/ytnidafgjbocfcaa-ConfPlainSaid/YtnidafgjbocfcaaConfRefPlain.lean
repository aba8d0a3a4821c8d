/- The page's Plain. -/
import Derived.Test.YtnidafgjbocfcaaConfBools
namespace Go.Proofs.Ytnidafgjbocfcaa.Conf
open Go.RowKit

def pcells (A : Option Addr) (k c : Nat) (a : Int) : Array Value := #[.slice A k c, .int .i64 a, .int .i64 2, .int .i64 8, .int .i64 8, .int .i64 4, .int .i64 3, .int .i64 2, .int .i64 4, .int .i64 6, .int .i64 0, .int .u64 0]
def zcells : Array Value := #[.slice none 0 0, .int .i64 0, .int .i64 0, .int .i64 0, .int .i64 0, .int .i64 0, .int .i64 0, .int .i64 0, .int .i64 0, .int .i64 0, .int .i64 0, .int .u64 0]
theorem pset {w : World} {b k c k' c' : Nat} {A A' : Option Addr} {a : Int} {T : TypeId} (h : w.heap[b]? = some (.cells (pcells A k c a) T (0, 0))) : (w.setCell ⟨b, 0, none⟩ (.slice A' k' c')).heap[b]? = some (.cells (pcells A' k' c' a) T (0, 0)) := by
  simp [World.setCell, Array.getElem?_modify, h, pcells]

set_option maxRecDepth 20000 in
set_option maxHeartbeats 4000000 in
theorem rplain_any (n a : Int) (m : Nat) (hm : m ≤ 4) (hin : ∀ k : Nat, k < m → (k : Int) < n) (hout : ¬ (m : Int) < n ∨ m = 4) (w : World) :
    Calls Try.prog 30 #[.int .i64 n, .int .i64 a] w fun e w' => ∃ A cap, e = .returned (.agg (plain A m cap a).cells) ∧ w'.ownsRow w.heap.size 4 1 (.slice A m cap) m (bools m) ∧ Below w.heap.size w w' := by
  obtain ⟨i0, hi, hz0, hz1, hz2⟩ := info_parts infoB
  have HIn := Lib.hid hin
  have HOut := Lib.hid hout
  clear hin hout
  go_enter Try.func30, Try.ntmps30
  go_wp2
  go_loopw [6] (fun i wr => ∃ (k : Nat) (A : Option Addr) (c : Nat), i = .int .i64 (k : Int) ∧ k ≤ m ∧ wr.ownsRow (w.heap.size + 2) 4 1 (.slice A k c) k (bools k) ∧ w.heap.size + 1 < wr.heap.size ∧ Hid (wr.heap[w.heap.size]? = some (.cells zcells 53 (0, 0)) ∧ wr.heap[w.heap.size + 1]? = some (.cells (pcells A k c a) 53 (0, 0)) ∧ Below w.heap.size w wr)) (fun i _ => m - (intOf i).toNat)
  case atStart =>
    refine ⟨0, none, 0, rfl, Nat.zero_le _, World.ownsRow_nil _ _ _ _, by simp, Lib.hid ⟨?_, ?_, ((Below.refl _ _).alloc (Nat.le_refl _) _).alloc (by simp) _⟩⟩
    · rw [Below.heap_alloc _ _ _ (by simp)]
      exact heap_alloc_new w _
    · have := heap_alloc_new (w.alloc (.cells zcells 53)) (.cells (pcells none 0 0 a) 53)
      simpa [zcells, pcells] using this
  case round =>
    obtain ⟨k, A, c, rfl, hk, hown, hz, H⟩ := hrel
    have hl2 : w.heap.size < wr.heap.size := by omega
    by_cases hlt : k < m
    · have hkn := HIn.out k hlt
      have x0 : wr.cell? ⟨w.heap.size + 1, 0, none⟩ = some (.slice A k c) := cell_of_row wr _ 0 _ _ (0, 0) H.out.2.1
      have hk4 : k = 0 ∨ k = 1 ∨ k = 2 ∨ k = 3 := by omega
      have hcell : ∀ (v1 : Value) (w2 : World) (bb : Bool) (ob : Obj), ((k : Int) % 2 == 1) = bb → w2.ownsRow (w.heap.size + 2) 4 1 v1 (k + 1) (bools k ++ [.bool bb]) → (wr.alloc ob).grownBy w2 (Value.slice A k c).ownBlock →
          ∃ A' c', v1 = .slice A' (k + 1) c' ∧ (w2.setCell ⟨w.heap.size + 1, 0, none⟩ v1).ownsRow (w.heap.size + 2) 4 1 (.slice A' (k + 1) c') (k + 1) (bools (k + 1)) ∧ w.heap.size + 1 < (w2.setCell ⟨w.heap.size + 1, 0, none⟩ v1).heap.size ∧
            w2.cell? ⟨w.heap.size + 1, 0, none⟩ = some (.slice A k c) ∧ w2.frozen? ⟨w.heap.size + 1, 0, none⟩ = false ∧
            Hid ((w2.setCell ⟨w.heap.size + 1, 0, none⟩ v1).heap[w.heap.size]? = some (.cells zcells 53 (0, 0)) ∧ (w2.setCell ⟨w.heap.size + 1, 0, none⟩ v1).heap[w.heap.size + 1]? = some (.cells (pcells A' (k + 1) c' a) 53 (0, 0)) ∧ Below w.heap.size w (w2.setCell ⟨w.heap.size + 1, 0, none⟩ v1)) := by
        intro v1 w2 bb ob hb hown1 hg1
        obtain ⟨A', c', rfl⟩ := own_form hown1
        have h0 := own_keeps (hown.alloc ob) (by omega) ((Below.heap_alloc _ _ _ hl2).trans H.out.1) hg1
        have h1 := own_keeps (hown.alloc ob) (by omega) ((Below.heap_alloc _ _ _ hz).trans H.out.2.1) hg1
        refine ⟨A', c', rfl, ?_, ?_, cell_of_row w2 _ 0 _ _ (0, 0) h1, by simp [World.frozen?, h1], Lib.hid ⟨(Below.heap_setCell _ _ _ _ (by simp)).trans h0, pset h1, ?_⟩⟩
        · refine own_setlow ?_ (by omega)
          rw [bools_succ, hb]
          exact hown1
        · have := hg1.size
          simp at this
          simp
          omega
        · exact (below_push H.out.2.2 (Nat.le_of_lt hl2) (own_low hown (by omega)) hg1).setCell (p := ⟨w.heap.size + 1, 0, none⟩) (Nat.le_succ _) _
      have HCell := Lib.hid hcell
      have hk63 : k + 1 ≤ maxLen := by unfold maxLen; omega
      clear hcell
      rcases hk4 with rfl | rfl | rfl | rfl
      · go_wp2_with (at_builtin; refine wpList_append_own _ rfl _ _ 51 rfl (w.heap.size + 2) 4 i0 (.bool false) 1 1 Try.underlying51 hi hz0 hz1 hz2 rfl (by decide) _ _ _ rfl (hown.alloc _) ⟨wr.heap.size, 0, none⟩ 1 1 [.bool false] rfl rfl (cell_one_new _ _ _) (one_one rfl) hk63 (by decide) (by simp; omega) ?_)
        intro v1 w2 hown1 hg1 _
        obtain ⟨A', c', rfl, ho1, hs1, hx1, hf1, H1⟩ := HCell.out v1 w2 false _ (by decide) hown1 hg1
        have HO1 := Lib.hid ho1
        have HS1 := Lib.hid hs1
        clear hown1 hg1 ho1 hs1 hown x0
        go_wp2
        exact ⟨⟨1, A', c', rfl, by omega, HO1.out, HS1.out, H1⟩, by simp [intOf]; omega⟩
      · go_wp2_with (at_builtin; refine wpList_append_own _ rfl _ _ 51 rfl (w.heap.size + 2) 4 i0 (.bool false) 1 1 Try.underlying51 hi hz0 hz1 hz2 rfl (by decide) _ _ _ rfl (hown.alloc _) ⟨wr.heap.size, 0, none⟩ 1 1 [.bool true] rfl rfl (cell_one_new _ _ _) (one_one rfl) hk63 (by decide) (by simp; omega) ?_)
        intro v1 w2 hown1 hg1 _
        obtain ⟨A', c', rfl, ho1, hs1, hx1, hf1, H1⟩ := HCell.out v1 w2 true _ (by decide) hown1 hg1
        have HO1 := Lib.hid ho1
        have HS1 := Lib.hid hs1
        clear hown1 hg1 ho1 hs1 hown x0
        go_wp2
        exact ⟨⟨2, A', c', rfl, by omega, HO1.out, HS1.out, H1⟩, by simp [intOf]; omega⟩
      · go_wp2_with (at_builtin; refine wpList_append_own _ rfl _ _ 51 rfl (w.heap.size + 2) 4 i0 (.bool false) 1 1 Try.underlying51 hi hz0 hz1 hz2 rfl (by decide) _ _ _ rfl (hown.alloc _) ⟨wr.heap.size, 0, none⟩ 1 1 [.bool false] rfl rfl (cell_one_new _ _ _) (one_one rfl) hk63 (by decide) (by simp; omega) ?_)
        intro v1 w2 hown1 hg1 _
        obtain ⟨A', c', rfl, ho1, hs1, hx1, hf1, H1⟩ := HCell.out v1 w2 false _ (by decide) hown1 hg1
        have HO1 := Lib.hid ho1
        have HS1 := Lib.hid hs1
        clear hown1 hg1 ho1 hs1 hown x0
        go_wp2
        exact ⟨⟨3, A', c', rfl, by omega, HO1.out, HS1.out, H1⟩, by simp [intOf]; omega⟩
      · go_wp2_with (at_builtin; refine wpList_append_own _ rfl _ _ 51 rfl (w.heap.size + 2) 4 i0 (.bool false) 1 1 Try.underlying51 hi hz0 hz1 hz2 rfl (by decide) _ _ _ rfl (hown.alloc _) ⟨wr.heap.size, 0, none⟩ 1 1 [.bool true] rfl rfl (cell_one_new _ _ _) (one_one rfl) hk63 (by decide) (by simp; omega) ?_)
        intro v1 w2 hown1 hg1 _
        obtain ⟨A', c', rfl, ho1, hs1, hx1, hf1, H1⟩ := HCell.out v1 w2 true _ (by decide) hown1 hg1
        have HO1 := Lib.hid ho1
        have HS1 := Lib.hid hs1
        clear hown1 hg1 ho1 hs1 hown x0
        go_wp2
        exact ⟨⟨4, A', c', rfl, by omega, HO1.out, HS1.out, H1⟩, by simp [intOf]; omega⟩
    · obtain rfl : k = m := by omega
      have HP := H.out.2.1
      have HZ := H.out.1
      have y0 : wr.cell? ⟨w.heap.size + 1, 0, none⟩ = some (.slice A k c) := cell_of_row wr _ 0 _ _ (0, 0) HP
      have x0 : wr.cell? ⟨w.heap.size, 0, none⟩ = some (.slice none 0 0) := cell_of_row wr _ 0 _ _ (0, 0) HZ
      have f0 : wr.frozen? ⟨w.heap.size, 0, none⟩ = false := by simp [World.frozen?, HZ]
      have y1 : wr.cell? ⟨w.heap.size + 1, 1, none⟩ = some (.int .i64 a) := cell_of_row wr _ 1 _ _ (0, 0) HP
      have x1 : wr.cell? ⟨w.heap.size, 1, none⟩ = some (.int .i64 0) := cell_of_row wr _ 1 _ _ (0, 0) HZ
      have f1 : wr.frozen? ⟨w.heap.size, 1, none⟩ = false := by simp [World.frozen?, HZ]
      have y2 : wr.cell? ⟨w.heap.size + 1, 2, none⟩ = some (.int .i64 2) := cell_of_row wr _ 2 _ _ (0, 0) HP
      have x2 : wr.cell? ⟨w.heap.size, 2, none⟩ = some (.int .i64 0) := cell_of_row wr _ 2 _ _ (0, 0) HZ
      have f2 : wr.frozen? ⟨w.heap.size, 2, none⟩ = false := by simp [World.frozen?, HZ]
      have y3 : wr.cell? ⟨w.heap.size + 1, 3, none⟩ = some (.int .i64 8) := cell_of_row wr _ 3 _ _ (0, 0) HP
      have x3 : wr.cell? ⟨w.heap.size, 3, none⟩ = some (.int .i64 0) := cell_of_row wr _ 3 _ _ (0, 0) HZ
      have f3 : wr.frozen? ⟨w.heap.size, 3, none⟩ = false := by simp [World.frozen?, HZ]
      have y4 : wr.cell? ⟨w.heap.size + 1, 4, none⟩ = some (.int .i64 8) := cell_of_row wr _ 4 _ _ (0, 0) HP
      have x4 : wr.cell? ⟨w.heap.size, 4, none⟩ = some (.int .i64 0) := cell_of_row wr _ 4 _ _ (0, 0) HZ
      have f4 : wr.frozen? ⟨w.heap.size, 4, none⟩ = false := by simp [World.frozen?, HZ]
      have y5 : wr.cell? ⟨w.heap.size + 1, 5, none⟩ = some (.int .i64 4) := cell_of_row wr _ 5 _ _ (0, 0) HP
      have x5 : wr.cell? ⟨w.heap.size, 5, none⟩ = some (.int .i64 0) := cell_of_row wr _ 5 _ _ (0, 0) HZ
      have f5 : wr.frozen? ⟨w.heap.size, 5, none⟩ = false := by simp [World.frozen?, HZ]
      have y6 : wr.cell? ⟨w.heap.size + 1, 6, none⟩ = some (.int .i64 3) := cell_of_row wr _ 6 _ _ (0, 0) HP
      have x6 : wr.cell? ⟨w.heap.size, 6, none⟩ = some (.int .i64 0) := cell_of_row wr _ 6 _ _ (0, 0) HZ
      have f6 : wr.frozen? ⟨w.heap.size, 6, none⟩ = false := by simp [World.frozen?, HZ]
      have y7 : wr.cell? ⟨w.heap.size + 1, 7, none⟩ = some (.int .i64 2) := cell_of_row wr _ 7 _ _ (0, 0) HP
      have x7 : wr.cell? ⟨w.heap.size, 7, none⟩ = some (.int .i64 0) := cell_of_row wr _ 7 _ _ (0, 0) HZ
      have f7 : wr.frozen? ⟨w.heap.size, 7, none⟩ = false := by simp [World.frozen?, HZ]
      have y8 : wr.cell? ⟨w.heap.size + 1, 8, none⟩ = some (.int .i64 4) := cell_of_row wr _ 8 _ _ (0, 0) HP
      have x8 : wr.cell? ⟨w.heap.size, 8, none⟩ = some (.int .i64 0) := cell_of_row wr _ 8 _ _ (0, 0) HZ
      have f8 : wr.frozen? ⟨w.heap.size, 8, none⟩ = false := by simp [World.frozen?, HZ]
      have y9 : wr.cell? ⟨w.heap.size + 1, 9, none⟩ = some (.int .i64 6) := cell_of_row wr _ 9 _ _ (0, 0) HP
      have x9 : wr.cell? ⟨w.heap.size, 9, none⟩ = some (.int .i64 0) := cell_of_row wr _ 9 _ _ (0, 0) HZ
      have f9 : wr.frozen? ⟨w.heap.size, 9, none⟩ = false := by simp [World.frozen?, HZ]
      have y10 : wr.cell? ⟨w.heap.size + 1, 10, none⟩ = some (.int .i64 0) := cell_of_row wr _ 10 _ _ (0, 0) HP
      have x10 : wr.cell? ⟨w.heap.size, 10, none⟩ = some (.int .i64 0) := cell_of_row wr _ 10 _ _ (0, 0) HZ
      have f10 : wr.frozen? ⟨w.heap.size, 10, none⟩ = false := by simp [World.frozen?, HZ]
      have y11 : wr.cell? ⟨w.heap.size + 1, 11, none⟩ = some (.int .u64 0) := cell_of_row wr _ 11 _ _ (0, 0) HP
      have x11 : wr.cell? ⟨w.heap.size, 11, none⟩ = some (.int .u64 0) := cell_of_row wr _ 11 _ _ (0, 0) HZ
      have f11 : wr.frozen? ⟨w.heap.size, 11, none⟩ = false := by simp [World.frozen?, HZ]
      have HB := Lib.hid H.out.2.2
      have HO := Lib.hid hown
      clear hown HP HZ
      rcases HOut.out with ho | ho
      · go_wp2
        refine bodyPost_ret (v := .agg (plain A k c a).cells) (by simp [results, Try.results30, go_sem, plain, Cfg.cells, x0, x1, x2, x3, x4, x5, x6, x7, x8, x9, x10, x11]) rfl ?_
        exact ⟨A, c, rfl, own_low (own_setlow (own_setlow (own_setlow (own_setlow (own_setlow (own_setlow (own_setlow (own_setlow (own_setlow (own_setlow (own_setlow (own_setlow HO.out (by omega)) (by omega)) (by omega)) (by omega)) (by omega)) (by omega)) (by omega)) (by omega)) (by omega)) (by omega)) (by omega)) (by omega)) (by omega), (Below.setCell (p := ⟨w.heap.size, 11, none⟩) (Below.setCell (p := ⟨w.heap.size, 10, none⟩) (Below.setCell (p := ⟨w.heap.size, 9, none⟩) (Below.setCell (p := ⟨w.heap.size, 8, none⟩) (Below.setCell (p := ⟨w.heap.size, 7, none⟩) (Below.setCell (p := ⟨w.heap.size, 6, none⟩) (Below.setCell (p := ⟨w.heap.size, 5, none⟩) (Below.setCell (p := ⟨w.heap.size, 4, none⟩) (Below.setCell (p := ⟨w.heap.size, 3, none⟩) (Below.setCell (p := ⟨w.heap.size, 2, none⟩) (Below.setCell (p := ⟨w.heap.size, 1, none⟩) (Below.setCell (p := ⟨w.heap.size, 0, none⟩) HB.out (Nat.le_refl _) _) (Nat.le_refl _) _) (Nat.le_refl _) _) (Nat.le_refl _) _) (Nat.le_refl _) _) (Nat.le_refl _) _) (Nat.le_refl _) _) (Nat.le_refl _) _) (Nat.le_refl _) _) (Nat.le_refl _) _) (Nat.le_refl _) _) (Nat.le_refl _) _)⟩
      · subst ho
        go_wp2
        all_goals refine bodyPost_ret (v := .agg (plain A 4 c a).cells) (by simp [results, Try.results30, go_sem, plain, Cfg.cells, x0, x1, x2, x3, x4, x5, x6, x7, x8, x9, x10, x11]) rfl ?_
        all_goals exact ⟨A, c, rfl, own_low (own_setlow (own_setlow (own_setlow (own_setlow (own_setlow (own_setlow (own_setlow (own_setlow (own_setlow (own_setlow (own_setlow (own_setlow HO.out (by omega)) (by omega)) (by omega)) (by omega)) (by omega)) (by omega)) (by omega)) (by omega)) (by omega)) (by omega)) (by omega)) (by omega)) (by omega), (Below.setCell (p := ⟨w.heap.size, 11, none⟩) (Below.setCell (p := ⟨w.heap.size, 10, none⟩) (Below.setCell (p := ⟨w.heap.size, 9, none⟩) (Below.setCell (p := ⟨w.heap.size, 8, none⟩) (Below.setCell (p := ⟨w.heap.size, 7, none⟩) (Below.setCell (p := ⟨w.heap.size, 6, none⟩) (Below.setCell (p := ⟨w.heap.size, 5, none⟩) (Below.setCell (p := ⟨w.heap.size, 4, none⟩) (Below.setCell (p := ⟨w.heap.size, 3, none⟩) (Below.setCell (p := ⟨w.heap.size, 2, none⟩) (Below.setCell (p := ⟨w.heap.size, 1, none⟩) (Below.setCell (p := ⟨w.heap.size, 0, none⟩) HB.out (Nat.le_refl _) _) (Nat.le_refl _) _) (Nat.le_refl _) _) (Nat.le_refl _) _) (Nat.le_refl _) _) (Nat.le_refl _) _) (Nat.le_refl _) _) (Nat.le_refl _) _) (Nat.le_refl _) _) (Nat.le_refl _) _) (Nat.le_refl _) _) (Nat.le_refl _) _)⟩

end Go.Proofs.Ytnidafgjbocfcaa.Conf
