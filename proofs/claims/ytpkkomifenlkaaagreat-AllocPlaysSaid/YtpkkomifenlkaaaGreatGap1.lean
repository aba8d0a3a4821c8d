/- gap: of none; New, Clear, Has, remove of what isn't there. -/
import Derived.Test.YtpkkomifenlkaaaGreatGap0
import Derived.Deep.RegionHeld3
import Derived.WalkKit
import Derived.WalkMore
import Derived.Deep.Cut
import Derived.BigQuiet
import Derived.Deep.QuietTactic
namespace Go.Proofs.YtpkkomifenlkaaaGreat.Gp
open Go Go.RowKit

set_option maxRecDepth 20000 in
theorem take_nil (n : Int) (W : World) : Calls Tryz.prog 48 #[.pointer none, .int .u64 n] W fun e w' => e = .returned (.tuple #[.int .u64 0, .int .u64 0, .int .i64 1]) ∧ w' = W := by
  go_enter Tryz.func48, Tryz.ntmps48
  go_wp2
  exact bodyPost_ret (results_tmp3 rfl _ _ _) rfl ⟨rfl, rfl⟩
set_option maxRecDepth 20000 in
theorem len_nil (W : World) : Calls Tryz.prog 150 #[.pointer none] W fun e w' => e = .returned (.int .u64 0) ∧ w' = W := by
  go_enter Tryz.func150, Tryz.ntmps150
  go_wp2
  go_ret
  exact ⟨rfl, rfl⟩
set_option maxRecDepth 20000 in
theorem runs_nil (W : World) : Calls Tryz.prog 30 #[.pointer none] W fun e w' => e = .returned (.slice none 0 0) ∧ w' = W := by
  go_enter Tryz.func30, Tryz.ntmps30
  go_wp2
  go_ret
  exact ⟨rfl, rfl⟩
set_option maxRecDepth 20000 in
theorem put_nil (n : Int) (W : World) : Calls Tryz.prog 49 #[.pointer none, .int .u64 n] W fun e w' => e = .returned (.int .i64 1) ∧ Below W.heap.size W w' := by
  go_enter Tryz.func49, Tryz.ntmps49
  go_wp2
  go_ret
  exact ⟨rfl, (Below.refl _ _).alloc (Nat.le_refl _) _⟩
set_option maxRecDepth 20000 in
theorem put_top (H : Nat) (W : World) : Calls Tryz.prog 49 #[.pointer (some ⟨H, 0, none⟩), .int .u64 18446744073709551615] W fun e w' => e = .returned (.int .i64 5) ∧ Below W.heap.size W w' := by
  go_enter Tryz.func49, Tryz.ntmps49
  go_wp2
  go_ret
  exact ⟨rfl, (Below.refl _ _).alloc (Nat.le_refl _) _⟩
set_option maxRecDepth 20000 in
theorem has_nil (n : Int) (W : World) : Calls Tryz.prog 67 #[.pointer none, .int .u64 n] W fun e w' => e = .returned (.bool false) ∧ Below W.heap.size W w' := by
  go_enter Tryz.func67, Tryz.ntmps67
  go_wp2
  go_ret
  exact ⟨rfl, (Below.refl _ _).alloc (Nat.le_refl _) _⟩
/-- a slice of runs -/
def VIs (w : World) (v : Value) (l : List (Int × Int)) : Prop := (v = .slice none 0 0 ∧ l = []) ∨ ∃ g cap, v = .slice (some ⟨g, 0, none⟩) l.length cap ∧ l.length ≤ 1000000 ∧ RowIs w g l
theorem VIs.below {w V : World} {v : Value} {l : List (Int × Int)} (h : VIs w v l) (hb : Below w.heap.size w V) : VIs V v l := by
  rcases h with h | ⟨g, cap, h1, h2, h3⟩
  · exact Or.inl h
  · exact Or.inr ⟨g, cap, h1, h2, h3.below hb⟩
theorem idxv_ahead (N : Nat) (v : Value) (l : List (Int × Int)) (n : Int) (w : World) (hv : VIs w v l) (hN : w.cell? ⟨N, 0, none⟩ = some (.int .u64 n)) (hNl : N < w.heap.size) :
    Calls Tryz.prog 98 #[v, .func (.func 69) #[] #[.pointer (some ⟨N, 0, none⟩)]] w fun e w' => e = .returned (.int .i64 (seek (p_ahead n) l 0)) ∧ Below w.heap.size w w' := by
  rcases hv with ⟨rfl, rfl⟩ | ⟨g, cap, rfl, hl, hr⟩
  · exact (idxn_ahead N w).mono fun e w' ⟨h1, h2⟩ => ⟨h1, h2 ▸ Below.refl _ _⟩
  · exact idx_ahead g cap N l n hl w hr hN hNl
theorem idxv_behind (N : Nat) (v : Value) (l : List (Int × Int)) (n : Int) (w : World) (hv : VIs w v l) (hN : w.cell? ⟨N, 0, none⟩ = some (.int .u64 n)) (hNl : N < w.heap.size) :
    Calls Tryz.prog 98 #[v, .func (.func 70) #[] #[.pointer (some ⟨N, 0, none⟩)]] w fun e w' => e = .returned (.int .i64 (seek (p_behind n) l 0)) ∧ Below w.heap.size w w' := by
  rcases hv with ⟨rfl, rfl⟩ | ⟨g, cap, rfl, hl, hr⟩
  · exact (idxn_behind N w).mono fun e w' ⟨h1, h2⟩ => ⟨h1, h2 ▸ Below.refl _ _⟩
  · exact idx_behind g cap N l n hl w hr hN hNl
theorem idxv_in (N : Nat) (v : Value) (l : List (Int × Int)) (n : Int) (w : World) (hv : VIs w v l) (hN : w.cell? ⟨N, 0, none⟩ = some (.int .u64 n)) (hNl : N < w.heap.size) :
    Calls Tryz.prog 98 #[v, .func (.func 97) #[] #[.pointer (some ⟨N, 0, none⟩)]] w fun e w' => e = .returned (.int .i64 (seek (p_in n) l 0)) ∧ Below w.heap.size w w' := by
  rcases hv with ⟨rfl, rfl⟩ | ⟨g, cap, rfl, hl, hr⟩
  · exact (idxn_in N w).mono fun e w' ⟨h1, h2⟩ => ⟨h1, h2 ▸ Below.refl _ _⟩
  · exact idx_in g cap N l n hl w hr hN hNl
set_option maxRecDepth 20000 in
theorem con_any (N : Nat) (v : Value) (l : List (Int × Int)) (n : Int) (w : World) (hv : VIs w v l) (hN : w.cell? ⟨N, 0, none⟩ = some (.int .u64 n)) (hNl : N < w.heap.size) :
    Calls Tryz.prog 96 #[v, .func (.func 97) #[] #[.pointer (some ⟨N, 0, none⟩)]] w fun e w' => e = .returned (.bool (decide (0 ≤ seek (p_in n) l 0))) ∧ Below w.heap.size w w' := by
  have HI := Lib.hid (idxv_in N v l n w hv hN hNl)
  clear hv hN hNl
  generalize seek (p_in n) l 0 = s at HI ⊢
  go_enter Tryz.func96, Tryz.ntmps96
  go_wp2_with fail
  refine HI.out.mono ?_
  rintro _ w1 ⟨rfl, b1⟩
  go_wp2
  go_ret
  exact ⟨rfl, b1⟩
/-- a heap of runs -/
structure HpIs (W : World) (H : Nat) (v : Value) (l : List (Int × Int)) : Prop where
  box : W.heap[H]? = some (.cells #[v] THp (0, 0))
  row : VIs W v l
theorem HpIs.lt {W : World} {H : Nat} {v : Value} {l : List (Int × Int)} (h : HpIs W H v l) : H < W.heap.size := (Array.getElem?_eq_some_iff.1 h.box).1
theorem HpIs.below {W V : World} {H : Nat} {v : Value} {l : List (Int × Int)} (h : HpIs W H v l) (hb : Below W.heap.size W V) : HpIs V H v l := ⟨(hb.block _ h.lt).trans h.box, h.row.below hb⟩
set_option maxRecDepth 20000 in
theorem has_any (H : Nat) (v : Value) (l : List (Int × Int)) (n : Int) (W : World) (h : HpIs W H v l) : Calls Tryz.prog 67 #[.pointer (some ⟨H, 0, none⟩), .int .u64 n] W fun e w' => e = .returned (.bool (decide (0 ≤ seek (p_in n) l 0))) ∧ Below W.heap.size W w' := by
  have hb := heap_alloc_new W (.cells #[.int .u64 n] 22)
  have b1 := (Below.refl W.heap.size W).alloc (Nat.le_refl _) (.cells #[.int .u64 n] 22)
  have h1 := h.below b1
  have HC := Lib.hid (con_any W.heap.size v l n _ h1.row (cell_of_row _ _ 0 _ _ (0, 0) hb) (by simp))
  have c0 := cell_of_row _ H 0 _ _ (0, 0) h1.box
  obtain ⟨w0, hw0⟩ : ∃ X, X = W.alloc (.cells #[.int .u64 n] 22) := ⟨_, rfl⟩
  rw [← hw0] at HC b1 c0
  generalize decide (0 ≤ seek (p_in n) l 0) = r at HC ⊢
  have hsz := b1.size
  clear h h1 hb
  go_enter Tryz.func67, Tryz.ntmps67
  go_upto_region 1 with fail
  rw [← hw0]
  clear hw0
  go_wp2_with fail
  refine HC.out.mono ?_
  rintro _ w1 ⟨rfl, b2⟩
  go_wp2
  go_ret
  exact ⟨rfl, b1.trans (b2.mono hsz)⟩
set_option maxRecDepth 20000 in
theorem new_any (W : World) : Calls Tryz.prog 34 #[] W fun e w' => ∃ H, e = .returned (.pointer (some ⟨H, 0, none⟩)) ∧ H = W.heap.size ∧ w' = W.alloc (.cells #[.slice none 0 0] THp) := by
  go_enter Tryz.func34, Tryz.ntmps34
  go_wp2
  go_ret
  exact ⟨_, rfl, rfl, rfl⟩
set_option maxRecDepth 20000 in
theorem remno_ahead (H N : Nat) (v : Value) (l : List (Int × Int)) (n : Int) (W : World) (h : HpIs W H v l) (hN : W.cell? ⟨N, 0, none⟩ = some (.int .u64 n)) (hNl : N < W.heap.size) (hs : seek (p_ahead n) l 0 = -1) :
    Calls Tryz.prog 68 #[.pointer (some ⟨H, 0, none⟩), .func (.func 69) #[] #[.pointer (some ⟨N, 0, none⟩)]] W fun e w' => e = .returned (.tuple #[.agg #[.int .u64 0, .int .u64 0], .bool false]) ∧ Below W.heap.size W w' := by
  have hb := heap_alloc_new W (.cells #[.int .u64 0, .int .u64 0] TRn)
  have b1 := (Below.refl W.heap.size W).alloc (Nat.le_refl _) (.cells #[.int .u64 0, .int .u64 0] TRn)
  have h1 := h.below b1
  have HC := Lib.hid (hs ▸ idxv_ahead N v l n _ h1.row ((b1.cell (p := ⟨N, 0, none⟩) hNl).trans hN) (Nat.lt_of_lt_of_le hNl b1.size))
  have c0 := cell_of_row _ H 0 _ _ (0, 0) h1.box
  obtain ⟨w0, hw0⟩ : ∃ X, X = W.alloc (.cells #[.int .u64 0, .int .u64 0] TRn) := ⟨_, rfl⟩
  rw [← hw0] at HC b1 c0 hb
  have HX := Lib.hid (And.intro b1 hb)
  clear h h1 hb hs hN hNl b1
  go_enter Tryz.func68, Tryz.ntmps68
  go_upto_region 1 with fail
  rw [← hw0]
  clear hw0
  go_wp2_with fail
  refine HC.out.mono ?_
  rintro _ w1 ⟨rfl, b2⟩
  have hb1 := (b2.block _ (Array.getElem?_eq_some_iff.1 HX.out.2).1).trans HX.out.2
  have d0 := cell_of_row w1 W.heap.size 0 _ _ (0, 0) hb1
  have d1 := cell_of_row w1 W.heap.size 1 _ _ (0, 0) hb1
  have fz : ∀ i, w1.frozen? ⟨W.heap.size, i, none⟩ = false := fun i => by simp [World.frozen?, hb1]
  have HB := Lib.hid (show Below W.heap.size W w1 from HX.out.1.trans (b2.mono HX.out.1.size))
  clear b2 hb1 c0 HX HC
  go_wp2
  simp [bodyPost, results, Tryz.results68, go_sem, d0, d1]
  exact (HB.out.setCell (Nat.le_refl _) _).setCell (Nat.le_refl _) _
set_option maxRecDepth 20000 in
theorem remno_behind (H N : Nat) (v : Value) (l : List (Int × Int)) (n : Int) (W : World) (h : HpIs W H v l) (hN : W.cell? ⟨N, 0, none⟩ = some (.int .u64 n)) (hNl : N < W.heap.size) (hs : seek (p_behind n) l 0 = -1) :
    Calls Tryz.prog 68 #[.pointer (some ⟨H, 0, none⟩), .func (.func 70) #[] #[.pointer (some ⟨N, 0, none⟩)]] W fun e w' => e = .returned (.tuple #[.agg #[.int .u64 0, .int .u64 0], .bool false]) ∧ Below W.heap.size W w' := by
  have hb := heap_alloc_new W (.cells #[.int .u64 0, .int .u64 0] TRn)
  have b1 := (Below.refl W.heap.size W).alloc (Nat.le_refl _) (.cells #[.int .u64 0, .int .u64 0] TRn)
  have h1 := h.below b1
  have HC := Lib.hid (hs ▸ idxv_behind N v l n _ h1.row ((b1.cell (p := ⟨N, 0, none⟩) hNl).trans hN) (Nat.lt_of_lt_of_le hNl b1.size))
  have c0 := cell_of_row _ H 0 _ _ (0, 0) h1.box
  obtain ⟨w0, hw0⟩ : ∃ X, X = W.alloc (.cells #[.int .u64 0, .int .u64 0] TRn) := ⟨_, rfl⟩
  rw [← hw0] at HC b1 c0 hb
  have HX := Lib.hid (And.intro b1 hb)
  clear h h1 hb hs hN hNl b1
  go_enter Tryz.func68, Tryz.ntmps68
  go_upto_region 1 with fail
  rw [← hw0]
  clear hw0
  go_wp2_with fail
  refine HC.out.mono ?_
  rintro _ w1 ⟨rfl, b2⟩
  have hb1 := (b2.block _ (Array.getElem?_eq_some_iff.1 HX.out.2).1).trans HX.out.2
  have d0 := cell_of_row w1 W.heap.size 0 _ _ (0, 0) hb1
  have d1 := cell_of_row w1 W.heap.size 1 _ _ (0, 0) hb1
  have fz : ∀ i, w1.frozen? ⟨W.heap.size, i, none⟩ = false := fun i => by simp [World.frozen?, hb1]
  have HB := Lib.hid (show Below W.heap.size W w1 from HX.out.1.trans (b2.mono HX.out.1.size))
  clear b2 hb1 c0 HX HC
  go_wp2
  simp [bodyPost, results, Tryz.results68, go_sem, d0, d1]
  exact (HB.out.setCell (Nat.le_refl _) _).setCell (Nat.le_refl _) _
end Go.Proofs.YtpkkomifenlkaaaGreat.Gp
