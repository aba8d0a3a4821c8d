/- gap: remove of the first run. -/
import Derived.Test.YtpkkomifenlkaaaGreatGap7
namespace Go.Proofs.YtpkkomifenlkaaaGreat.Gp
open Go Go.RowKit

theorem Fr.alloc {H : Nat} {v v' : Value} {a b : World} (h : Fr H v v' a b) (o : Obj) : Fr H v v' a (b.alloc o) :=
  ⟨h.os, h.tape, h.output, by have := h.size; simp; omega, fun k hk h1 h2 => (Below.heap_alloc _ _ _ (Nat.lt_of_lt_of_le hk h.size)).trans (h.block k hk h1 h2), h.own⟩
theorem Fr.setNew {H n i : Nat} {u v v' : Value} {a b : World} (h : Fr H v v' a b) (hn : a.heap.size ≤ n) : Fr H v v' a (b.setCell ⟨n, i, none⟩ u) :=
  ⟨h.os, h.tape, h.output, by simpa using h.size, fun k hk h1 h2 => (Below.heap_setCell _ _ _ _ (fun e => by have : k = n := e; omega)).trans (h.block k hk h1 h2), h.own⟩
theorem HpO.setOff {B : Nat} {W : World} {H n i : Nat} {u v : Value} {l : List (Int × Int)} (h : HpO B W H v l) (h1 : n ≠ H) (h2 : some n ≠ v.ownBlock) : HpO B (W.setCell ⟨n, i, none⟩ u) H v l :=
  ⟨(Below.heap_setCell _ _ _ _ (fun e => h1 (show n = H from e.symm))).trans h.box, h.low, own_set h.row h2, h.few⟩
theorem HpO.ownLt {B : Nat} {W : World} {H : Nat} {v : Value} {l : List (Int × Int)} (h : HpO B W H v l) (k : Nat) (hk : v.ownBlock = some k) : k < W.heap.size := by
  rcases h.row.2 with ⟨h2, -⟩ | ⟨g, cap, cur, hv, hg, hh, r⟩
  · rw [h2] at hk; cases hk
  · rw [hv] at hk
    have : g = k := by injection hk
    rw [← this]
    exact (Array.getElem?_eq_some_iff.1 hh).1
set_option maxRecDepth 20000 in
set_option maxHeartbeats 2000000 in
theorem remhit_ahead (B HH N : Nat) (v : Value) (l l' : List (Int × Int)) (n a b : Int) (W : World) (h : HpO B W HH v l) (hB : B ≤ W.heap.size) (hN : W.cell? ⟨N, 0, none⟩ = some (.int .u64 n)) (hNl : N < W.heap.size) (hs : seek (p_ahead n) l 0 = 0)
    (hrem : ∀ V, HpO B V HH v l → B ≤ V.heap.size → Calls Tryz.prog 99 #[IH HH, .int .i64 0] V fun e w' => e = .returned (.iface TRn (.agg #[.int .u64 a, .int .u64 b])) ∧ ∃ v', HpO B w' HH v' l' ∧ Below B V w' ∧ Fr HH v v' V w') :
    Calls Tryz.prog 68 #[.pointer (some ⟨HH, 0, none⟩), .func (.func 69) #[] #[.pointer (some ⟨N, 0, none⟩)]] W fun e w' => e = .returned (.tuple #[.agg #[.int .u64 a, .int .u64 b], .bool true]) ∧ ∃ v', HpO B w' HH v' l' ∧ Below B W w' ∧ Fr HH v v' W w' := by
  have hb := heap_alloc_new W (.cells #[.int .u64 0, .int .u64 0] TRn)
  have b1 := (Below.refl W.heap.size W).alloc (Nat.le_refl _) (.cells #[.int .u64 0, .int .u64 0] TRn)
  have h1 := h.below b1
  have HC := Lib.hid (hs ▸ idxv_ahead N v l n _ h1.is.row ((b1.cell (p := ⟨N, 0, none⟩) hNl).trans hN) (Nat.lt_of_lt_of_le hNl b1.size))
  have c0 := cell_of_row _ HH 0 _ _ (0, 0) h1.box
  obtain ⟨w0, hw0⟩ : ∃ X, X = W.alloc (.cells #[.int .u64 0, .int .u64 0] TRn) := ⟨_, rfl⟩
  rw [← hw0] at HC b1 c0 hb h1
  have HX := Lib.hid (And.intro b1 (And.intro hb (And.intro h1 h)))
  have HR := Lib.hid hrem
  have HB := Lib.hid hB
  have hta := run_ta
  clear h h1 hb hs hN hNl b1 hrem hB
  unfold IH at HR
  go_enter Tryz.func68, Tryz.ntmps68
  go_upto_region 1 with fail
  rw [← hw0]
  clear hw0
  go_wp2_with fail
  refine HC.out.mono ?_
  rintro _ w1 ⟨rfl, b2⟩
  have hb1 := (b2.block _ (Array.getElem?_eq_some_iff.1 HX.out.2.1).1).trans HX.out.2.1
  have hP1 := HX.out.2.2.1.below b2
  have hbl : Below W.heap.size W w1 := HX.out.1.trans (b2.mono HX.out.1.size)
  have H1 := Lib.hid (And.intro hb1 (And.intro hP1 hbl))
  have hsz : W.heap.size < w1.heap.size := (Array.getElem?_eq_some_iff.1 hb1).1
  clear b2 hb1 hP1 hbl c0 HC
  go_wp2_with fail
  refine (HR.out w1 H1.out.2.1 (Nat.le_trans HB.out (Nat.le_of_lt hsz))).mono ?_
  rintro _ w2 ⟨rfl, v2, h2, b2, fr2⟩
  have hHW : HH < W.heap.size := HX.out.2.2.2.lt
  have hRv : some W.heap.size ≠ v.ownBlock := fun e => by have := HX.out.2.2.2.ownLt _ e.symm; omega
  have hb2 := (fr2.block _ hsz (by omega) hRv).trans H1.out.1
  have hRv2 : some W.heap.size ≠ v2.ownBlock := fun e => by
    rcases fr2.own with ho | ho
    · exact hRv (e.trans ho)
    · have := ho _ e.symm; omega
  have fr := (Fr.of_below H1.out.2.2).trans fr2
  have bel : Below B W w2 := (H1.out.2.2.mono HB.out).trans b2
  have hx := heap_alloc_new w2 (.cells #[.int .u64 a, .int .u64 b] TRn)
  obtain ⟨w3, hw3⟩ : ∃ X, X = w2.alloc (.cells #[.int .u64 a, .int .u64 b] TRn) := ⟨_, rfl⟩
  have hb3 : w3.heap[W.heap.size]? = some (.cells #[.int .u64 0, .int .u64 0] TRn (0, 0)) := by rw [hw3]; exact (Below.heap_alloc _ _ _ (Array.getElem?_eq_some_iff.1 hb2).1).trans hb2
  rw [← hw3] at hx
  have x0 := cell_of_row w3 w2.heap.size 0 _ _ (0, 0) hx
  have x1 := cell_of_row w3 w2.heap.size 1 _ _ (0, 0) hx
  have d0 := cell_of_row w3 W.heap.size 0 _ _ (0, 0) hb3
  have d1 := cell_of_row w3 W.heap.size 1 _ _ (0, 0) hb3
  have df : ∀ i, w3.frozen? ⟨W.heap.size, i, none⟩ = false := fun i => by simp [World.frozen?, hb3]
  have h3 : HpO B w3 HH v2 l' := by rw [hw3]; exact h2.below ((Below.refl _ _).alloc (Nat.le_refl _) _)
  have bel3 : Below B W w3 := by rw [hw3]; exact bel.alloc (Nat.le_trans HB.out bel.size) _
  have fr3 : Fr HH v v2 W w3 := by rw [hw3]; exact fr.alloc _
  have hend : HpO B ((w3.setCell ⟨W.heap.size, 0, none⟩ (.int .u64 a)).setCell ⟨W.heap.size, 1, none⟩ (.int .u64 b)) HH v2 l' := (h3.setOff (by omega) hRv2).setOff (by omega) hRv2
  have hbox := setCell_at (i := 1) (.int .u64 b) (setCell_at (i := 0) (.int .u64 a) hb3)
  have HE : Hid (HpO B ((w3.setCell ⟨W.heap.size, 0, none⟩ (.int .u64 a)).setCell ⟨W.heap.size, 1, none⟩ (.int .u64 b)) HH v2 l' ∧ Below B W ((w3.setCell ⟨W.heap.size, 0, none⟩ (.int .u64 a)).setCell ⟨W.heap.size, 1, none⟩ (.int .u64 b)) ∧ Fr HH v v2 W ((w3.setCell ⟨W.heap.size, 0, none⟩ (.int .u64 a)).setCell ⟨W.heap.size, 1, none⟩ (.int .u64 b)) ∧ ((w3.setCell ⟨W.heap.size, 0, none⟩ (.int .u64 a)).setCell ⟨W.heap.size, 1, none⟩ (.int .u64 b)).heap[W.heap.size]? = some (.cells #[.int .u64 a, .int .u64 b] TRn (0, 0))) := Lib.hid ⟨hend, Below.setCell (p := ⟨W.heap.size, 1, none⟩) (Below.setCell (p := ⟨W.heap.size, 0, none⟩) bel3 HB.out _) HB.out _, (fr3.setNew (Nat.le_refl _)).setNew (Nat.le_refl _), hbox⟩
  clear hend hbox fr3 bel3 h3 hb3 hx fr bel hb2 hRv hRv2 hHW h2 b2 fr2 H1 HX HR hsz
  go_upto_region 5 with fail
  rw [← hw3]
  clear hw3
  go_wp2
  generalize ((w3.setCell ⟨W.heap.size, 0, none⟩ (.int .u64 a)).setCell ⟨W.heap.size, 1, none⟩ (.int .u64 b)) = w4 at HE ⊢
  have r0 : w4.cell? ⟨W.heap.size, 0, none⟩ = some (.int .u64 a) := cell_of_row w4 W.heap.size 0 _ _ (0, 0) HE.out.2.2.2
  have r1 : w4.cell? ⟨W.heap.size, 1, none⟩ = some (.int .u64 b) := cell_of_row w4 W.heap.size 1 _ _ (0, 0) HE.out.2.2.2
  simp [bodyPost, results, Tryz.results68, go_sem, r0, r1]
  exact ⟨_, HE.out.1, HE.out.2.1, HE.out.2.2.1⟩
set_option maxRecDepth 20000 in
set_option maxHeartbeats 2000000 in
theorem remhit_behind (B HH N : Nat) (v : Value) (l l' : List (Int × Int)) (n a b : Int) (W : World) (h : HpO B W HH v l) (hB : B ≤ W.heap.size) (hN : W.cell? ⟨N, 0, none⟩ = some (.int .u64 n)) (hNl : N < W.heap.size) (hs : seek (p_behind n) l 0 = 0)
    (hrem : ∀ V, HpO B V HH v l → B ≤ V.heap.size → Calls Tryz.prog 99 #[IH HH, .int .i64 0] V fun e w' => e = .returned (.iface TRn (.agg #[.int .u64 a, .int .u64 b])) ∧ ∃ v', HpO B w' HH v' l' ∧ Below B V w' ∧ Fr HH v v' V w') :
    Calls Tryz.prog 68 #[.pointer (some ⟨HH, 0, none⟩), .func (.func 70) #[] #[.pointer (some ⟨N, 0, none⟩)]] W fun e w' => e = .returned (.tuple #[.agg #[.int .u64 a, .int .u64 b], .bool true]) ∧ ∃ v', HpO B w' HH v' l' ∧ Below B W w' ∧ Fr HH v v' W w' := by
  have hb := heap_alloc_new W (.cells #[.int .u64 0, .int .u64 0] TRn)
  have b1 := (Below.refl W.heap.size W).alloc (Nat.le_refl _) (.cells #[.int .u64 0, .int .u64 0] TRn)
  have h1 := h.below b1
  have HC := Lib.hid (hs ▸ idxv_behind N v l n _ h1.is.row ((b1.cell (p := ⟨N, 0, none⟩) hNl).trans hN) (Nat.lt_of_lt_of_le hNl b1.size))
  have c0 := cell_of_row _ HH 0 _ _ (0, 0) h1.box
  obtain ⟨w0, hw0⟩ : ∃ X, X = W.alloc (.cells #[.int .u64 0, .int .u64 0] TRn) := ⟨_, rfl⟩
  rw [← hw0] at HC b1 c0 hb h1
  have HX := Lib.hid (And.intro b1 (And.intro hb (And.intro h1 h)))
  have HR := Lib.hid hrem
  have HB := Lib.hid hB
  have hta := run_ta
  clear h h1 hb hs hN hNl b1 hrem hB
  unfold IH at HR
  go_enter Tryz.func68, Tryz.ntmps68
  go_upto_region 1 with fail
  rw [← hw0]
  clear hw0
  go_wp2_with fail
  refine HC.out.mono ?_
  rintro _ w1 ⟨rfl, b2⟩
  have hb1 := (b2.block _ (Array.getElem?_eq_some_iff.1 HX.out.2.1).1).trans HX.out.2.1
  have hP1 := HX.out.2.2.1.below b2
  have hbl : Below W.heap.size W w1 := HX.out.1.trans (b2.mono HX.out.1.size)
  have H1 := Lib.hid (And.intro hb1 (And.intro hP1 hbl))
  have hsz : W.heap.size < w1.heap.size := (Array.getElem?_eq_some_iff.1 hb1).1
  clear b2 hb1 hP1 hbl c0 HC
  go_wp2_with fail
  refine (HR.out w1 H1.out.2.1 (Nat.le_trans HB.out (Nat.le_of_lt hsz))).mono ?_
  rintro _ w2 ⟨rfl, v2, h2, b2, fr2⟩
  have hHW : HH < W.heap.size := HX.out.2.2.2.lt
  have hRv : some W.heap.size ≠ v.ownBlock := fun e => by have := HX.out.2.2.2.ownLt _ e.symm; omega
  have hb2 := (fr2.block _ hsz (by omega) hRv).trans H1.out.1
  have hRv2 : some W.heap.size ≠ v2.ownBlock := fun e => by
    rcases fr2.own with ho | ho
    · exact hRv (e.trans ho)
    · have := ho _ e.symm; omega
  have fr := (Fr.of_below H1.out.2.2).trans fr2
  have bel : Below B W w2 := (H1.out.2.2.mono HB.out).trans b2
  have hx := heap_alloc_new w2 (.cells #[.int .u64 a, .int .u64 b] TRn)
  obtain ⟨w3, hw3⟩ : ∃ X, X = w2.alloc (.cells #[.int .u64 a, .int .u64 b] TRn) := ⟨_, rfl⟩
  have hb3 : w3.heap[W.heap.size]? = some (.cells #[.int .u64 0, .int .u64 0] TRn (0, 0)) := by rw [hw3]; exact (Below.heap_alloc _ _ _ (Array.getElem?_eq_some_iff.1 hb2).1).trans hb2
  rw [← hw3] at hx
  have x0 := cell_of_row w3 w2.heap.size 0 _ _ (0, 0) hx
  have x1 := cell_of_row w3 w2.heap.size 1 _ _ (0, 0) hx
  have d0 := cell_of_row w3 W.heap.size 0 _ _ (0, 0) hb3
  have d1 := cell_of_row w3 W.heap.size 1 _ _ (0, 0) hb3
  have df : ∀ i, w3.frozen? ⟨W.heap.size, i, none⟩ = false := fun i => by simp [World.frozen?, hb3]
  have h3 : HpO B w3 HH v2 l' := by rw [hw3]; exact h2.below ((Below.refl _ _).alloc (Nat.le_refl _) _)
  have bel3 : Below B W w3 := by rw [hw3]; exact bel.alloc (Nat.le_trans HB.out bel.size) _
  have fr3 : Fr HH v v2 W w3 := by rw [hw3]; exact fr.alloc _
  have hend : HpO B ((w3.setCell ⟨W.heap.size, 0, none⟩ (.int .u64 a)).setCell ⟨W.heap.size, 1, none⟩ (.int .u64 b)) HH v2 l' := (h3.setOff (by omega) hRv2).setOff (by omega) hRv2
  have hbox := setCell_at (i := 1) (.int .u64 b) (setCell_at (i := 0) (.int .u64 a) hb3)
  have HE : Hid (HpO B ((w3.setCell ⟨W.heap.size, 0, none⟩ (.int .u64 a)).setCell ⟨W.heap.size, 1, none⟩ (.int .u64 b)) HH v2 l' ∧ Below B W ((w3.setCell ⟨W.heap.size, 0, none⟩ (.int .u64 a)).setCell ⟨W.heap.size, 1, none⟩ (.int .u64 b)) ∧ Fr HH v v2 W ((w3.setCell ⟨W.heap.size, 0, none⟩ (.int .u64 a)).setCell ⟨W.heap.size, 1, none⟩ (.int .u64 b)) ∧ ((w3.setCell ⟨W.heap.size, 0, none⟩ (.int .u64 a)).setCell ⟨W.heap.size, 1, none⟩ (.int .u64 b)).heap[W.heap.size]? = some (.cells #[.int .u64 a, .int .u64 b] TRn (0, 0))) := Lib.hid ⟨hend, Below.setCell (p := ⟨W.heap.size, 1, none⟩) (Below.setCell (p := ⟨W.heap.size, 0, none⟩) bel3 HB.out _) HB.out _, (fr3.setNew (Nat.le_refl _)).setNew (Nat.le_refl _), hbox⟩
  clear hend hbox fr3 bel3 h3 hb3 hx fr bel hb2 hRv hRv2 hHW h2 b2 fr2 H1 HX HR hsz
  go_upto_region 5 with fail
  rw [← hw3]
  clear hw3
  go_wp2
  generalize ((w3.setCell ⟨W.heap.size, 0, none⟩ (.int .u64 a)).setCell ⟨W.heap.size, 1, none⟩ (.int .u64 b)) = w4 at HE ⊢
  have r0 : w4.cell? ⟨W.heap.size, 0, none⟩ = some (.int .u64 a) := cell_of_row w4 W.heap.size 0 _ _ (0, 0) HE.out.2.2.2
  have r1 : w4.cell? ⟨W.heap.size, 1, none⟩ = some (.int .u64 b) := cell_of_row w4 W.heap.size 1 _ _ (0, 0) HE.out.2.2.2
  simp [bodyPost, results, Tryz.results68, go_sem, r0, r1]
  exact ⟨_, HE.out.1, HE.out.2.1, HE.out.2.2.1⟩
end Go.Proofs.YtpkkomifenlkaaaGreat.Gp
