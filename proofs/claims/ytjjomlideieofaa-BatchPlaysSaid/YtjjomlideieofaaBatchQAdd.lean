/- The page's batch of messages: Add. -/
import Derived.Test.YtjjomlideieofaaBatchQ
import Derived.Deep.RegionLaw
namespace Go.Proofs.Ytjjomlideieofaa.Msg
open Go Go.RowKit

/-- What a message's box, the batch and all that stood are, a call later. -/
theorem qput_frame {w w1 : World} {base g : Nat} {sz wt since : Int} {v : Value} {ms : List M7} {x : M7} (h : Qt w base g sz wt v since ms) (hb : Below (w.alloc (.cells #[.int .i64 x.k, .int .i64 x.c, .int .i64 x.f, .int .u64 x.s, .int .u64 x.t, .string x.d, .string x.a] TM)).heap.size (w.alloc (.cells #[.int .i64 x.k, .int .i64 x.c, .int .i64 x.f, .int .u64 x.s, .int .u64 x.t, .string x.d, .string x.a] TM)) w1) :
    Qt w1 base g sz wt v since ms ∧ Box w1 w.heap.size x ∧ Below w.heap.size w w1 := by
  have hb0 : Below w.heap.size w (w.alloc (.cells #[.int .i64 x.k, .int .i64 x.c, .int .i64 x.f, .int .u64 x.s, .int .u64 x.t, .string x.d, .string x.a] TM)) := (Below.refl _ _).alloc (Nat.le_refl _) _
  have h2 : Below w.heap.size w w1 := hb0.trans (hb.mono (by simp))
  exact ⟨(h.below hb0).below hb, Box.below (W := w.alloc (.cells #[.int .i64 x.k, .int .i64 x.c, .int .i64 x.f, .int .u64 x.s, .int .u64 x.t, .string x.d, .string x.a] TM)) (heap_alloc_new w _) hb, h2⟩

set_option maxHeartbeats 2000000 in
theorem qadd_bad {w : World} {base g : Nat} {sz wt since : Int} {v : Value} {ms : List M7} (h : Qt w base g sz wt v since ms) (x : M7) (now : Int) (hm : mright x = false) :
    Calls Try.prog 30 #[.pointer (some ⟨g, 0, none⟩), .agg #[.int .i64 x.k, .int .i64 x.c, .int .i64 x.f, .int .u64 x.s, .int .u64 x.t, .string x.d, .string x.a], .int .u64 now] w fun e w' => e = .returned (.int .i64 1) ∧ Below w.heap.size w w' := by
  have HR := Lib.hid (rmright_any x)
  have HB := Lib.hid h
  unfold M7.cells at HR
  go_enter Try.func30, Try.ntmps30
  go_wp2_with fail
  refine (HR.out _).mono ?_
  rintro e w1 ⟨rfl, hb1⟩
  rw [hm]
  have H1 := Lib.hid (qput_frame HB.out hb1)
  clear hb1
  go_wp2
  go_ret
  exact ⟨rfl, H1.out.2.2⟩

set_option maxHeartbeats 2000000 in
theorem qadd_dup {w : World} {base g : Nat} {sz wt since : Int} {v : Value} {ms : List M7} (h : Qt w base g sz wt v since ms) (x : M7) (now : Int) (hm : mright x = true) (hl : ms.length ≤ 1000000) (hp : place ms x ms.length 0 ≠ -1) :
    Calls Try.prog 30 #[.pointer (some ⟨g, 0, none⟩), .agg #[.int .i64 x.k, .int .i64 x.c, .int .i64 x.f, .int .u64 x.s, .int .u64 x.t, .string x.d, .string x.a], .int .u64 now] w fun e w' => e = .returned (.int .i64 7) ∧ Below w.heap.size w w' := by
  have hd := Lib.hid (show decide (place ms x ms.length 0 ≠ -1) = true from decide_eq_true hp)
  clear hp
  have HR := Lib.hid (rmright_any x)
  have HB := Lib.hid h
  unfold M7.cells at HR
  go_enter Try.func30, Try.ntmps30
  go_wp2_with fail
  refine (HR.out _).mono ?_
  rintro e w1 ⟨rfl, hb1⟩
  rw [hm]
  have H1 := Lib.hid (qput_frame HB.out hb1)
  clear hb1
  have hd1 : w.heap.size < w1.heap.size := lt_blk H1.out.2.1
  obtain ⟨b0, b1, b2, b3, b4, b5, b6⟩ := Box.cells H1.out.2.1
  go_wp2_with fail
  refine (qhas_any H1.out.1 x hl).mono ?_
  rintro e w2 ⟨rfl, hb2⟩
  rw [hd.out]
  have H2 := Lib.hid (And.intro (H1.out.1.below hb2) (And.intro (Box.below H1.out.2.1 hb2) (H1.out.2.2.trans (hb2.mono (Nat.le_of_lt hd1)))))
  clear b0 b1 b2 b3 b4 b5 b6 hd1 hb2
  go_wp2
  go_ret
  exact ⟨rfl, H2.out.2.2⟩

set_option maxHeartbeats 2000000 in
theorem qadd_full {w : World} {base g : Nat} {sz wt since : Int} {v : Value} {ms : List M7} (h : Qt w base g sz wt v since ms) (x : M7) (now : Int) (hm : mright x = true) (hl : ms.length ≤ 1000000) (hp : place ms x ms.length 0 = -1) (hs : sz ≤ (ms.length : Int)) :
    Calls Try.prog 30 #[.pointer (some ⟨g, 0, none⟩), .agg #[.int .i64 x.k, .int .i64 x.c, .int .i64 x.f, .int .u64 x.s, .int .u64 x.t, .string x.d, .string x.a], .int .u64 now] w fun e w' => e = .returned (.int .i64 6) ∧ Below w.heap.size w w' := by
  have hd := Lib.hid (show decide (place ms x ms.length 0 ≠ -1) = false from decide_eq_false (fun h => h hp))
  obtain ⟨A, c, rfl⟩ := own_formN h.2.2
  clear hp
  have HR := Lib.hid (rmright_any x)
  have HB := Lib.hid h
  unfold M7.cells at HR
  go_enter Try.func30, Try.ntmps30
  go_wp2_with fail
  refine (HR.out _).mono ?_
  rintro e w1 ⟨rfl, hb1⟩
  rw [hm]
  have H1 := Lib.hid (qput_frame HB.out hb1)
  clear hb1
  have hd1 : w.heap.size < w1.heap.size := lt_blk H1.out.2.1
  obtain ⟨b0, b1, b2, b3, b4, b5, b6⟩ := Box.cells H1.out.2.1
  go_wp2_with fail
  refine (qhas_any H1.out.1 x hl).mono ?_
  rintro e w2 ⟨rfl, hb2⟩
  rw [hd.out]
  have H2 := Lib.hid (And.intro (H1.out.1.below hb2) (And.intro (Box.below H1.out.2.1 hb2) (H1.out.2.2.trans (hb2.mono (Nat.le_of_lt hd1)))))
  clear b0 b1 b2 b3 b4 b5 b6 hd1 hb2
  obtain ⟨c0, c1, c2, c3⟩ := H2.out.1.cells
  have hds : decide (sz ≤ (ms.length : Int)) = true := decide_eq_true hs
  go_wp2
  go_quiet (fail)
  go_wp2
  go_ret
  exact ⟨rfl, below_drewN H2.out.2.2 _⟩

theorem Qt.put {W w3 : World} {base g g2 cap2 : Nat} {sz wt since : Int} {v : Value} {ms : List M7} {x : M7} (h : Qt W base g sz wt v since ms)
    (hown : w3.ownsRow base TM 7 (.slice (some ⟨g2, 0, none⟩) (ms.length + 1) cap2) (ms.length + 1) (mevs ms ++ x.cells.toList)) (hg : (W.alloc (.cells x.cells TM)).grownBy w3 v.ownBlock) (hat : v.ownBlock = some g2 ∨ g2 = W.heap.size + 1) :
    w3.cell? ⟨g, 3, none⟩ = some v ∧ w3.frozen? ⟨g, 3, none⟩ = false ∧ Qt (w3.setCell ⟨g, 3, none⟩ (.slice (some ⟨g2, 0, none⟩) (ms.length + 1) cap2)) base g sz wt (.slice (some ⟨g2, 0, none⟩) (ms.length + 1) cap2) since (ms ++ [x]) ∧
    Fr g v.ownBlock W (w3.setCell ⟨g, 3, none⟩ (.slice (some ⟨g2, 0, none⟩) (ms.length + 1) cap2)) ∧ New W v.ownBlock (some g2) ∧ Below base W (w3.setCell ⟨g, 3, none⟩ (.slice (some ⟨g2, 0, none⟩) (ms.length + 1) cap2)) := by
  have hlt := lt_blk h.2.1
  have hne : some g ≠ v.ownBlock := fun e => by
    obtain ⟨cs, fr, ho⟩ := own_blk_type h.2.2 e.symm h.2.1
    injection ho with _ ht
    exact absurd ht (by decide)
  have hb3 : w3.heap[g]? = some (.cells #[.int .i64 sz, .int .i64 wt, .int .u64 since, v] TQ (0, 0)) := (hg.block g (by simp; omega) hne).trans ((Below.heap_alloc _ _ _ hlt).trans h.2.1)
  have hbel : Below base W w3 := ((Below.refl _ _).alloc (by have := h.1; omega) _).grown hg (by have := h.1; simp; omega) (own_ge h.2.2)
  refine ⟨cell_of_row _ _ 3 _ _ _ hb3, by simp [World.frozen?, hb3], ⟨h.1, set3_blk hb3, ?_⟩, (Fr.grown (Fr.alloc (Fr.refl g _ W) _) hg).set _, ?_, hbel.setCell (p := ⟨g, 3, none⟩) h.1 _⟩
  · rw [List.length_append, List.length_singleton, mevs_snoc]
    exact own_setblk hown hb3 (by decide)
  · rcases hat with hat | hat
    · exact .inl hat.symm
    · exact .inr (.inr ⟨g2, rfl, by omega⟩)
theorem Qt.stamp {W : World} {base g : Nat} {sz wt since now : Int} {v : Value} {ms : List M7} (h : Qt W base g sz wt v since ms) : Qt (W.setCell ⟨g, 2, none⟩ (.int .u64 now)) base g sz wt v now ms :=
  ⟨h.1, set2_blk h.2.1, own_setblk h.2.2 h.2.1 (by decide)⟩
/-- What the page's batch is when a message was put in. -/
def QPuts (w : World) (base g : Nat) (sz wt : Int) (v : Value) (since : Int) (ms : List M7) (e : Ending) (w' : World) : Prop :=
  e = .returned (.int .i64 0) ∧ ∃ v', Qt w' base g sz wt v' since ms ∧ Fr g v.ownBlock w w' ∧ New w v.ownBlock v'.ownBlock ∧ Below base w w'

set_option maxHeartbeats 2000000 in
theorem qadd_more {w : World} {base g : Nat} {sz wt since : Int} {v : Value} {ms : List M7} (h : Qt w base g sz wt v since ms) (x : M7) (now : Int) (hm : mright x = true) (hl : ms.length ≤ 1000000) (hp : place ms x ms.length 0 = -1) (hs : (ms.length : Int) < sz) (hn : 0 < ms.length) :
    Calls Try.prog 30 #[.pointer (some ⟨g, 0, none⟩), .agg #[.int .i64 x.k, .int .i64 x.c, .int .i64 x.f, .int .u64 x.s, .int .u64 x.t, .string x.d, .string x.a], .int .u64 now] w (QPuts w base g sz wt v since (ms ++ [x])) := by
  have hd := Lib.hid (show decide (place ms x ms.length 0 ≠ -1) = false from decide_eq_false (fun h => h hp))
  obtain ⟨A, c, rfl⟩ := own_formN h.2.2
  obtain ⟨i1, hi1, hy0, hy1, hy2⟩ := info_parts infoM
  clear hp
  have hbase : base ≤ w.heap.size := by have := h.1; have := lt_blk h.2.1; omega
  have HR := Lib.hid (rmright_any x)
  have HB := Lib.hid h
  unfold M7.cells at HR
  go_enter Try.func30, Try.ntmps30
  go_wp2_with fail
  refine (HR.out _).mono ?_
  rintro e w1 ⟨rfl, hb1⟩
  rw [hm]
  have H1 := Lib.hid (qput_frame HB.out hb1)
  clear hb1
  have hd1 : w.heap.size < w1.heap.size := lt_blk H1.out.2.1
  obtain ⟨b0, b1, b2, b3, b4, b5, b6⟩ := Box.cells H1.out.2.1
  go_wp2_with fail
  refine (qhas_any H1.out.1 x hl).mono ?_
  rintro e w2 ⟨rfl, hb2⟩
  rw [hd.out]
  have H2 := Lib.hid (And.intro (H1.out.1.below hb2) (And.intro (Box.below H1.out.2.1 hb2) (H1.out.2.2.trans (hb2.mono (Nat.le_of_lt hd1)))))
  clear b0 b1 b2 b3 b4 b5 b6 hd1 hb2
  obtain ⟨c0, c1, c2, c3⟩ := H2.out.1.cells
  have f2 := H2.out.1.free 3
  have hds : decide (sz ≤ (ms.length : Int)) = false := decide_eq_false (by omega)
  have hz : ((ms.length : Int) == 0) = false := by rw [beq_eq_false_iff_ne]; omega
  go_wp2
  go_quiet (fail)
  go_wp2
  obtain ⟨W, hW⟩ : ∃ W : World, W = w2.drewN nq := ⟨_, rfl⟩
  rw [← hW]
  have HW := Lib.hid (show Qt W base g sz wt (.slice A ms.length c) since ms ∧ base ≤ (W.drew.alloc (.cells x.cells TM)).heap.size from ⟨by rw [hW]; exact H2.out.1, by have := H2.out.2.2.size; rw [hW]; simp; omega⟩)
  obtain ⟨b0, b1, b2, b3, b4, b5, b6⟩ := Box.cells (W := W) (by rw [hW]; exact H2.out.2.1)
  obtain ⟨c0, c1, c2, c3⟩ := HW.out.1.cells
  have hgl : g < W.heap.size := lt_blk HW.out.1.2.1
  have hWB := Lib.hid (show Below w.heap.size w W from by rw [hW]; exact below_drewN H2.out.2.2 _)
  clear hW
  go_region_law ((refine step_append_lies _ (by rfl) _ _ _ (by rfl) base 27 i1 _ 7 72 Try.underlying38 hi1 hy0 hy1 hy2 rfl (by decide) _ _ _ (by rfl) (HW.out.1.2.2.alloc _) ⟨W.heap.size, 0, none⟩ 1 1 x.cells.toList (by rfl) rfl (cells7_new _ x _) (cells7_one x) (by decide) (by unfold maxLen; omega) (by omega) (HW.out.2) (W.heap.size + 1) (by simp) ?_; intro g2 cap2 w3 hown2 hg2 hat2 _; obtain ⟨hst1, hst2, hst3⟩ := HW.out.1.put hown2 (grown_drew' hg2) hat2; have HR := Lib.hid hst3; clear hst3 hg2 hown2 hat2))
  all_goals
    go_wp2
    go_ret
    exact ⟨rfl, _, HR.out.1, Fr.after hWB.out HR.out.2.1, New.old HR.out.2.2.1 hWB.out.size, (hWB.out.mono hbase).trans HR.out.2.2.2⟩

set_option maxRecDepth 100000 in
set_option maxHeartbeats 2000000 in
theorem qadd_first {w : World} {base g : Nat} {sz wt since : Int} {v : Value} {ms : List M7} (h : Qt w base g sz wt v since ms) (x : M7) (now : Int) (hm : mright x = true) (hl : ms.length ≤ 1000000) (hp : place ms x ms.length 0 = -1) (hs : (ms.length : Int) < sz) (hn : ms = []) :
    Calls Try.prog 30 #[.pointer (some ⟨g, 0, none⟩), .agg #[.int .i64 x.k, .int .i64 x.c, .int .i64 x.f, .int .u64 x.s, .int .u64 x.t, .string x.d, .string x.a], .int .u64 now] w (QPuts w base g sz wt v now (ms ++ [x])) := by
  have hd := Lib.hid (show decide (place ms x ms.length 0 ≠ -1) = false from decide_eq_false (fun h => h hp))
  obtain ⟨A, c, rfl⟩ := own_formN h.2.2
  obtain ⟨i1, hi1, hy0, hy1, hy2⟩ := info_parts infoM
  clear hp
  have hn0 := Lib.hid hn
  clear hn
  have hbase : base ≤ w.heap.size := by have := h.1; have := lt_blk h.2.1; omega
  have HR := Lib.hid (rmright_any x)
  have HB := Lib.hid h
  unfold M7.cells at HR
  go_enter Try.func30, Try.ntmps30
  go_wp2_with fail
  refine (HR.out _).mono ?_
  rintro e w1 ⟨rfl, hb1⟩
  rw [hm]
  have H1 := Lib.hid (qput_frame HB.out hb1)
  clear hb1
  have hd1 : w.heap.size < w1.heap.size := lt_blk H1.out.2.1
  obtain ⟨b0, b1, b2, b3, b4, b5, b6⟩ := Box.cells H1.out.2.1
  go_wp2_with fail
  refine (qhas_any H1.out.1 x hl).mono ?_
  rintro e w2 ⟨rfl, hb2⟩
  rw [hd.out]
  have H2 := Lib.hid (And.intro (H1.out.1.below hb2) (And.intro (Box.below H1.out.2.1 hb2) (H1.out.2.2.trans (hb2.mono (Nat.le_of_lt hd1)))))
  clear b0 b1 b2 b3 b4 b5 b6 hd1 hb2
  obtain ⟨c0, c1, c2, c3⟩ := H2.out.1.cells
  have f2 := H2.out.1.free 3
  have hds : decide (sz ≤ (ms.length : Int)) = false := decide_eq_false (by omega)
  have f3 := H2.out.1.free 2
  have hz : (ms.length : Int) = 0 := by rw [hn0.out]; rfl
  go_wp2
  go_quiet (fail)
  go_wp2
  have hgw : w.heap.size ≠ g := fun e => by have := lt_blk HB.out.2.1; omega
  obtain ⟨W, hW⟩ : ∃ W : World, W = (w2.drewN nq).setCell ⟨g, 2, none⟩ (.int .u64 now) := ⟨_, rfl⟩
  rw [← hW]
  have HW := Lib.hid (show Qt W base g sz wt (.slice A ms.length c) now ms ∧ base ≤ (W.drew.alloc (.cells x.cells TM)).heap.size from ⟨by rw [hW]; exact (H2.out.1.drewN nq).stamp, by have := H2.out.2.2.size; rw [hW]; simp [World.setCell]; omega⟩)
  obtain ⟨b0, b1, b2, b3, b4, b5, b6⟩ := Box.cells (W := W) (by rw [hW]; exact (Below.heap_setCell _ _ _ _ (fun e => hgw e)).trans H2.out.2.1)
  obtain ⟨c0, c1, c2, c3⟩ := HW.out.1.cells
  have hgl : g < W.heap.size := lt_blk HW.out.1.2.1
  have hWB := Lib.hid (show Below base w W from by rw [hW]; exact (below_drewN (H2.out.2.2.mono hbase) _).setCell (p := ⟨g, 2, none⟩) HB.out.1 _)
  have hFW := Lib.hid (show Fr g (Value.slice A ms.length c).ownBlock w W from by rw [hW]; exact (((Fr.refl g _ w).below' H2.out.2.2).drewN nq).set _)
  clear hW
  go_region_law ((refine step_append_lies _ (by rfl) _ _ _ (by rfl) base 27 i1 _ 7 72 Try.underlying38 hi1 hy0 hy1 hy2 rfl (by decide) _ _ _ (by rfl) (HW.out.1.2.2.alloc _) ⟨W.heap.size, 0, none⟩ 1 1 x.cells.toList (by rfl) rfl (cells7_new _ x _) (cells7_one x) (by decide) (by unfold maxLen; omega) (by omega) (HW.out.2) (W.heap.size + 1) (by simp) ?_; intro g2 cap2 w3 hown2 hg2 hat2 _; obtain ⟨hst1, hst2, hst3⟩ := HW.out.1.put hown2 (grown_drew' hg2) hat2; have HR := Lib.hid hst3; clear hst3 hg2 hown2 hat2))
  all_goals
    go_wp2
    go_ret
    exact ⟨rfl, _, HR.out.1, hFW.out.then HR.out.2.1, New.old HR.out.2.2.1 hWB.out.size, hWB.out.trans HR.out.2.2.2⟩
end Go.Proofs.Ytjjomlideieofaa.Msg
