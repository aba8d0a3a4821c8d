/- A batch of messages: Add, where there is room. -/
import Derived.Test.YtjjomlideieofaaBatchPut
import Derived.Deep.RegionLaw
namespace Go.Proofs.Ytjjomlideieofaa.Msg
open Go Go.RowKit

theorem grown_drew' {W W' : World} {r : Option Nat} (h : W.drew.grownBy W' r) : W.grownBy W' r := ⟨h.os, h.tape, h.output, h.size, h.block⟩
theorem set2_blk {w : World} {g : Nat} {a b c d u : Value} {t : TypeId} (h : w.heap[g]? = some (.cells #[a, b, c, d] t (0, 0))) : (w.setCell ⟨g, 2, none⟩ u).heap[g]? = some (.cells #[a, b, u, d] t (0, 0)) := by
  simp [World.setCell, Array.getElem?_modify, h]
theorem set3_blk {w : World} {g : Nat} {a b c d u : Value} {t : TypeId} (h : w.heap[g]? = some (.cells #[a, b, c, d] t (0, 0))) : (w.setCell ⟨g, 3, none⟩ u).heap[g]? = some (.cells #[a, b, c, u] t (0, 0)) := by
  simp [World.setCell, Array.getElem?_modify, h]

theorem Bt.put {W w3 : World} {base g g2 cap2 : Nat} {sz wt since : Int} {v : Value} {ms : List M7} {x : M7} (h : Bt W base g sz wt v since ms)
    (hown : w3.ownsRow base TM 7 (.slice (some ⟨g2, 0, none⟩) (ms.length + 1) cap2) (ms.length + 1) (mevs ms ++ x.cells.toList)) (hg : (W.alloc (.cells x.cells TM)).grownBy w3 v.ownBlock) (hat : v.ownBlock = some g2 ∨ g2 = W.heap.size + 1) :
    w3.cell? ⟨g, 2, none⟩ = some v ∧ w3.frozen? ⟨g, 2, none⟩ = false ∧ Bt (w3.setCell ⟨g, 2, none⟩ (.slice (some ⟨g2, 0, none⟩) (ms.length + 1) cap2)) base g sz wt (.slice (some ⟨g2, 0, none⟩) (ms.length + 1) cap2) since (ms ++ [x]) ∧
    Fr g v.ownBlock W (w3.setCell ⟨g, 2, none⟩ (.slice (some ⟨g2, 0, none⟩) (ms.length + 1) cap2)) ∧ New W v.ownBlock (some g2) ∧ Below base W (w3.setCell ⟨g, 2, none⟩ (.slice (some ⟨g2, 0, none⟩) (ms.length + 1) cap2)) := by
  have hlt := lt_blk h.2.1
  have hne : some g ≠ v.ownBlock := fun e => by
    obtain ⟨cs, fr, ho⟩ := own_blk_type h.2.2 e.symm h.2.1
    injection ho with _ ht
    exact absurd ht (by decide)
  have hb3 : w3.heap[g]? = some (.cells #[.int .i64 sz, .int .i64 wt, v, .int .u64 since] TB (0, 0)) := (hg.block g (by simp; omega) hne).trans ((Below.heap_alloc _ _ _ hlt).trans h.2.1)
  have hbel : Below base W w3 := ((Below.refl _ _).alloc (by have := h.1; omega) _).grown hg (by have := h.1; simp; omega) (own_ge h.2.2)
  refine ⟨cell_of_row _ _ 2 _ _ _ hb3, by simp [World.frozen?, hb3], ⟨h.1, set2_blk hb3, ?_⟩, (Fr.grown (Fr.alloc (Fr.refl g _ W) _) hg).set _, ?_, hbel.setCell (p := ⟨g, 2, none⟩) h.1 _⟩
  · rw [List.length_append, List.length_singleton, mevs_snoc]
    exact own_setblk hown hb3 (by decide)
  · rcases hat with hat | hat
    · exact .inl hat.symm
    · exact .inr (.inr ⟨g2, rfl, by omega⟩)
theorem Bt.stamp {W : World} {base g : Nat} {sz wt since now : Int} {v : Value} {ms : List M7} (h : Bt W base g sz wt v since ms) : Bt (W.setCell ⟨g, 3, none⟩ (.int .u64 now)) base g sz wt v now ms :=
  ⟨h.1, set3_blk h.2.1, own_setblk h.2.2 h.2.1 (by decide)⟩
theorem Bt.drewN {W : World} {base g : Nat} {sz wt since : Int} {v : Value} {ms : List M7} (h : Bt W base g sz wt v since ms) (q : Nat) : Bt (W.drewN q) base g sz wt v since ms := h

/-- What a batch is when a message was put in. -/
def Puts (w : World) (base g : Nat) (sz wt : Int) (v : Value) (since : Int) (ms : List M7) (e : Ending) (w' : World) : Prop :=
  e = .returned (.int .i64 0) ∧ ∃ v', Bt w' base g sz wt v' since ms ∧ Fr g v.ownBlock w w' ∧ New w v.ownBlock v'.ownBlock ∧ Below base w w'

theorem New.old {w w2 : World} {r r2 : Option Nat} (h : New w2 r r2) (hb : w.heap.size ≤ w2.heap.size) : New w r r2 := by
  rcases h with h | h | ⟨k, h, hk⟩
  · exact .inl h
  · exact .inr (.inl h)
  · exact .inr (.inr ⟨k, h, Nat.le_trans hb hk⟩)
theorem Fr.after {g : Nat} {row : Option Nat} {w w2 w3 : World} (hb : Below w.heap.size w w2) (h : Fr g row w2 w3) : Fr g row w w3 := ⟨Nat.le_trans hb.size h.1, fun j o a b c => h.2 j o a b ((hb.block j (lt_blk c)).trans c)⟩

theorem Fr.drewN {g : Nat} {row : Option Nat} {w w2 : World} (h : Fr g row w w2) (q : Nat) : Fr g row w (w2.drewN q) := h
theorem Fr.below' {g : Nat} {row : Option Nat} {w w1 w2 : World} (_ : Fr g row w w1) (hb : Below w.heap.size w w2) : Fr g row w w2 := ⟨hb.size, fun j _ _ _ c => (hb.block j (lt_blk c)).trans c⟩
theorem Fr.then {g : Nat} {row : Option Nat} {w w2 w3 : World} (h : Fr g row w w2) (h2 : Fr g row w2 w3) : Fr g row w w3 := ⟨Nat.le_trans h.1 h2.1, fun j o a b c => h2.2 j o a b (h.2 j o a b c)⟩

set_option maxHeartbeats 2000000 in
theorem add_more {w : World} {base g : Nat} {sz wt since : Int} {v : Value} {ms : List M7} (h : Bt w base g sz wt v since ms) (x : M7) (now : Int) (hm : mright x = true) (hl : ms.length ≤ 1000000) (hp : place ms x ms.length 0 = -1) (hs : (ms.length : Int) < sz) (hn : 0 < ms.length) :
    Calls Try.prog 29 #[.pointer (some ⟨g, 0, none⟩), .agg #[.int .i64 x.k, .int .i64 x.c, .int .i64 x.f, .int .u64 x.s, .int .u64 x.t, .string x.d, .string x.a], .int .u64 now] w (Puts w base g sz wt v since (ms ++ [x])) := by
  have hd := Lib.hid (show decide (place ms x ms.length 0 ≠ -1) = false from decide_eq_false (fun h => h hp))
  obtain ⟨A, c, rfl⟩ := own_formN h.2.2
  obtain ⟨i1, hi1, hy0, hy1, hy2⟩ := info_parts infoM
  clear hp
  have hbase : base ≤ w.heap.size := by have := h.1; have := lt_blk h.2.1; omega
  have HR := Lib.hid (mright_any x)
  have HB := Lib.hid h
  unfold M7.cells at HR
  go_enter Try.func29, Try.ntmps29
  go_wp2_with fail
  refine (HR.out _).mono ?_
  rintro e w1 ⟨rfl, hb1⟩
  rw [hm]
  have H1 := Lib.hid (put_frame HB.out hb1)
  clear hb1
  have hd1 : w.heap.size < w1.heap.size := lt_blk H1.out.2.1
  obtain ⟨b0, b1, b2, b3, b4, b5, b6⟩ := Box.cells H1.out.2.1
  go_wp2_with fail
  refine (has_any H1.out.1 x hl).mono ?_
  rintro e w2 ⟨rfl, hb2⟩
  rw [hd.out]
  have H2 := Lib.hid (And.intro (H1.out.1.below hb2) (And.intro (Box.below H1.out.2.1 hb2) (H1.out.2.2.trans (hb2.mono (Nat.le_of_lt hd1)))))
  clear b0 b1 b2 b3 b4 b5 b6 hd1 hb2
  obtain ⟨c0, c1, c2, c3⟩ := H2.out.1.cells
  have f2 := H2.out.1.free 2
  have hds : decide (sz ≤ (ms.length : Int)) = false := decide_eq_false (by omega)
  have hz : ((ms.length : Int) == 0) = false := by rw [beq_eq_false_iff_ne]; omega
  go_wp2
  go_quiet (fail)
  go_wp2
  obtain ⟨W, hW⟩ : ∃ W : World, W = w2.drewN nq := ⟨_, rfl⟩
  rw [← hW]
  have HW := Lib.hid (show Bt W base g sz wt (.slice A ms.length c) since ms ∧ base ≤ (W.drew.alloc (.cells x.cells TM)).heap.size from ⟨by rw [hW]; exact H2.out.1, by have := H2.out.2.2.size; rw [hW]; simp; omega⟩)
  obtain ⟨b0, b1, b2, b3, b4, b5, b6⟩ := Box.cells (W := W) (by rw [hW]; exact H2.out.2.1)
  obtain ⟨c0, c1, c2, c3⟩ := HW.out.1.cells
  have hgl : g < W.heap.size := lt_blk HW.out.1.2.1
  have hWB := Lib.hid (show Below w.heap.size w W from by rw [hW]; exact below_drewN H2.out.2.2 _)
  clear hW
  go_region_law ((refine step_append_lies _ (by rfl) _ _ _ (by rfl) base 27 i1 _ 7 72 Try.underlying38 hi1 hy0 hy1 hy2 rfl (by decide) _ _ _ (by rfl) (HW.out.1.2.2.alloc _) ⟨W.heap.size, 0, none⟩ 1 1 x.cells.toList (by rfl) rfl (cells7_new _ x _) (cells7_one x) (by decide) (by unfold maxLen; omega) (by omega) (HW.out.2) (W.heap.size + 1) (by simp) ?_; intro g2 cap2 w3 hown2 hg2 hat2 _; obtain ⟨hst1, hst2, hst3⟩ := HW.out.1.put hown2 (grown_drew' hg2) hat2; have HR := Lib.hid hst3; clear hst3 hg2 hown2 hat2))
  all_goals
    go_wp2
    go_ret
    exact ⟨rfl, _, HR.out.1, Fr.after hWB.out HR.out.2.1, New.old HR.out.2.2.1 hWB.out.size, (hWB.out.mono hbase).trans HR.out.2.2.2⟩

set_option maxRecDepth 100000 in
set_option maxHeartbeats 2000000 in
theorem add_first {w : World} {base g : Nat} {sz wt since : Int} {v : Value} {ms : List M7} (h : Bt w base g sz wt v since ms) (x : M7) (now : Int) (hm : mright x = true) (hl : ms.length ≤ 1000000) (hp : place ms x ms.length 0 = -1) (hs : (ms.length : Int) < sz) (hn : ms = []) :
    Calls Try.prog 29 #[.pointer (some ⟨g, 0, none⟩), .agg #[.int .i64 x.k, .int .i64 x.c, .int .i64 x.f, .int .u64 x.s, .int .u64 x.t, .string x.d, .string x.a], .int .u64 now] w (Puts w base g sz wt v now (ms ++ [x])) := by
  have hd := Lib.hid (show decide (place ms x ms.length 0 ≠ -1) = false from decide_eq_false (fun h => h hp))
  obtain ⟨A, c, rfl⟩ := own_formN h.2.2
  obtain ⟨i1, hi1, hy0, hy1, hy2⟩ := info_parts infoM
  clear hp
  have hn0 := Lib.hid hn
  clear hn
  have hbase : base ≤ w.heap.size := by have := h.1; have := lt_blk h.2.1; omega
  have HR := Lib.hid (mright_any x)
  have HB := Lib.hid h
  unfold M7.cells at HR
  go_enter Try.func29, Try.ntmps29
  go_wp2_with fail
  refine (HR.out _).mono ?_
  rintro e w1 ⟨rfl, hb1⟩
  rw [hm]
  have H1 := Lib.hid (put_frame HB.out hb1)
  clear hb1
  have hd1 : w.heap.size < w1.heap.size := lt_blk H1.out.2.1
  obtain ⟨b0, b1, b2, b3, b4, b5, b6⟩ := Box.cells H1.out.2.1
  go_wp2_with fail
  refine (has_any H1.out.1 x hl).mono ?_
  rintro e w2 ⟨rfl, hb2⟩
  rw [hd.out]
  have H2 := Lib.hid (And.intro (H1.out.1.below hb2) (And.intro (Box.below H1.out.2.1 hb2) (H1.out.2.2.trans (hb2.mono (Nat.le_of_lt hd1)))))
  clear b0 b1 b2 b3 b4 b5 b6 hd1 hb2
  obtain ⟨c0, c1, c2, c3⟩ := H2.out.1.cells
  have f2 := H2.out.1.free 2
  have hds : decide (sz ≤ (ms.length : Int)) = false := decide_eq_false (by omega)
  have f3 := H2.out.1.free 3
  have hz : (ms.length : Int) = 0 := by rw [hn0.out]; rfl
  go_wp2
  go_quiet (fail)
  go_wp2
  have hgw : w.heap.size ≠ g := fun e => by have := lt_blk HB.out.2.1; omega
  obtain ⟨W, hW⟩ : ∃ W : World, W = (w2.drewN nq).setCell ⟨g, 3, none⟩ (.int .u64 now) := ⟨_, rfl⟩
  rw [← hW]
  have HW := Lib.hid (show Bt W base g sz wt (.slice A ms.length c) now ms ∧ base ≤ (W.drew.alloc (.cells x.cells TM)).heap.size from ⟨by rw [hW]; exact (H2.out.1.drewN nq).stamp, by have := H2.out.2.2.size; rw [hW]; simp [World.setCell]; omega⟩)
  obtain ⟨b0, b1, b2, b3, b4, b5, b6⟩ := Box.cells (W := W) (by rw [hW]; exact (Below.heap_setCell _ _ _ _ (fun e => hgw e)).trans H2.out.2.1)
  obtain ⟨c0, c1, c2, c3⟩ := HW.out.1.cells
  have hgl : g < W.heap.size := lt_blk HW.out.1.2.1
  have hWB := Lib.hid (show Below base w W from by rw [hW]; exact (below_drewN (H2.out.2.2.mono hbase) _).setCell (p := ⟨g, 3, none⟩) HB.out.1 _)
  have hFW := Lib.hid (show Fr g (Value.slice A ms.length c).ownBlock w W from by rw [hW]; exact (((Fr.refl g _ w).below' H2.out.2.2).drewN nq).set _)
  clear hW
  go_region_law ((refine step_append_lies _ (by rfl) _ _ _ (by rfl) base 27 i1 _ 7 72 Try.underlying38 hi1 hy0 hy1 hy2 rfl (by decide) _ _ _ (by rfl) (HW.out.1.2.2.alloc _) ⟨W.heap.size, 0, none⟩ 1 1 x.cells.toList (by rfl) rfl (cells7_new _ x _) (cells7_one x) (by decide) (by unfold maxLen; omega) (by omega) (HW.out.2) (W.heap.size + 1) (by simp) ?_; intro g2 cap2 w3 hown2 hg2 hat2 _; obtain ⟨hst1, hst2, hst3⟩ := HW.out.1.put hown2 (grown_drew' hg2) hat2; have HR := Lib.hid hst3; clear hst3 hg2 hown2 hat2))
  all_goals
    go_wp2
    go_ret
    exact ⟨rfl, _, HR.out.1, hFW.out.then HR.out.2.1, New.old HR.out.2.2.1 hWB.out.size, hWB.out.trans HR.out.2.2.2⟩
end Go.Proofs.Ytjjomlideieofaa.Msg
