/- The page's pool of transactions: Add, Waiting. -/
import Derived.Test.YtjjomlideieofaaPoolOwnLaw
import Derived.Deep.RegionLaw
namespace Go.Proofs.Ytjjomlideieofaa.Msg
open Go Go.RowKit

abbrev TR1 : Nat := 36

/-- At block g stands the page's pool. -/
structure Rp (W : World) (base g : Nat) (most : Int) (A : Option Addr) (c : Nat) (qs : List T4) : Prop where
  hg : base ≤ g
  blk : W.heap[g]? = some (.cells #[.slice A qs.length c, .int .i64 most] TR1 (0, 0))
  row : W.ownsRow base TT 4 (.slice A qs.length c) qs.length (tcells qs)
section
variable {W W1 : World} {base g c : Nat} {most : Int} {A : Option Addr} {qs : List T4}
theorem Rp.below (h : Rp W base g most A c qs) (hb : Below W.heap.size W W1) : Rp W1 base g most A c qs := ⟨h.hg, (hb.block g (lt_blk h.blk)).trans h.blk, own_below h.row hb⟩
theorem Rp.cells (h : Rp W base g most A c qs) : W.cell? ⟨g, 0, none⟩ = some (.slice A qs.length c) ∧ W.cell? ⟨g, 1, none⟩ = some (.int .i64 most) := ⟨cell_of_row _ _ 0 _ _ _ h.blk, cell_of_row _ _ 1 _ _ _ h.blk⟩
theorem Rp.free (h : Rp W base g most A c qs) (i : Nat) : W.frozen? ⟨g, i, none⟩ = false := by simp [World.frozen?, h.blk]
theorem Rp.drewN (h : Rp W base g most A c qs) (q : Nat) : Rp (W.drewN q) base g most A c qs := ⟨h.hg, h.blk, h.row⟩
theorem Rp.drew (h : Rp W base g most A c qs) : Rp W.drew base g most A c qs := ⟨h.hg, h.blk, h.row⟩
theorem Rp.rdx (h : Rp W base g most A c qs) : RdX W A qs.length qs := rowX h.row rfl
end

theorem grown_drewR {W W' : World} {r : Option Nat} (h : W.drew.grownBy W' r) : W.grownBy W' r := ⟨h.os, h.tape, h.output, h.size, h.block⟩
/-- What is neither the page's pool nor a row of transactions stands as it stood. -/
def KN (W W' : World) : Prop := W.heap.size ≤ W'.heap.size ∧ ∀ (j : Nat) (cs : Array Value) (T : Nat) (fr : Nat × Nat), T ≠ TR1 → T ≠ TT → W.heap[j]? = some (.cells cs T fr) → W'.heap[j]? = some (.cells cs T fr)
section
variable {W W1 W2 : World}
theorem KN.refl (W : World) : KN W W := ⟨Nat.le_refl _, fun _ _ _ _ _ _ h => h⟩
theorem KN.trans (h : KN W W1) (k : KN W1 W2) : KN W W2 := ⟨Nat.le_trans h.1 k.1, fun j cs T fr a b hh => k.2 j cs T fr a b (h.2 j cs T fr a b hh)⟩
theorem KN.below (h : Below W.heap.size W W1) : KN W W1 := ⟨h.size, fun j _ _ _ _ _ hh => (h.block j (lt_blk hh)).trans hh⟩
theorem KN.km (h : KN W W1) : KM W W1 := ⟨h.1, fun j cs fr hh => h.2 j cs TM fr (by decide) (by decide) hh⟩
theorem KN.set {g i : Nat} {cs : Array Value} {fr : Nat × Nat} (hb : W.heap[g]? = some (.cells cs TR1 fr)) (v : Value) : KN W (W.setCell ⟨g, i, none⟩ v) := ⟨by simp [World.setCell], fun j cs' T fr' hT _ hh => by
  refine (Below.heap_setCell _ _ _ _ (fun e => ?_)).trans hh
  subst e
  rw [hh] at hb
  injection hb with hb
  injection hb with _ ht
  exact hT ht⟩
theorem KN.grown {base n size : Nat} {v : Value} {xs : List Value} (h : W.ownsRow base TT size v n xs) (hg : W.grownBy W1 v.ownBlock) : KN W W1 := ⟨hg.size, fun j cs T fr _ hT hh => by
  refine (hg.block j (lt_blk hh) fun heq => ?_).trans hh
  obtain ⟨cs', fr', ho⟩ := own_blk_type h heq.symm hh
  injection ho with _ ht
  exact hT ht⟩
theorem KN.pl {base g first : Nat} {most : Int} {ts : List T4} (h : KN W W1) (hp : Pl W base g first most ts) : Pl W1 base g first most ts := by
  obtain ⟨cs, hb, _⟩ := hp.blk
  exact hp.same ((h.2 g cs TP (0, 0) (by decide) (by decide) hb).trans hb.symm) h.km
end

set_option maxHeartbeats 2000000 in
theorem radd_bad {w : World} {g : Nat} (t : T4) (hr : Rd w t.A t.len t.ms) (hl : t.len ≤ 1000000) (hm : txright t.side t.acc t.ms = false) :
    Calls Try.prog 13 #[.pointer (some ⟨g, 0, none⟩), .agg #[.int .i64 t.side, .int .i64 t.acc, .int .u64 t.n, .slice t.A t.len t.cap]] w fun e w' => e = .returned (.int .i64 1) ∧ Below w.heap.size w w' := by
  have HR := Lib.hid (hr.below (show Below w.heap.size w (w.alloc (.cells #[.int .i64 t.side, .int .i64 t.acc, .int .u64 t.n, .slice t.A t.len t.cap] TT)) from (Below.refl _ _).alloc (Nat.le_refl _) _))
  obtain ⟨x0, x1, x2, x3⟩ := tx_cells (heap_alloc_new w (.cells #[.int .i64 t.side, .int .i64 t.acc, .int .u64 t.n, .slice t.A t.len t.cap] TT))
  go_enter Try.func13, Try.ntmps13
  go_wp2_with fail
  refine (rtxright_any t.side t.acc t.n t.A t.len t.cap t.ms _ HR.out (by omega)).mono ?_
  rintro e w1 ⟨rfl, hb⟩
  rw [hm]
  have H1 := Lib.hid (padd_frame hb)
  clear hb
  go_wp2
  go_ret
  exact ⟨rfl, H1.out.2⟩

set_option maxHeartbeats 2000000 in
theorem radd_full {w : World} {base g c : Nat} {most : Int} {A : Option Addr} {qs : List T4} (h : Rp w base g most A c qs) (t : T4) (hr : Rd w t.A t.len t.ms) (hl : t.len ≤ 1000000) (hm : txright t.side t.acc t.ms = true) (hf : most ≤ (qs.length : Int)) :
    Calls Try.prog 13 #[.pointer (some ⟨g, 0, none⟩), .agg #[.int .i64 t.side, .int .i64 t.acc, .int .u64 t.n, .slice t.A t.len t.cap]] w fun e w' => e = .returned (.int .i64 6) ∧ Below w.heap.size w w' := by
  have HR := Lib.hid (hr.below (show Below w.heap.size w (w.alloc (.cells #[.int .i64 t.side, .int .i64 t.acc, .int .u64 t.n, .slice t.A t.len t.cap] TT)) from (Below.refl _ _).alloc (Nat.le_refl _) _))
  obtain ⟨x0, x1, x2, x3⟩ := tx_cells (heap_alloc_new w (.cells #[.int .i64 t.side, .int .i64 t.acc, .int .u64 t.n, .slice t.A t.len t.cap] TT))
  have HP := Lib.hid h
  clear h
  go_enter Try.func13, Try.ntmps13
  go_wp2_with fail
  refine (rtxright_any t.side t.acc t.n t.A t.len t.cap t.ms _ HR.out (by omega)).mono ?_
  rintro e w1 ⟨rfl, hb⟩
  rw [hm]
  have H1 := Lib.hid (padd_frame hb)
  obtain ⟨c0, c1⟩ := (HP.out.below H1.out.2).cells
  have hds : decide (most ≤ (qs.length : Int)) = true := decide_eq_true hf
  clear hb x0 x1 x2 x3
  go_wp2
  go_quiet (fail)
  go_wp2
  go_ret
  exact ⟨rfl, below_drewN H1.out.2 _⟩

def RAdd (w : World) (base g : Nat) (most : Int) (qs : List T4) (t : T4) (e : Ending) (w' : World) : Prop :=
  e = .returned (.int .i64 0) ∧ ∃ A c, Rp w' base g most A c (qs ++ [t]) ∧ KN w w' ∧ Below base w w'

theorem Rp.put {W w3 : World} {base g c g2 cap2 : Nat} {most : Int} {A : Option Addr} {qs : List T4} {t : T4} (h : Rp W base g most A c qs)
    (hown : w3.ownsRow base TT 4 (.slice (some ⟨g2, 0, none⟩) (qs.length + 1) cap2) (qs.length + 1) (tcells qs ++ t.cells.toList)) (hg : (W.alloc (.cells t.cells TT)).grownBy w3 (Value.slice A qs.length c).ownBlock) :
    w3.cell? ⟨g, 0, none⟩ = some (.slice A qs.length c) ∧ w3.frozen? ⟨g, 0, none⟩ = false ∧ Rp (w3.setCell ⟨g, 0, none⟩ (.slice (some ⟨g2, 0, none⟩) (qs.length + 1) cap2)) base g most (some ⟨g2, 0, none⟩) cap2 (qs ++ [t]) ∧
    KN W (w3.setCell ⟨g, 0, none⟩ (.slice (some ⟨g2, 0, none⟩) (qs.length + 1) cap2)) ∧ Below base W (w3.setCell ⟨g, 0, none⟩ (.slice (some ⟨g2, 0, none⟩) (qs.length + 1) cap2)) := by
  have hlt := lt_blk h.blk
  have hne : some g ≠ (Value.slice A qs.length c).ownBlock := fun e => by
    obtain ⟨cs, fr, ho⟩ := own_blk_type h.row e.symm h.blk
    injection ho with _ ht
    exact absurd ht (by decide)
  have hb3 : w3.heap[g]? = some (.cells #[.slice A qs.length c, .int .i64 most] TR1 (0, 0)) := (hg.block g (by simp; omega) hne).trans ((Below.heap_alloc _ _ _ hlt).trans h.blk)
  have hbel : Below base W w3 := ((Below.refl _ _).alloc (by have := h.hg; omega) _).grown hg (by have := h.hg; simp; omega) (own_ge h.row)
  have hk : KN W w3 := (KN.below ((Below.refl _ W).alloc (Nat.le_refl _) (.cells t.cells TT))).trans (KN.grown (h.row.alloc _) hg)
  refine ⟨cell_of_row _ _ 0 _ _ _ hb3, by simp [World.frozen?, hb3], ⟨h.hg, ?_, ?_⟩, hk.trans (KN.set hb3 _), hbel.setCell (p := ⟨g, 0, none⟩) h.hg _⟩
  · rw [List.length_append, List.length_singleton]
    simp [World.setCell, Array.getElem?_modify, hb3]
  · rw [List.length_append, List.length_singleton, tcells_snoc]
    exact own_setblk hown hb3 (by decide)

set_option maxRecDepth 100000 in
set_option maxHeartbeats 4000000 in
theorem radd_ok {w : World} {base g c : Nat} {most : Int} {A : Option Addr} {qs : List T4} (h : Rp w base g most A c qs) (t : T4) (hr : Rd w t.A t.len t.ms) (hl : t.len ≤ 1000000) (hm : txright t.side t.acc t.ms = true) (hf : (qs.length : Int) < most) (hm32 : most ≤ 32) :
    Calls Try.prog 13 #[.pointer (some ⟨g, 0, none⟩), .agg #[.int .i64 t.side, .int .i64 t.acc, .int .u64 t.n, .slice t.A t.len t.cap]] w (RAdd w base g most qs t) := by
  obtain ⟨i1, hi1, hy0, hy1, hy2⟩ := info_parts infoT
  have HR := Lib.hid (hr.below (show Below w.heap.size w (w.alloc (.cells #[.int .i64 t.side, .int .i64 t.acc, .int .u64 t.n, .slice t.A t.len t.cap] TT)) from (Below.refl _ _).alloc (Nat.le_refl _) _))
  obtain ⟨x0, x1, x2, x3⟩ := tx_cells (heap_alloc_new w (.cells #[.int .i64 t.side, .int .i64 t.acc, .int .u64 t.n, .slice t.A t.len t.cap] TT))
  have HP := Lib.hid h
  have hbase : base ≤ w.heap.size := by have := h.hg; have := lt_blk h.blk; omega
  clear h
  go_enter Try.func13, Try.ntmps13
  go_wp2_with fail
  refine (rtxright_any t.side t.acc t.n t.A t.len t.cap t.ms _ HR.out (by omega)).mono ?_
  rintro e w1 ⟨rfl, hb⟩
  rw [hm]
  have H1 := Lib.hid (padd_frame hb)
  obtain ⟨c0, c1⟩ := (HP.out.below H1.out.2).cells
  have hds : decide (most ≤ (qs.length : Int)) = false := decide_eq_false (by omega)
  clear hb x0 x1 x2 x3
  go_wp2
  go_quiet (fail)
  go_wp2
  obtain ⟨W, hW⟩ : ∃ W : World, W = w1.drewN nq := ⟨_, rfl⟩
  rw [← hW]
  have HW := Lib.hid (show Rp W base g most A c qs ∧ base ≤ (W.drew.alloc (.cells t.cells TT)).heap.size from ⟨by rw [hW]; exact (HP.out.below H1.out.2).drewN _, by have := H1.out.2.size; rw [hW]; simp; omega⟩)
  obtain ⟨x0, x1, x2, x3⟩ := tx_cells (W := W) (by rw [hW]; exact H1.out.1)
  obtain ⟨c0, c1⟩ := HW.out.1.cells
  have hgl : g < W.heap.size := lt_blk HW.out.1.blk
  have hHl : w.heap.size < W.heap.size := by rw [hW]; exact lt_blk H1.out.1
  have hWB := Lib.hid (show Below w.heap.size w W from by rw [hW]; exact below_drewN H1.out.2 _)
  have hq32 : qs.length ≤ 32 := by omega
  clear hW
  go_region_law ((refine step_append_lies _ (by rfl) _ _ _ (by rfl) base 40 i1 _ 4 48 Try.underlying34 hi1 hy0 hy1 hy2 rfl (by decide) _ _ _ (by rfl) (HW.out.1.row.alloc _) ⟨W.heap.size, 0, none⟩ 1 1 t.cells.toList (by rfl) rfl (cells4_new _ t _) (cells4_one t) (by decide) (by unfold maxLen; omega) (by omega) (HW.out.2) (W.heap.size + 1) (by simp) ?_; intro g2 cap2 w3 hown2 hg2 hat2 _; obtain ⟨hst1, hst2, hst3⟩ := HW.out.1.put (t := t) hown2 (grown_drewR hg2); have HR := Lib.hid hst3; clear hst3 hg2 hown2 hat2))
  all_goals
    go_wp2
    go_ret
    exact ⟨rfl, _, _, HR.out.1, (KN.below hWB.out).trans HR.out.2.1, (hWB.out.mono hbase).trans HR.out.2.2⟩
end Go.Proofs.Ytjjomlideieofaa.Msg
