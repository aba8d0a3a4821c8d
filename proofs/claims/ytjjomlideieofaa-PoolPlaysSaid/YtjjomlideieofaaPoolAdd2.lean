/- A pool of transactions: Add, the walks. -/
import Derived.Test.YtjjomlideieofaaPoolAdd
namespace Go.Proofs.Ytjjomlideieofaa.Msg
open Go Go.RowKit

/-- What Add reads. -/
abbrev PA (g H : Nat) (n : Nat) (t : T4) (W : World) : Prop :=
  W.cell? ⟨g, 129, none⟩ = some (.int .i64 (n : Int)) ∧ W.cell? ⟨H, 0, none⟩ = some (.int .i64 t.side) ∧ W.cell? ⟨H, 1, none⟩ = some (.int .i64 t.acc) ∧ W.cell? ⟨H, 2, none⟩ = some (.int .u64 t.n) ∧ W.cell? ⟨H, 3, none⟩ = some (.slice t.A t.len t.cap)
theorem PA.drewN {g H n : Nat} {t : T4} {W : World} (h : PA g H n t W) (q : Nat) : PA g H n t (W.drewN q) := h
theorem PA.drew {g H n : Nat} {t : T4} {W : World} (h : PA g H n t W) : PA g H n t W.drew := h
theorem PA.call {g H n : Nat} {t : T4} {W W1 : World} (h : PA g H n t W) (hb : Below W.heap.size W W1) (h1 : g < W.heap.size) (h2 : H < W.heap.size) : PA g H n t W1 := by
  have hc : ∀ i, W1.cell? ⟨g, i, none⟩ = W.cell? ⟨g, i, none⟩ := fun i => hb.cell (p := ⟨g, i, none⟩) h1
  have hc2 : ∀ i, W1.cell? ⟨H, i, none⟩ = W.cell? ⟨H, i, none⟩ := fun i => hb.cell (p := ⟨H, i, none⟩) h2
  unfold PA
  simp only [hc, hc2]
  exact h
theorem PA.store {g H n K : Nat} {t : T4} {W : World} {a b c d : Value} (h : PA g H n t W) (hne : g ≠ H) (hK : K + 3 < 129) : PA g H n t ((((W.setCell ⟨g, K, none⟩ a).setCell ⟨g, K + 1, none⟩ b).setCell ⟨g, K + 2, none⟩ c).setCell ⟨g, K + 3, none⟩ d) := by
  have e : ∀ (W : World) (o : Nat) (v : Value), o < 129 → PA g H n t W → PA g H n t (W.setCell ⟨g, o, none⟩ v) := fun W o v ho hp =>
    ⟨(World.cell?_setCell_other _ _ _ _ (fun e => by injection e with _ e2; omega)).trans hp.1, (World.cell?_setCell_far _ _ _ _ hne).trans hp.2.1, (World.cell?_setCell_far _ _ _ _ hne).trans hp.2.2.1, (World.cell?_setCell_far _ _ _ _ hne).trans hp.2.2.2.1, (World.cell?_setCell_far _ _ _ _ hne).trans hp.2.2.2.2⟩
  exact e _ _ _ (by omega) (e _ _ _ (by omega) (e _ _ _ (by omega) (e _ _ _ (by omega) h)))

theorem padd_frame {w w1 : World} {t : T4} (hb : Below (w.alloc (.cells #[.int .i64 t.side, .int .i64 t.acc, .int .u64 t.n, .slice t.A t.len t.cap] TT)).heap.size (w.alloc (.cells #[.int .i64 t.side, .int .i64 t.acc, .int .u64 t.n, .slice t.A t.len t.cap] TT)) w1) : w1.heap[w.heap.size]? = some (.cells #[.int .i64 t.side, .int .i64 t.acc, .int .u64 t.n, .slice t.A t.len t.cap] TT (0, 0)) ∧ Below w.heap.size w w1 :=
  ⟨(hb.block w.heap.size (by simp)).trans (heap_alloc_new w _), ((Below.refl _ _).alloc (Nat.le_refl _) _).trans (hb.mono (by simp))⟩

set_option maxHeartbeats 2000000 in
theorem padd_bad {w : World} {g : Nat} (t : T4) (hr : Rd w t.A t.len t.ms) (hl : t.len ≤ 1000000) (hm : txright t.side t.acc t.ms = false) :
    Calls Try.prog 12 #[.pointer (some ⟨g, 0, none⟩), .agg #[.int .i64 t.side, .int .i64 t.acc, .int .u64 t.n, .slice t.A t.len t.cap]] w fun e w' => e = .returned (.int .i64 1) ∧ Below w.heap.size w w' := by
  have HR := Lib.hid (hr.below (show Below w.heap.size w (w.alloc (.cells #[.int .i64 t.side, .int .i64 t.acc, .int .u64 t.n, .slice t.A t.len t.cap] TT)) from (Below.refl _ _).alloc (Nat.le_refl _) _))
  go_enter Try.func12, Try.ntmps12
  go_wp2_with fail
  refine (txright_any t.side t.acc t.n t.A t.len t.cap t.ms _ HR.out (by omega)).mono ?_
  rintro e w1 ⟨rfl, hb⟩
  rw [hm]
  have H1 := Lib.hid (padd_frame hb)
  clear hb
  go_wp2
  go_ret
  exact ⟨rfl, H1.out.2⟩

set_option maxHeartbeats 2000000 in
theorem padd_full {w : World} {base g first : Nat} {most : Int} {ts : List T4} (h : Pl w base g first most ts) (t : T4) (hr : Rd w t.A t.len t.ms) (hl : t.len ≤ 1000000) (hm : txright t.side t.acc t.ms = true) (hf : most ≤ (ts.length : Int)) :
    Calls Try.prog 12 #[.pointer (some ⟨g, 0, none⟩), .agg #[.int .i64 t.side, .int .i64 t.acc, .int .u64 t.n, .slice t.A t.len t.cap]] w fun e w' => e = .returned (.int .i64 6) ∧ Below w.heap.size w w' := by
  have HR := Lib.hid (hr.below (show Below w.heap.size w (w.alloc (.cells #[.int .i64 t.side, .int .i64 t.acc, .int .u64 t.n, .slice t.A t.len t.cap] TT)) from (Below.refl _ _).alloc (Nat.le_refl _) _))
  have HP := Lib.hid h
  clear h
  go_enter Try.func12, Try.ntmps12
  go_wp2_with fail
  refine (txright_any t.side t.acc t.n t.A t.len t.cap t.ms _ HR.out (by omega)).mono ?_
  rintro e w1 ⟨rfl, hb⟩
  rw [hm]
  have H1 := Lib.hid (padd_frame hb)
  obtain ⟨c0, c1, c2⟩ := (HP.out.below H1.out.2).cells
  have hds : decide (most ≤ (ts.length : Int)) = true := decide_eq_true hf
  clear hb
  go_wp2
  go_quiet (fail)
  go_wp2
  go_ret
  exact ⟨rfl, below_drewN H1.out.2 _⟩

def PAdd (w : World) (base g first : Nat) (most : Int) (ts : List T4) (t : T4) (e : Ending) (w' : World) : Prop :=
  e = .returned (.int .i64 0) ∧ ∃ A c, Pl w' base g first most (ts ++ [⟨t.side, t.acc, t.n, A, t.len, c, t.ms⟩]) ∧ KM w w' ∧ Only g w w' ∧ Below base w w'

set_option maxRecDepth 100000 in
set_option maxHeartbeats 4000000 in
theorem padd_ok {w : World} {base g first : Nat} {most : Int} {ts : List T4} (h : Pl w base g first most ts) (t : T4) (hr : Rd w t.A t.len t.ms) (hl : t.len ≤ 1000000) (hm : txright t.side t.acc t.ms = true) (hf : (ts.length : Int) < most) (hm32 : most ≤ 32) :
    Calls Try.prog 12 #[.pointer (some ⟨g, 0, none⟩), .agg #[.int .i64 t.side, .int .i64 t.acc, .int .u64 t.n, .slice t.A t.len t.cap]] w (PAdd w base g first most ts t) := by
  have HR := Lib.hid (hr.below (show Below w.heap.size w (w.alloc (.cells #[.int .i64 t.side, .int .i64 t.acc, .int .u64 t.n, .slice t.A t.len t.cap] TT)) from (Below.refl _ _).alloc (Nat.le_refl _) _))
  have HR0 := Lib.hid hr
  have HP := Lib.hid h
  have hgw := h.g_lt
  have hbg := h.hg
  clear h hr
  go_enter Try.func12, Try.ntmps12
  go_wp2_with fail
  refine (txright_any t.side t.acc t.n t.A t.len t.cap t.ms _ HR.out (by omega)).mono ?_
  rintro e w1 ⟨rfl, hb⟩
  rw [hm]
  have H1 := Lib.hid (padd_frame hb)
  have hP1 := Lib.hid (HP.out.below H1.out.2)
  obtain ⟨c0, c1, c2⟩ := hP1.out.cells
  have hds : decide (most ≤ (ts.length : Int)) = false := decide_eq_false (by omega)
  clear hb
  go_wp2
  go_quiet (fail)
  go_wp2
  obtain ⟨W, hW⟩ : ∃ W : World, W = w1.drewN nq := ⟨_, rfl⟩
  rw [← hW]
  obtain ⟨K, hK⟩ : ∃ K, K = (first + ts.length) % 32 * 4 := ⟨_, rfl⟩
  have hPW : Pl W base g first most ts := by rw [hW]; exact ⟨hP1.out.hg, hP1.out.lt, hP1.out.le, hP1.out.blk, hP1.out.rows⟩
  have HW := Lib.hid (show Pl W base g first most ts ∧ Below w.heap.size w W ∧ W.heap[w.heap.size]? = some (.cells #[.int .i64 t.side, .int .i64 t.acc, .int .u64 t.n, .slice t.A t.len t.cap] TT (0, 0)) from ⟨hPW, by rw [hW]; exact below_drewN H1.out.2 _, by rw [hW]; exact H1.out.1⟩)
  obtain ⟨x0, x1, x2, x3⟩ := tx_cells HW.out.2.2
  have hPA : PA g w.heap.size ts.length t W := ⟨hPW.cells.2.1, x0, x1, x2, x3⟩
  have hgW : g < W.heap.size := hPW.g_lt
  have hHW : w.heap.size < W.heap.size := lt_blk HW.out.2.2
  have hgne : g ≠ w.heap.size := by omega
  have HPl := Lib.hid (place_any (w := W.drew) (show Pl W.drew base g first most ts from ⟨hPW.hg, hPW.lt, hPW.le, hPW.blk, hPW.rows⟩) ts.length (by have := hPW.le; exact this))
  rw [← hK] at HPl
  have HOw := Lib.hid fun (q : Nat) => own_any t (W.drewN q) (show Rd (W.drewN q) t.A t.len t.ms from HR0.out.below (below_drewN HW.out.2.1 q)) hl
  have hK3 : K + 3 < 128 := by omega
  have hKK := Lib.hid hK
  have hlen : ts.length < 32 := by omega
  clear hW hK hPW c0 c1 c2 x0 x1 x2 x3
  obtain ⟨n, hn⟩ : ∃ n, n = ts.length := ⟨_, rfl⟩
  rw [← hn] at hPA hlen HPl
  have HN := Lib.hid hn
  clear hn hf hds
  go_region_held3 (fun W => W.cell? ⟨g, 129, none⟩ = some (.int .i64 (n : Int)) ∧ W.cell? ⟨w.heap.size, 0, none⟩ = some (.int .i64 t.side) ∧ W.cell? ⟨w.heap.size, 1, none⟩ = some (.int .i64 t.acc) ∧ W.cell? ⟨w.heap.size, 2, none⟩ = some (.int .u64 t.n) ∧ W.cell? ⟨w.heap.size, 3, none⟩ = some (.slice t.A t.len t.cap))
    (first | (with_reducible assumption) | (with_reducible exact hPA) | (with_reducible exact hPO) | (with_reducible exact PA.drew hPA) | (with_reducible exact PA.drewN hPA _) | (with_reducible exact PA.store hPO hgne (by omega)))
    (first
      | (go_at_call 55; ((with_reducible refine HPl.out.mono ?_); rintro e wp ⟨rfl, q2, rfl⟩))
      | (go_at_call 54; ((with_reducible refine (HOw.out _).mono ?_); rintro e wo ⟨Ao, co, rfl, hoO, hbO⟩; have hPO := PA.call (PA.drewN hPA (1 + q2)) hbO hgW hHW; have hPlo := Pl.below (W := W.drewN (1 + q2)) (W1 := wo) (show Pl (W.drewN (1 + q2)) base g first most ts from ⟨HW.out.1.hg, HW.out.1.lt, HW.out.1.le, HW.out.1.blk, HW.out.1.rows⟩) hbO; obtain ⟨v0, e0⟩ := hPlo.there K (by omega); obtain ⟨v1, e1⟩ := hPlo.there (K + 1) (by omega); obtain ⟨v2, e2⟩ := hPlo.there (K + 2) (by omega); obtain ⟨v3, e3⟩ := hPlo.there (K + 3) (by omega); have f0 := hPlo.free K; have f1 := hPlo.free (K + 1); have f2 := hPlo.free (K + 2); have f3 := hPlo.free (K + 3); have f9 := hPlo.free 129)))
  have HH := Lib.hid (And.intro hPlo (And.intro hoO hbO))
  have hn1 : IntKind.i64.wrap ((n : Int) + 1) = (n : Int) + 1 := IntWalk.i64_in _ (by omega)
  clear hPlo hoO hbO hPO
  go_wp2
  go_ret
  have hrow := own_base HH.out.2.1 (show base ≤ _ by have := HW.out.2.1.size; simp; omega)
  have hput := Pl.put (t := ⟨t.side, t.acc, t.n, Ao, t.len, co, t.ms⟩) HH.out.1 (by have := HN.out; omega) hKK.out hrow
  rw [← HN.out] at hput
  obtain ⟨cs, hcs, _⟩ := HH.out.1.blk
  have b1 := set_pool (i := K) (v := .int .i64 t.side) hcs
  have b2 := set_pool (i := K + 1) (v := .int .i64 t.acc) b1
  have b3 := set_pool (i := K + 2) (v := .int .u64 t.n) b2
  have b4 := set_pool (i := K + 3) (v := .slice Ao t.len co) b3
  have hbw : Below w.heap.size w wo := HW.out.2.1.trans ((below_drewN (Below.refl _ W) (1 + q2)).trans HH.out.2.2 |>.mono HW.out.2.1.size)
  refine ⟨rfl, Ao, co, hput, ?_, ?_, ?_⟩
  · exact km_pool b4 (km_pool b3 (km_pool b2 (km_pool b1 (km_pool hcs (KM.below hbw)))))
  · exact ((((Only.below hbw).set _).set _ |>.set _).set _).set _
  · exact (((((hbw.mono (by omega)).setCell (p := ⟨g, K, none⟩) hbg _).setCell (p := ⟨g, K + 1, none⟩) hbg _).setCell (p := ⟨g, K + 2, none⟩) hbg _).setCell (p := ⟨g, K + 3, none⟩) hbg _).setCell (p := ⟨g, 129, none⟩) hbg _
end Go.Proofs.Ytjjomlideieofaa.Msg
