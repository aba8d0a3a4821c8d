/- event.Only. -/
import Derived.Test.YtnidafgjbocfcaaEventFind
import Derived.Maps.AppendAt
import Derived.RangeFuncBox
namespace Go.Proofs.Ytnidafgjbocfcaa.Ev
open Go Go.RowKit Go.Shelf
attribute [local go_sem] Oper.semAt_some

/-- Events one behind the other. -/
def evs (ms : List E8) : List Value := ms.flatMap fun m => m.cells.toList

theorem evs_snoc (ms : List E8) (m : E8) : evs (ms ++ [m]) = evs ms ++ m.cells.toList := by simp [evs]

theorem evs_at : ∀ (ms : List E8) (i j : Nat), i < ms.length → j < 8 → (evs ms)[i * 8 + j]? = ((ms.getD i e0).cells)[j]?
  | [], i, j, h, _ => absurd h (by simp)
  | m :: ms, 0, j, _, hj => by
    show (m.cells.toList ++ evs ms)[0 * 8 + j]? = _
    rw [List.getElem?_append_left (by simp [E8.cells]; omega)]
    simp
  | m :: ms, i + 1, j, h, hj => by
    show (m.cells.toList ++ evs ms)[(i + 1) * 8 + j]? = _
    rw [List.getElem?_append_right (by simp [E8.cells]; omega)]
    have := evs_at ms i j (by simpa using h) hj
    rw [show (i + 1) * 8 + j - m.cells.toList.length = i * 8 + j from by simp [E8.cells]; omega, this]
    simp

theorem row_at {w : World} {base n c : Nat} {A : Option Addr} {ms : List E8} (h : w.ownsRow base 40 8 (.slice A n c) n (evs ms)) (hn : ms.length = n) : Rd w A n ms := by
  refine ⟨hn, fun hl => ?_⟩
  rcases h.2 with ⟨_, h0⟩ | ⟨g, cap, cur, hv, _, hh, hc, _, hsz, htk⟩
  · omega
  · injection hv with hA _ hcc
    subst hA hcc
    refine ⟨g, 0, rfl, lt_blk hh, fun i hi j v hv => ?_⟩
    have hj : j < 8 := by
      have := (Array.getElem?_eq_some_iff.1 hv).1
      simpa [E8.cells] using this
    rw [cell_of_row w g _ cur _ (0, 0) hh, ← Array.getElem?_toList]
    have h1 : (cur.toList.take (n * 8))[0 + i * 8 + j]? = cur.toList[0 + i * 8 + j]? := List.getElem?_take_of_lt (by omega)
    rw [← h1, htk, Nat.zero_add, evs_at ms i j (by omega) hj, hv]

theorem own_form8 {w : World} {base e n size : Nat} {v : Value} {xs : List Value} (h : w.ownsRow base e size v n xs) : ∃ A c, v = .slice A n c := by
  rcases h.2 with ⟨rfl, rfl⟩ | ⟨g, cap, cur, rfl, _⟩
  · exact ⟨none, 0, rfl⟩
  · exact ⟨_, _, rfl⟩

/-- Of those that have come, the ones of a channel that are sent on a ledger. -/
def selp (ch fr : Int) (pre : List (Nat × E8)) : List E8 := (pre.filter fun y => y.2.c == ch && y.2.f == fr).map (·.2)
theorem selp_yes {ch fr : Int} {pre : List (Nat × E8)} {x : Nat × E8} (h1 : (x.2.c == ch) = true) (h2 : (x.2.f == fr) = true) : selp ch fr (pre ++ [x]) = selp ch fr pre ++ [x.2] := by simp [selp, List.filter_append, h1, h2]
theorem selp_no1 {ch fr : Int} {pre : List (Nat × E8)} {x : Nat × E8} (h1 : (x.2.c == ch) = false) : selp ch fr (pre ++ [x]) = selp ch fr pre := by simp [selp, List.filter_append, h1]
theorem selp_no2 {ch fr : Int} {pre : List (Nat × E8)} {x : Nat × E8} (h2 : (x.2.f == fr) = false) : selp ch fr (pre ++ [x]) = selp ch fr pre := by simp [selp, List.filter_append, h2]
theorem selp_len (ch fr : Int) (pre : List (Nat × E8)) : (selp ch fr pre).length ≤ pre.length := by
  unfold selp
  rw [List.length_map]
  exact List.length_filter_le _ _

theorem infoE : (Try.prog.info? 40).map (fun i => (i.zero, i.size, i.bytes)) = some (some (.agg #[.int .i64 0, .int .u64 0, .int .i64 0, .int .i64 0, .int .u64 0, .int .u64 0, .string ⟨#[]⟩, .string ⟨#[]⟩]), 8, 80) := by kernel_rfl

theorem cells8_new (w : World) (m : E8) (t : TypeId) : ∀ j u, (m.cells.toList)[j]? = some u → (w.alloc (.cells m.cells t)).cell? ((⟨w.heap.size, 0, none⟩ : Addr).add j) = some u := by
  intro j u hj
  have : (⟨w.heap.size, 0, none⟩ : Addr).add j = ⟨w.heap.size, j, none⟩ := by unfold Addr.add; by_cases h : j = 0 <;> simp [h]
  rw [this, cell_of_row _ _ _ _ _ (0, 0) (heap_alloc_new w _), ← Array.getElem?_toList]
  exact hj

theorem cells8_one (m : E8) : ∀ u ∈ m.cells.toList, u.oneCell' = true := by
  intro u hu
  simp [E8.cells] at hu
  rcases hu with rfl | rfl | rfl | rfl | rfl | rfl | rfl | rfl <;> rfl

set_option maxRecDepth 100000 in
set_option maxHeartbeats 2000000 in
theorem only_any (A : Option Addr) (len cap : Nat) (es : List E8) (kind ch fr : Int) (w : World) (hr : Rd w A len es) (hlen : len ≤ 1000000) :
    Calls Try.prog 17 #[.slice A len cap, .int .i64 kind, .int .i64 ch, .int .i64 fr] w fun e w' => (∃ u, e = .returned u ∧ w'.ownsRow w.heap.size 40 8 u (selp ch fr (comes es kind len)).length (evs (selp ch fr (comes es kind len)))) ∧ Below w.heap.size w w' := by
  obtain ⟨i0, hi, hz0, hz1, hz2⟩ := info_parts infoE
  refine (callsIn_wide (n := 6)).1 ?_
  refine callsIn_of_wp_marks Try.func17 rfl trivial ?_
  simp only [Try.ntmps17, List.size_toArray, List.length_cons, List.length_nil, Nat.reduceAdd, Nat.reduceSub, Array.replicate_succ, Array.replicate_zero, List.push_toArray, List.append_toArray, List.nil_append, List.cons_append]
  gi_wp2_with (refine ⟨trivial, ?_⟩; gi_at_call 50; refine (callsIn_wide.2 (of_any _ _ _ _ _)).mono ?_; rintro e w' ⟨rfl, rfl⟩)
  have hB0 : Below w.heap.size w (((((w.alloc (.cells #[.int .i64 ch] 3)).alloc (.cells #[.int .i64 fr] 3)).alloc (.cells #[.slice none 0 0] 36)).alloc (.cells #[.slice A len cap] 36)).alloc (.cells #[.int .i64 kind] 3)) := (((((Below.refl _ w).alloc (Nat.le_refl _) _).alloc (by simp) _).alloc (by simp; omega) _).alloc (by simp; omega) _).alloc (by simp; omega) _
  have hsz : (((((w.alloc (.cells #[.int .i64 ch] 3)).alloc (.cells #[.int .i64 fr] 3)).alloc (.cells #[.slice none 0 0] 36)).alloc (.cells #[.slice A len cap] 36)).alloc (.cells #[.int .i64 kind] 3)).heap.size = w.heap.size + 5 := by simp
  have bC := ((((Boxed.new w 3 (.int .i64 ch)).alloc (.cells #[.int .i64 fr] 3)).alloc (.cells #[.slice none 0 0] 36)).alloc (.cells #[.slice A len cap] 36)).alloc (.cells #[.int .i64 kind] 3)
  have bF := (((Boxed.new (w.alloc (.cells #[.int .i64 ch] 3)) 3 (.int .i64 fr)).alloc (.cells #[.slice none 0 0] 36)).alloc (.cells #[.slice A len cap] 36)).alloc (.cells #[.int .i64 kind] 3)
  have bO := ((Boxed.new ((w.alloc (.cells #[.int .i64 ch] 3)).alloc (.cells #[.int .i64 fr] 3)) 36 (.slice none 0 0)).alloc (.cells #[.slice A len cap] 36)).alloc (.cells #[.int .i64 kind] 3)
  have bL := (Boxed.new (((w.alloc (.cells #[.int .i64 ch] 3)).alloc (.cells #[.int .i64 fr] 3)).alloc (.cells #[.slice none 0 0] 36)) 36 (.slice A len cap)).alloc (.cells #[.int .i64 kind] 3)
  have bN := Boxed.new ((((w.alloc (.cells #[.int .i64 ch] 3)).alloc (.cells #[.int .i64 fr] 3)).alloc (.cells #[.slice none 0 0] 36)).alloc (.cells #[.slice A len cap] 36)) 3 (.int .i64 kind)
  simp only [World.size_alloc] at bC bF bO bL bN
  obtain ⟨W0, hW0⟩ : ∃ W0, ((((w.alloc (.cells #[.int .i64 ch] 3)).alloc (.cells #[.int .i64 fr] 3)).alloc (.cells #[.slice none 0 0] 36)).alloc (.cells #[.slice A len cap] 36)).alloc (.cells #[.int .i64 kind] 3) = W0 := ⟨_, rfl⟩
  rw [hW0] at hB0 hsz bC bF bO bL bN ⊢
  clear hW0
  refine wpIn_rangeFunc_ownH rfl (by decide) (gf := 72) (lb := #[.pointer (some ⟨w.heap.size + 1 + 1 + 1, 0, none⟩), .pointer (some ⟨w.heap.size + 1 + 1 + 1 + 1, 0, none⟩)]) rfl trivial (enters_of Try.func72 (by kernel_rfl) rfl)
    (of_stops 5 (by decide) (w.heap.size + 1 + 1 + 1) (w.heap.size + 1 + 1 + 1 + 1) A len cap es kind w W0 hr (by omega) bL.cell (by omega) bN hB0) (fun h k => Kp.t h k) (Kp.b (by omega)) (Below.refl _ _) (fun _ => rfl)
    (fun pre W => ((∃ v, Boxed W (w.heap.size + 1 + 1) 36 v ∧ W.ownsRow w.heap.size 40 8 v (selp ch fr pre).length (evs (selp ch fr pre)) ∧ True) ∧ Boxed W w.heap.size 3 (.int .i64 ch) ∧ Boxed W (w.heap.size + 1) 3 (.int .i64 fr)) ∧ Below w.heap.size w W)
    (fun _ _ _ => False)
    (OwnFrom.and (OwnFrom.and (Own.from (holdsRow_own w.heap.size (w.heap.size + 1 + 1) 36 40 8 (fun pre => (selp ch fr pre).length) (fun pre => evs (selp ch fr pre)) (fun _ _ => True)) _) (OwnFrom.and (Own.from (boxed_own _ _ (fun _ => _)) _) (Own.from (boxed_own _ _ (fun _ => _)) _))) (ownFrom_below (Nat.le_refl _) (by omega)))
    (fun _ _ _ _ _ hs _ _ => hs)
    ⟨⟨⟨_, bO, World.ownsRow_nil _ _ _ _, trivial⟩, bC, bF⟩, hB0⟩
    (fun x a' W => ∃ Bx, w.heap.size + 1 + 1 < Bx ∧ W.heap[Bx]? = some (.cells #[.int .i64 x.2.k, .int .u64 x.2.h, .int .i64 x.2.c, .int .i64 x.2.f, .int .u64 x.2.s, .int .u64 x.2.t, .string x.2.d, .string x.2.a] 40 (0, 0)) ∧
      a' = { tmps := #[.slice A len cap, .int .i64 kind, .int .i64 ch, .int .i64 fr, undef, undef, .pointer (some ⟨w.heap.size, 0, none⟩), .pointer (some ⟨w.heap.size + 1, 0, none⟩), .slice none 0 0, .pointer (some ⟨w.heap.size + 1 + 1, 0, none⟩), undef, .pointer (some ⟨Bx, 0, none⟩), .slice A len cap, .int .i64 kind,
        .func (.func 72) #[] #[.pointer (some ⟨w.heap.size + 1 + 1 + 1, 0, none⟩), .pointer (some ⟨w.heap.size + 1 + 1 + 1 + 1, 0, none⟩)], .int .i64 (x.1 : Int), .agg #[.int .i64 x.2.k, .int .u64 x.2.h, .int .i64 x.2.c, .int .i64 x.2.f, .int .u64 x.2.s, .int .u64 x.2.t, .string x.2.d, .string x.2.a], undef, undef, undef, undef, undef, undef, undef, undef, undef, undef, undef, undef, undef, undef, undef, undef, undef], defers := [] })
    (fun x a' _ X Y row hs hg hr => by obtain ⟨Bx, h1, h2, h3⟩ := hs; exact ⟨Bx, h1, cells_kept h2 hg (fun r e => (hr r e).2), h3⟩)
    ?assign ?body ?done ?stop
  case assign =>
    rintro l pre x W K ⟨⟨⟨v, hv, hrow, _⟩, hc, hf⟩, hB⟩ hK
    dsimp only [encs]
    gi_wp2
    exact hK _ _ ((KeepsOthers.alloc _ _).from _) (Kp.alloc hB.size _) ⟨⟨⟨v, hv.alloc _, hrow.alloc _, trivial⟩, hc.alloc _, hf.alloc _⟩, hB.alloc hB.size _⟩ ⟨W.heap.size, hv.lt, heap_alloc_new W _, rfl⟩
  case body =>
    rintro l pre x a' W hl ⟨r, hlr⟩ ⟨⟨⟨v, hv, hrow, _⟩, hc, hf⟩, hB⟩ ⟨Bx, hBx, hx, rfl⟩ hlt
    have v0 := hv.cell
    have cc := hc.cell
    have cf := hf.cell
    have x0 := cell_of_row W _ 0 _ _ _ hx
    have x1 := cell_of_row W _ 1 _ _ _ hx
    have x2 := cell_of_row W _ 2 _ _ _ hx
    have x3 := cell_of_row W _ 3 _ _ _ hx
    have x4 := cell_of_row W _ 4 _ _ _ hx
    have x5 := cell_of_row W _ 5 _ _ _ hx
    have x6 := cell_of_row W _ 6 _ _ _ hx
    have x7 := cell_of_row W _ 7 _ _ _ hx
    simp at x0 x1 x2 x3 x4 x5 x6 x7
    have hpl := selp_len ch fr pre
    have hNo := Lib.hid (show selp ch fr (pre ++ [x]) = selp ch fr pre → KeepsFrom W0.heap.size W W ∧ Kp w.heap.size (w.heap.size + 1 + 1 + 1 + 1) W W ∧ (((∃ v, Boxed W (w.heap.size + 1 + 1) 36 v ∧ W.ownsRow w.heap.size 40 8 v (selp ch fr (pre ++ [x])).length (evs (selp ch fr (pre ++ [x]))) ∧ True) ∧ Boxed W w.heap.size 3 (.int .i64 ch) ∧ Boxed W (w.heap.size + 1) 3 (.int .i64 fr)) ∧ Below w.heap.size w W) from
      fun h => ⟨KeepsFrom.refl _ _, Kp.refl _ _ _, ⟨⟨v, hv, by rw [h]; exact hrow, trivial⟩, hc, hf⟩, hB⟩)
    by_cases h1 : (x.2.c == ch) = true
    · by_cases h2 : (x.2.f == fr) = true
      · have HH := Lib.hid (And.intro h1 h2)
        gi_wp2_with (gi_at_builtin; refine wpListIn_append_own _ rfl _ _ 36 rfl w.heap.size 40 i0 _ 8 80 Try.underlying36 hi hz0 hz1 hz2 rfl (by decide) _ _ _ rfl (hrow.alloc _) ⟨W.heap.size, 0, none⟩ 1 1 x.2.cells.toList rfl rfl (cells8_new W x.2 _) (cells8_one x.2) (by unfold maxLen; omega) (by omega) (by have := hB.size; simp; omega) ?_; intro v' w1 hown' hgrow _; obtain ⟨g', cap', rfl⟩ := ownsRow_succ hown'; obtain ⟨hv1, hv2, hr2, hk2, hb2⟩ := hv.appended (by decide) hrow hB.size (by omega) hown' hgrow; have hc1 := hv1.cell; have hf1 := hv1.frozen)
        have keep : ∀ (B : Nat) (u : Value), B ≠ w.heap.size + 1 + 1 → Boxed W B 3 u → Boxed (w1.setCell ⟨w.heap.size + 1 + 1, 0, none⟩ (.slice (some ⟨g', 0, none⟩) ((selp ch fr pre).length + 1) cap')) B 3 u := fun B u hne hu => Boxed.other ((hu.alloc _).kept hgrow (hu.not_row (by decide) hrow)) hne _
        refine ⟨hk2.from _, ⟨hb2, fun u hu => keep _ u (by omega) hu⟩, ⟨⟨_, hv2, ?_, trivial⟩, keep _ _ (by omega) hc, keep _ _ (by omega) hf⟩, hB.trans hb2⟩
        rw [selp_yes HH.out.1 HH.out.2, evs_snoc, List.length_append, List.length_singleton]
        exact hr2
      · have h2' : (x.2.f == fr) = false := by simpa using h2
        clear h2
        gi_wp2
        exact hNo.out (selp_no2 h2')
    · have h1' : (x.2.c == ch) = false := by simpa using h1
      clear h1
      gi_wp2
      exact hNo.out (selp_no1 h1')
  case done =>
    rintro D ys W hD rfl ⟨⟨⟨v, hv, hrow, _⟩, hc, hf⟩, hB⟩ hK
    have c0 := hv.cell
    gi_wp2
    refine ⟨by simp, .inl ⟨_, _, rfl, run_takeDeferred hK, ?_⟩⟩
    exact ⟨_, results_tmp rfl _ _ _, ⟨v, rfl, ownsRow_putObj hrow _ hK rfl⟩, hB.trans (belowK_b (w := w) (Nat.le_refl _) W D _ _ (by omega) hK rfl rfl)⟩
  case stop =>
    rintro D c pre W _ _ h _
    exact h.elim
end Go.Proofs.Ytnidafgjbocfcaa.Ev
