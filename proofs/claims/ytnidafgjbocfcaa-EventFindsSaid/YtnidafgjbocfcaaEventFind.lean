/- event.Find, and the page's. -/
import Derived.Test.YtnidafgjbocfcaaEventOf
namespace Go.Proofs.Ytnidafgjbocfcaa.Ev
open Go Go.RowKit Go.Shelf
attribute [local go_sem] Oper.semAt_some

theorem key_any (c f s t : Int) (d : ByteArray) (w : World) : Calls Try.prog 51 #[.agg #[.int .i64 c, .int .i64 f, .int .u64 s, .int .u64 t, .string d]] w fun e w' => e = .returned (.agg #[.int .i64 c, .int .i64 f, .int .u64 s]) ∧ Below w.heap.size w w' := by
  go_enter Try.func51, Try.ntmps51
  go_wp2
  refine bodyPost_ret (v := .agg #[.int .i64 c, .int .i64 f, .int .u64 s]) (by simp [results, Try.results51, go_sem]) rfl ?_
  exact ⟨rfl, ((Below.refl _ _).alloc (Nat.le_refl _) _).alloc (by simp) _⟩

theorem ref_key_any (c f s t : Int) (d : ByteArray) (w : World) : Calls Try.prog 52 #[.agg #[.int .i64 c, .int .i64 f, .int .u64 s, .int .u64 t, .string d]] w fun e w' => e = .returned (.agg #[.int .i64 c, .int .i64 f, .int .u64 s]) ∧ Below w.heap.size w w' := by
  go_enter Try.func52, Try.ntmps52
  go_wp2
  refine bodyPost_ret (v := .agg #[.int .i64 c, .int .i64 f, .int .u64 s]) (by simp [results, Try.results52, go_sem]) rfl ?_
  exact ⟨rfl, ((Below.refl _ _).alloc (Nat.le_refl _) _).alloc (by simp) _⟩

/-- Has an event that key? -/
def hit (c f s : Int) (m : E8) : Bool := m.c == c && (m.f == f && m.s == s)

theorem key_run (m : E8) (c f s : Int) (W : World) : (binOp .eql 30 (.agg #[.int .i64 m.c, .int .i64 m.f, .int .u64 m.s]) (.agg #[.int .i64 c, .int .i64 f, .int .u64 s])).run Try.prog W = .ok (.bool (hit c f s m)) W := by
  unfold hit
  go_simp
  repeat' split
  all_goals simp_all

theorem keeps_below {W W' : World} (h : Below W.heap.size W W') : KeepsOthers W W' := ⟨h.size, fun k _ ho _ => (h.block k (Array.getElem?_eq_some_iff.1 ho).1).trans ho⟩
theorem Kp.of_below {n₀ Bk : Nat} {W W' : World} (h : Below W.heap.size W W') (hn : n₀ ≤ W.heap.size) : Kp n₀ Bk W W' := ⟨h.mono hn, fun _ hv => (h.block Bk hv.lt).trans hv⟩
theorem Boxed.below {W W' : World} {B : Nat} {t : TypeId} {v : Value} (hv : Boxed W B t v) (h : Below W.heap.size W W') : Boxed W' B t v := (h.block B hv.lt).trans hv

theorem cells_kept {W W' : World} {B : Nat} {cs : Array Value} {t : TypeId} {row : Option Nat} (h : W.heap[B]? = some (.cells cs t (0, 0))) (hg : W.grownBy W' row) (hr : ∀ r, row = some r → ∃ o : Obj, W.heap[r]? = some o ∧ o.isCells = false) : W'.heap[B]? = some (.cells cs t (0, 0)) := by
  refine (hg.block B (Array.getElem?_eq_some_iff.1 h).1 fun e => ?_).trans h
  obtain ⟨o, ho, hc⟩ := hr B e.symm
  rw [h] at ho
  cases ho
  cases hc
theorem lt_blk {W : World} {g : Nat} {o : Obj} (h : W.heap[g]? = some o) : g < W.heap.size := (Array.getElem?_eq_some_iff.1 h).1

/-- The first one's place, from i on, of n. -/
def place (es : List E8) (kind c f s : Int) : Nat → Nat → Int
  | 0, _ => -1
  | n + 1, i => if (es.getD i e0).k = kind ∧ hit c f s (es.getD i e0) = true then (i : Int) else place es kind c f s n (i + 1)

theorem mem_comes {es : List E8} {kind : Int} {j : Nat} (hk : (es.getD j e0).k = kind) : ∀ n, j < n → (j, es.getD j e0) ∈ comes es kind n
  | 0, h => absurd h (by omega)
  | n + 1, h => by
    by_cases hj : j = n
    · subst hj
      rw [comes_yes hk]
      exact List.mem_append.2 (.inr (by simp))
    · have := mem_comes hk n (by omega)
      by_cases hn : (es.getD n e0).k = kind
      · rw [comes_yes hn]; exact List.mem_append.2 (.inl this)
      · rw [comes_no hn]; exact this

theorem place_none {es : List E8} {kind c f s : Int} {len : Nat} (h : ∀ y ∈ comes es kind len, hit c f s y.2 = false) : ∀ n i, i + n ≤ len → place es kind c f s n i = -1
  | 0, _, _ => rfl
  | n + 1, i, hi => by
    rw [place, if_neg fun ⟨h1, h2⟩ => by have := h _ (mem_comes h1 len (by omega)); rw [h2] at this; cases this]
    exact place_none h n (i + 1) (by omega)

theorem place_some {es : List E8} {kind c f s : Int} {k : Nat} (hk : (es.getD k e0).k = kind) (hh : hit c f s (es.getD k e0) = true) (h : ∀ y ∈ comes es kind k, hit c f s y.2 = false) : ∀ n i, i ≤ k → k < i + n → place es kind c f s n i = (k : Int)
  | 0, _, h1, h2 => absurd h2 (by omega)
  | n + 1, i, h1, h2 => by
    by_cases hi : i = k
    · subst hi
      rw [place, if_pos ⟨hk, hh⟩]
    · rw [place, if_neg fun ⟨h3, h4⟩ => by have := h _ (mem_comes h3 k (by omega)); rw [h4] at this; cases this]
      exact place_some hk hh h n (i + 1) (by omega) (by omega)

set_option maxRecDepth 100000 in
set_option maxHeartbeats 2000000 in
theorem find_any (A : Option Addr) (len cap : Nat) (es : List E8) (kind c f s : Int) (w : World) (hr : Rd w A len es) (hlen : len ≤ 9223372036854775807) :
    Calls Try.prog 14 #[.slice A len cap, .int .i64 kind, .agg #[.int .i64 c, .int .i64 f, .int .u64 s]] w fun e w' => e = .returned (.int .i64 (place es kind c f s len 0)) ∧ Below w.heap.size w w' := by
  refine (callsIn_wide (n := 6)).1 ?_
  refine callsIn_of_wp_marks Try.func14 rfl trivial ?_
  simp only [Try.ntmps14, List.size_toArray, List.length_cons, List.length_nil, Nat.reduceAdd, Nat.reduceSub, Array.replicate_succ, Array.replicate_zero, List.push_toArray, List.append_toArray, List.nil_append, List.cons_append]
  gi_wp2_with (refine ⟨trivial, ?_⟩; gi_at_call 50; refine (callsIn_wide.2 (of_any _ _ _ _ _)).mono ?_; rintro e w' ⟨rfl, rfl⟩)
  have hB0 : Below w.heap.size w ((((w.alloc (.cells #[.int .i64 c, .int .i64 f, .int .u64 s] 30)).alloc (.cells #[.int .i64 0] 3)).alloc (.cells #[.slice A len cap] 36)).alloc (.cells #[.int .i64 kind] 3)) := ((((Below.refl _ w).alloc (Nat.le_refl _) _).alloc (by simp) _).alloc (by simp; omega) _).alloc (by simp; omega) _
  have hsz : ((((w.alloc (.cells #[.int .i64 c, .int .i64 f, .int .u64 s] 30)).alloc (.cells #[.int .i64 0] 3)).alloc (.cells #[.slice A len cap] 36)).alloc (.cells #[.int .i64 kind] 3)).heap.size = w.heap.size + 4 := by simp
  have bK : ((((w.alloc (.cells #[.int .i64 c, .int .i64 f, .int .u64 s] 30)).alloc (.cells #[.int .i64 0] 3)).alloc (.cells #[.slice A len cap] 36)).alloc (.cells #[.int .i64 kind] 3)).heap[w.heap.size]? = some (.cells #[.int .i64 c, .int .i64 f, .int .u64 s] 30 (0, 0)) := by
    rw [Below.heap_alloc _ _ _ (by simp; omega), Below.heap_alloc _ _ _ (by simp; omega), Below.heap_alloc _ _ _ (by simp)]
    exact heap_alloc_new w _
  have bR := ((Boxed.new (w.alloc (.cells #[.int .i64 c, .int .i64 f, .int .u64 s] 30)) 3 (.int .i64 0)).alloc (.cells #[.slice A len cap] 36)).alloc (.cells #[.int .i64 kind] 3)
  have bL := (Boxed.new ((w.alloc (.cells #[.int .i64 c, .int .i64 f, .int .u64 s] 30)).alloc (.cells #[.int .i64 0] 3)) 36 (.slice A len cap)).alloc (.cells #[.int .i64 kind] 3)
  have bN := Boxed.new (((w.alloc (.cells #[.int .i64 c, .int .i64 f, .int .u64 s] 30)).alloc (.cells #[.int .i64 0] 3)).alloc (.cells #[.slice A len cap] 36)) 3 (.int .i64 kind)
  simp only [World.size_alloc] at bR bL bN
  obtain ⟨W0, hW0⟩ : ∃ W0, (((w.alloc (.cells #[.int .i64 c, .int .i64 f, .int .u64 s] 30)).alloc (.cells #[.int .i64 0] 3)).alloc (.cells #[.slice A len cap] 36)).alloc (.cells #[.int .i64 kind] 3) = W0 := ⟨_, rfl⟩
  rw [hW0] at hB0 hsz bK bR bL bN ⊢
  clear hW0
  refine wpIn_rangeFunc_ownH rfl (by decide) (gf := 72) (lb := #[.pointer (some ⟨w.heap.size + 1 + 1, 0, none⟩), .pointer (some ⟨w.heap.size + 1 + 1 + 1, 0, none⟩)]) rfl trivial (enters_of Try.func72 (by kernel_rfl) rfl)
    (of_stops 5 (by decide) (w.heap.size + 1 + 1) (w.heap.size + 1 + 1 + 1) A len cap es kind w W0 hr hlen bL.cell (by omega) bN hB0) (fun h k => Kp.t h k) (Kp.b (by omega)) (Below.refl _ _) (fun _ => rfl)
    (fun pre W => ((∀ y ∈ pre, hit c f s y.2 = false) ∧ W.heap[w.heap.size]? = some (.cells #[.int .i64 c, .int .i64 f, .int .u64 s] 30 (0, 0)) ∧ Boxed W (w.heap.size + 1) 3 (.int .i64 0)) ∧ Below w.heap.size w W)
    (fun cd pre W => (cd = .ret ∧ (∃ p0 x, pre = p0 ++ [x] ∧ (∀ y ∈ p0, hit c f s y.2 = false) ∧ hit c f s x.2 = true ∧ Boxed W (w.heap.size + 1) 3 (.int .i64 (x.1 : Int)))) ∧ Below w.heap.size w W)
    (OwnFrom.and (Own.from (fun s A B row hs hg hr => ⟨hs.1, cells_kept hs.2.1 hg hr, boxed_own _ _ (fun _ => _) () A B row hs.2.2 hg hr⟩) _) (ownFrom_below (Nat.le_refl _) (by omega)))
    (fun cd => OwnFrom.and (Own.from (fun s A B row hs hg hr => by
      obtain ⟨h1, p0, x, h2, h3, h4, h5⟩ := hs
      exact ⟨h1, p0, x, h2, h3, h4, boxed_own _ _ (fun _ => _) () A B row h5 hg hr⟩) _) (ownFrom_below (Nat.le_refl _) (by omega)))
    ⟨⟨by simp, bK, bR⟩, hB0⟩
    (fun x a' W => ∃ Bx, w.heap.size + 1 < Bx ∧ W.heap[Bx]? = some (.cells #[.int .i64 x.2.k, .int .u64 x.2.h, .int .i64 x.2.c, .int .i64 x.2.f, .int .u64 x.2.s, .int .u64 x.2.t, .string x.2.d, .string x.2.a] 40 (0, 0)) ∧
      a' = { tmps := #[.slice A len cap, .int .i64 kind, .agg #[.int .i64 c, .int .i64 f, .int .u64 s], undef, undef, .pointer (some ⟨w.heap.size, 0, none⟩), .pointer (some ⟨w.heap.size + 1, 0, none⟩), .int .i64 (x.1 : Int), .pointer (some ⟨Bx, 0, none⟩), .slice A len cap, .int .i64 kind,
        .func (.func 72) #[] #[.pointer (some ⟨w.heap.size + 1 + 1, 0, none⟩), .pointer (some ⟨w.heap.size + 1 + 1 + 1, 0, none⟩)], .int .i64 (x.1 : Int), .agg #[.int .i64 x.2.k, .int .u64 x.2.h, .int .i64 x.2.c, .int .i64 x.2.f, .int .u64 x.2.s, .int .u64 x.2.t, .string x.2.d, .string x.2.a], undef, undef, undef, undef, undef, undef], defers := [] })
    (fun x a' _ X Y row hs hg hr => by obtain ⟨Bx, h1, h2, h3⟩ := hs; exact ⟨Bx, h1, cells_kept h2 hg (fun r e => (hr r e).2), h3⟩)
    ?assign ?body ?done ?stop
  case assign =>
    rintro l pre x W K ⟨⟨hp, hk, hb⟩, hB⟩ hK
    dsimp only [encs]
    gi_wp2
    exact hK _ _ ((KeepsOthers.alloc _ _).from _) (Kp.alloc hB.size _) ⟨⟨hp, (Below.heap_alloc _ _ _ (lt_blk hk)).trans hk, hb.alloc _⟩, hB.alloc hB.size _⟩ ⟨W.heap.size, hb.lt, heap_alloc_new W _, rfl⟩
  case body =>
    rintro l pre x a' W hl ⟨r, hr⟩ ⟨⟨hp, hk, hb⟩, hB⟩ ⟨Bx, hBx, hx, rfl⟩ hlt
    have k0 := cell_of_row W _ 0 _ _ _ hk
    have k1 := cell_of_row W _ 1 _ _ _ hk
    have k2 := cell_of_row W _ 2 _ _ _ hk
    have x2 := cell_of_row W _ 2 _ _ _ hx
    have x3 := cell_of_row W _ 3 _ _ _ hx
    have x4 := cell_of_row W _ 4 _ _ _ hx
    have x5 := cell_of_row W _ 5 _ _ _ hx
    have x6 := cell_of_row W _ 6 _ _ _ hx
    simp at k0 k1 k2 x2 x3 x4 x5 x6
    have heq : ∀ V, (binOp .eql 30 (.agg #[.int .i64 x.2.c, .int .i64 x.2.f, .int .u64 x.2.s]) (.agg #[.int .i64 c, .int .i64 f, .int .u64 s])).run Try.prog V = .ok (.bool (hit c f s x.2)) V := key_run x.2 c f s
    have hd0 : W.drew.cell? ⟨w.heap.size, 0, none⟩ = some (.int .i64 c) := k0
    have hd1 : W.drew.cell? ⟨w.heap.size, 1, none⟩ = some (.int .i64 f) := k1
    have hd2 : W.drew.cell? ⟨w.heap.size, 2, none⟩ = some (.int .u64 s) := k2
    have HW := Lib.hid (show ∀ w1, Below W.drew.heap.size W.drew w1 → w1.cell? ⟨w.heap.size, 0, none⟩ = some (.int .i64 c) ∧ w1.cell? ⟨w.heap.size, 1, none⟩ = some (.int .i64 f) ∧ w1.cell? ⟨w.heap.size, 2, none⟩ = some (.int .u64 s) ∧ Hid (Below W.heap.size W w1) ∧ w1.cell? ⟨w.heap.size + 1, 0, none⟩ = some (.int .i64 0) ∧ w1.frozen? ⟨w.heap.size + 1, 0, none⟩ = false from fun w1 h1 => by
      have h2 : Below W.heap.size W w1 := (Below.refl _ W).drew.trans h1
      have hl := lt_blk hk
      have hb2 := Boxed.below hb h2
      exact ⟨(h2.cell (p := ⟨w.heap.size, 0, none⟩) hl).trans k0, (h2.cell (p := ⟨w.heap.size, 1, none⟩) hl).trans k1, (h2.cell (p := ⟨w.heap.size, 2, none⟩) hl).trans k2, Lib.hid h2, hb2.cell, hb2.frozen⟩)
    have HY := Lib.hid (show ∀ w1, Below W.heap.size W w1 → hit c f s x.2 = true → KeepsFrom W0.heap.size W (w1.setCell ⟨w.heap.size + 1, 0, none⟩ (.int .i64 (x.1 : Int))) ∧
        ((Code.ret = Code.ret ∧ ∃ p0 y, pre ++ [x] = p0 ++ [y] ∧ (∀ z ∈ p0, hit c f s z.2 = false) ∧ hit c f s y.2 = true ∧ Boxed (w1.setCell ⟨w.heap.size + 1, 0, none⟩ (.int .i64 (x.1 : Int))) (w.heap.size + 1) 3 (.int .i64 (y.1 : Int))) ∧ Below w.heap.size w (w1.setCell ⟨w.heap.size + 1, 0, none⟩ (.int .i64 (x.1 : Int)))) from
      fun w1 h hh => ⟨((keeps_below h).trans (KeepsOthers.setCell _ _ _)).from _, ⟨rfl, pre, x, rfl, hp, hh, (Boxed.below hb h).set _⟩, (hB.trans (h.mono hB.size)).setCell (p := ⟨w.heap.size + 1, 0, none⟩) (Nat.le_succ _) _⟩)
    have HN := Lib.hid (show ∀ w1, Below W.heap.size W w1 → hit c f s x.2 = false → KeepsFrom W0.heap.size W w1 ∧ Kp w.heap.size (w.heap.size + 1 + 1 + 1) W w1 ∧
        (((∀ z ∈ pre ++ [x], hit c f s z.2 = false) ∧ w1.heap[w.heap.size]? = some (.cells #[.int .i64 c, .int .i64 f, .int .u64 s] 30 (0, 0)) ∧ Boxed w1 (w.heap.size + 1) 3 (.int .i64 0)) ∧ Below w.heap.size w w1) from
      fun w1 h hh => ⟨(keeps_below h).from _, Kp.of_below h hB.size, ⟨fun z hz => (List.mem_append.1 hz).elim (hp z) (fun e => by simp at e; subst e; exact hh), (h.block _ (lt_blk hk)).trans hk, Boxed.below hb h⟩, hB.trans (h.mono hB.size)⟩)
    gi_wp2
    refine wpIn_region_any (by kernel_rfl) ?_
    change wpAnyIn _ _ _ _ _ _ _ _ _ (World.drew _)
    -- TREE
    refine wpAnyIn_ready (rs := [0, 3]) (by kernel_rfl) (by simp) ?_
    refine AllReadyIn.cons rfl (fun K hK => ?_) ?_
    · go_simp
      refine hK _ _ ?_
      clear hK K
      refine wpAnyIn_ready (rs := [1, 3]) (by kernel_rfl) (by simp) ?_
      refine AllReadyIn.cons rfl (fun K hK => ?_) ?_
      · go_simp
        refine hK _ _ ?_
        clear hK K
        refine wpAnyIn_ready (rs := [2, 3]) (by kernel_rfl) (by simp) ?_
        refine AllReadyIn.cons rfl (fun K hK => ?_) ?_
        · go_simp
          refine ⟨trivial, (CallsIn.inRound l (callsIn_wide.2 (key_any _ _ _ _ _ _))).mono ?_⟩
          rintro e w1 ⟨rfl, hb1⟩
          obtain ⟨q0, q1, q2, hb2, rc, rf⟩ := HW.out w1 hb1
          refine hK _ _ ?_
          clear hK K
          refine wpAnyIn_ready (rs := [3]) (by kernel_rfl) (by simp) ?_
          refine AllReadyIn.cons rfl (fun K hK => ?_) ?_
          · go_simp
            refine hK _ _ ?_
            clear hK K
            refine wpAnyIn_ready (rs := [4]) (by kernel_rfl) (by simp) ?_
            refine AllReadyIn.cons rfl (fun K hK => ?_) ?_
            · go_simp
              refine hK _ _ ?_
              clear hK K
              refine wpAnyIn_done (by kernel_rfl) ?_ _
              gi_wp2
              · rename_i hh
                obtain ⟨h1, ⟨_, h2⟩, h3⟩ := HY.out w1 hb2.out hh
                exact ⟨h1, ⟨rfl, h2⟩, h3⟩
              · rename_i hh
                exact HN.out w1 hb2.out (by simpa using hh)
            exact AllReadyIn.nil
          exact AllReadyIn.nil
        refine AllReadyIn.cons rfl (fun K hK => ?_) ?_
        · go_simp
          refine hK _ _ ?_
          clear hK K
          refine wpAnyIn_ready (rs := [2]) (by kernel_rfl) (by simp) ?_
          refine AllReadyIn.cons rfl (fun K hK => ?_) ?_
          · go_simp
            refine ⟨trivial, (CallsIn.inRound l (callsIn_wide.2 (key_any _ _ _ _ _ _))).mono ?_⟩
            rintro e w1 ⟨rfl, hb1⟩
            obtain ⟨q0, q1, q2, hb2, rc, rf⟩ := HW.out w1 hb1
            refine hK _ _ ?_
            clear hK K
            refine wpAnyIn_ready (rs := [4]) (by kernel_rfl) (by simp) ?_
            refine AllReadyIn.cons rfl (fun K hK => ?_) ?_
            · go_simp
              refine hK _ _ ?_
              clear hK K
              refine wpAnyIn_done (by kernel_rfl) ?_ _
              gi_wp2
              · rename_i hh
                obtain ⟨h1, ⟨_, h2⟩, h3⟩ := HY.out w1 hb2.out hh
                exact ⟨h1, ⟨rfl, h2⟩, h3⟩
              · rename_i hh
                exact HN.out w1 hb2.out (by simpa using hh)
            exact AllReadyIn.nil
          exact AllReadyIn.nil
        exact AllReadyIn.nil
      refine AllReadyIn.cons rfl (fun K hK => ?_) ?_
      · go_simp
        refine hK _ _ ?_
        clear hK K
        refine wpAnyIn_ready (rs := [1]) (by kernel_rfl) (by simp) ?_
        refine AllReadyIn.cons rfl (fun K hK => ?_) ?_
        · go_simp
          refine hK _ _ ?_
          clear hK K
          refine wpAnyIn_ready (rs := [2]) (by kernel_rfl) (by simp) ?_
          refine AllReadyIn.cons rfl (fun K hK => ?_) ?_
          · go_simp
            refine ⟨trivial, (CallsIn.inRound l (callsIn_wide.2 (key_any _ _ _ _ _ _))).mono ?_⟩
            rintro e w1 ⟨rfl, hb1⟩
            obtain ⟨q0, q1, q2, hb2, rc, rf⟩ := HW.out w1 hb1
            refine hK _ _ ?_
            clear hK K
            refine wpAnyIn_ready (rs := [4]) (by kernel_rfl) (by simp) ?_
            refine AllReadyIn.cons rfl (fun K hK => ?_) ?_
            · go_simp
              refine hK _ _ ?_
              clear hK K
              refine wpAnyIn_done (by kernel_rfl) ?_ _
              gi_wp2
              · rename_i hh
                obtain ⟨h1, ⟨_, h2⟩, h3⟩ := HY.out w1 hb2.out hh
                exact ⟨h1, ⟨rfl, h2⟩, h3⟩
              · rename_i hh
                exact HN.out w1 hb2.out (by simpa using hh)
            exact AllReadyIn.nil
          exact AllReadyIn.nil
        exact AllReadyIn.nil
      exact AllReadyIn.nil
    refine AllReadyIn.cons rfl (fun K hK => ?_) ?_
    · go_simp
      refine hK _ _ ?_
      clear hK K
      refine wpAnyIn_ready (rs := [0]) (by kernel_rfl) (by simp) ?_
      refine AllReadyIn.cons rfl (fun K hK => ?_) ?_
      · go_simp
        refine hK _ _ ?_
        clear hK K
        refine wpAnyIn_ready (rs := [1]) (by kernel_rfl) (by simp) ?_
        refine AllReadyIn.cons rfl (fun K hK => ?_) ?_
        · go_simp
          refine hK _ _ ?_
          clear hK K
          refine wpAnyIn_ready (rs := [2]) (by kernel_rfl) (by simp) ?_
          refine AllReadyIn.cons rfl (fun K hK => ?_) ?_
          · go_simp
            refine ⟨trivial, (CallsIn.inRound l (callsIn_wide.2 (key_any _ _ _ _ _ _))).mono ?_⟩
            rintro e w1 ⟨rfl, hb1⟩
            obtain ⟨q0, q1, q2, hb2, rc, rf⟩ := HW.out w1 hb1
            refine hK _ _ ?_
            clear hK K
            refine wpAnyIn_ready (rs := [4]) (by kernel_rfl) (by simp) ?_
            refine AllReadyIn.cons rfl (fun K hK => ?_) ?_
            · go_simp
              refine hK _ _ ?_
              clear hK K
              refine wpAnyIn_done (by kernel_rfl) ?_ _
              gi_wp2
              · rename_i hh
                obtain ⟨h1, ⟨_, h2⟩, h3⟩ := HY.out w1 hb2.out hh
                exact ⟨h1, ⟨rfl, h2⟩, h3⟩
              · rename_i hh
                exact HN.out w1 hb2.out (by simpa using hh)
            exact AllReadyIn.nil
          exact AllReadyIn.nil
        exact AllReadyIn.nil
      exact AllReadyIn.nil
    exact AllReadyIn.nil
    -- END OF TREE
  case done =>
    rintro D ys W hD rfl ⟨⟨hp, hk, hb⟩, hB⟩ hK
    have hc := hb.cell
    have hf := hb.frozen
    have HP := Lib.hid (place_none (fun y hy => hp y hy) len 0 (by omega))
    have HH := Lib.hid (And.intro hb (And.intro hB hK))
    clear hp hk hb hB hK
    gi_wp2
    obtain ⟨hb, hB, hK⟩ := HH.out
    have hK' := (KeepsOthers.setCell W ⟨w.heap.size + 1, 0, none⟩ (.int .i64 (-1))).same D _ hK rfl
    refine ⟨by simp, .inl ⟨_, _, rfl, run_takeDeferred hK', ?_⟩⟩
    have hc5 := (boxed_own (w.heap.size + 1) 3 (fun _ : Unit => Value.int .i64 (-1)) () _ _ _ (hb.set (.int .i64 (-1))) (grownBy_putObj' _ D (.deferred none)) (fun r e => by cases e; exact ⟨_, hK', rfl⟩)).cell
    refine ⟨.int .i64 (-1), ?_, by rw [HP.out], (hB.setCell (p := ⟨w.heap.size + 1, 0, none⟩) (Nat.le_succ _) _).trans (belowK_b (w := w) (Nat.le_refl _) _ D _ _ (by omega) hK' rfl rfl)⟩
    simp [results, Try.results14, go_sem, hc5]
  case stop =>
    rintro D cd pre W hD ⟨k, hk, hkk, hpre⟩ ⟨⟨rfl, p0, x, h1, h2, h3, h4⟩, hB⟩ hK
    obtain ⟨e1, e2⟩ := List.append_inj' (hpre.symm.trans h1) rfl
    injection e2 with e2
    subst e1 e2
    have HP := Lib.hid (place_some hkk h3 (fun y hy => h2 y hy) len 0 (by omega) (by omega))
    gi_wp2
    refine ⟨by simp, .inl ⟨_, _, rfl, run_takeDeferred hK, ?_⟩⟩
    have hc5 := (boxed_own (w.heap.size + 1) 3 (fun _ : Unit => Value.int .i64 (k : Int)) () _ _ _ h4 (grownBy_putObj' _ D (.deferred none)) (fun r e => by cases e; exact ⟨_, hK, rfl⟩)).cell
    refine ⟨.int .i64 (k : Int), ?_, by rw [HP.out], hB.trans (belowK_b (w := w) (Nat.le_refl _) _ D _ _ (by omega) hK rfl rfl)⟩
    simp [results, Try.results14, go_sem, hc5]
end Go.Proofs.Ytnidafgjbocfcaa.Ev
