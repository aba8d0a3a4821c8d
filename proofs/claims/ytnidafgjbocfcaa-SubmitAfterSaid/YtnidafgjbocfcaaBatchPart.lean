/- batch.Part: the parts of a row of messages, each its own. -/
import Derived.Test.YtnidafgjbocfcaaBatchRows
namespace Go.Proofs.Ytnidafgjbocfcaa.Msg
open Go Go.RowKit Go.Shelf
attribute [local go_sem] Oper.semAt_some

theorem parts_any (A : Option Addr) (n c : Nat) (most : Int) (w : World) : Calls Try.prog 56 #[.slice A n c, .int .i64 most] w fun e w' => e = .returned (.func (.func 76) #[] #[.pointer (some ⟨w.heap.size, 0, none⟩), .pointer (some ⟨w.heap.size + 1, 0, none⟩)]) ∧ w' = (w.alloc (.cells #[.slice A n c] TMs)).alloc (.cells #[.int .i64 most] 3) := by
  go_enter Try.func56, Try.ntmps56
  go_wp2
  go_ret
  exact ⟨rfl, rfl⟩

theorem keeps_below {W W' : World} (h : Below W.heap.size W W') : KeepsOthers W W' := ⟨h.size, fun k _ ho _ => (h.block k (Array.getElem?_eq_some_iff.1 ho).1).trans ho⟩
theorem _root_.Go.Boxed.below' {W W' : World} {B : Nat} {t : TypeId} {v : Value} (hv : Boxed W B t v) (h : Below W.heap.size W W') : Boxed W' B t v := (h.block B hv.lt).trans hv
theorem own_setlow {w : World} {base e size n g i : Nat} {v u : Value} {xs : List Value} (h : w.ownsRow base e size v n xs) (hg : g < base) : (w.setCell ⟨g, i, none⟩ u).ownsRow base e size v n xs := by
  refine ⟨h.1, ?_⟩
  rcases h.2 with h2 | ⟨k, cap, cur, hv, hk, hh, r⟩
  · exact .inl h2
  · exact .inr ⟨k, cap, cur, hv, hk, (Below.heap_setCell _ _ _ _ (fun e => by have : k = g := e; omega)).trans hh, r⟩
theorem own_put {w : World} {base e size n k : Nat} {o' : Obj} {v : Value} {xs : List Value} (h : w.ownsRow base e size v n xs) (hk : ∃ o, w.heap[k]? = some o ∧ o.isCells = false) : (w.putObj k o').ownsRow base e size v n xs := by
  obtain ⟨o, ho, hoc⟩ := hk
  refine ⟨h.1, ?_⟩
  rcases h.2 with h2 | ⟨j, cap, cur, hv, hj, hh, r⟩
  · exact .inl h2
  · exact .inr ⟨j, cap, cur, hv, hj, (World.putObj_heap_other (fun e => by subst e; rw [ho] at hh; cases hh; cases hoc)).trans hh, r⟩
theorem boxed_put {w : World} {B k : Nat} {t : TypeId} {o' : Obj} {v : Value} (h : Boxed w B t v) (hk : ∃ o, w.heap[k]? = some o ∧ o.isCells = false) : Boxed (w.putObj k o') B t v := by
  obtain ⟨o, ho, hoc⟩ := hk
  have h' : w.heap[B]? = some (.cells #[v] t (0, 0)) := h
  exact (World.putObj_heap_other (fun e => by subst e; rw [ho] at h'; cases h'; cases hoc)).trans h'

section
variable {w w' : World} {base : Nat} {v v' u : Value} {us : List Value} {ps : List (List M7)} {p : List M7}
theorem Parts.setlow {g i : Nat} {x : Value} (h : Parts w base v us ps) (hg : g < base) : Parts (w.setCell ⟨g, i, none⟩ x) base v us ps := ⟨own_setlow h.row hg, h.len, fun j hj => own_setlow (h.each j hj) hg⟩
theorem Parts.put {k : Nat} {o' : Obj} (h : Parts w base v us ps) (hk : ∃ o, w.heap[k]? = some o ∧ o.isCells = false) : Parts (w.putObj k o') base v us ps := ⟨own_put h.row hk, h.len, fun j hj => own_put (h.each j hj) hk⟩
theorem Parts.low {base' : Nat} (h : Parts w base v us ps) (hb : base' ≤ base) : Parts w base' v us ps := ⟨own_base h.row hb, h.len, fun j hj => own_base (h.each j hj) hb⟩
end

/-- Between two rounds of batch.Part. -/
def JP (w : World) (pre : List (El w)) (W : World) : Prop :=
  ∃ u us q q', Boxed W w.heap.size 47 u ∧ Boxed W (w.heap.size + 1) TMs q ∧ Boxed W (w.heap.size + 2) 3 q' ∧ Parts W (w.heap.size + 3) u us (pre.map fun x => x.1.2) ∧ Below w.heap.size w W ∧ w.heap.size + 3 ≤ W.heap.size

theorem part_step {w W w1 : World} {A : Option Addr} {c : Nat} {us : List Value} {q q' uv : Value} {pre : List (El w)} {x : El w} (h0 : Boxed W w.heap.size 47 (.slice A us.length c)) (h1 : Boxed W (w.heap.size + 1) TMs q) (h2 : Boxed W (w.heap.size + 2) 3 q')
    (hp : Parts W (w.heap.size + 3) (.slice A us.length c) us (pre.map fun x => x.1.2)) (hB : Below w.heap.size w W) (hz : w.heap.size + 3 ≤ W.heap.size) (hl : us.length ≤ 1000000)
    (hb : Below W.heap.size W w1) (hown : w1.ownsRow W.heap.size TM 7 uv x.1.2.length (mevs x.1.2)) :
    w1.cell? ⟨w.heap.size, 0, none⟩ = some (.slice A us.length c) ∧ ∃ g cap w2, (Builtin.append_ #[47, 47] 47 #[.slice A us.length c, .slice (some ⟨w1.heap.size, 0, none⟩) 1 1]).run Try.prog (w1.alloc (.cells #[uv] TMs)) = .ok (.slice (some ⟨g, 0, none⟩) (us.length + 1) cap) w2 ∧
      w2.cell? ⟨w.heap.size, 0, none⟩ = some (.slice A us.length c) ∧ w2.frozen? ⟨w.heap.size, 0, none⟩ = false ∧
      KeepsOthers W (w2.setCell ⟨w.heap.size, 0, none⟩ (.slice (some ⟨g, 0, none⟩) (us.length + 1) cap)) ∧ KpB w.heap.size (w.heap.size + 1) (w.heap.size + 2) W (w2.setCell ⟨w.heap.size, 0, none⟩ (.slice (some ⟨g, 0, none⟩) (us.length + 1) cap)) ∧
      JP w (pre ++ [x]) (w2.setCell ⟨w.heap.size, 0, none⟩ (.slice (some ⟨g, 0, none⟩) (us.length + 1) cap)) := by
  obtain ⟨i0, hi, hz0, hz1, hz2⟩ := info_parts infoMs
  have hp1 := hp.below hb (Nat.le_refl _)
  have hz1' := hb.size
  obtain ⟨A', cc, huv⟩ := own_formN hown
  have hone : uv.oneCell' = true := by rw [huv]; rfl
  obtain ⟨g, cap, w2, hap, hown2, hgr, hat, hgl⟩ := run_append_lies (P := Try.prog) (w1.alloc (.cells #[uv] TMs)) 47 47 (w.heap.size + 3) TMs i0 (.slice none 0 0) 1 24 Try.underlying47 hi hz0 hz1 hz2 rfl (by decide)
    (.slice A us.length c) us.length us (hp1.row.alloc _) ⟨w1.heap.size, 0, none⟩ 1 1 [uv] rfl (cell_one_new _ _ _) (one_one hone) (by decide) (by simp [maxLen]; omega) (by omega) (by simp; omega) (w1.heap.size + 1) (by simp)
  have hne : ∀ g, g < w.heap.size + 3 → some g ≠ (Value.slice A us.length c).ownBlock := fun g hg e => by have := own_ge hp.row g e.symm; omega
  have b0 : Boxed w2 w.heap.size 47 (.slice A us.length c) := ((h0.below' hb).alloc _).kept hgr (hne _ (by omega))
  have b1 : ∀ v, Boxed W (w.heap.size + 1) TMs v → Boxed w2 (w.heap.size + 1) TMs v := fun v hv => ((hv.below' hb).alloc _).kept hgr (hne _ (by omega))
  have b2 : ∀ v, Boxed W (w.heap.size + 2) 3 v → Boxed w2 (w.heap.size + 2) 3 v := fun v hv => ((hv.below' hb).alloc _).kept hgr (hne _ (by omega))
  have hB2' : Below w.heap.size W w2 := ((hb.mono (by omega)).alloc (by omega) _).grown hgr (by simp; omega) (fun k hk => by have := own_ge hp.row k hk; omega)
  have hB2 : Below w.heap.size W (w2.setCell ⟨w.heap.size, 0, none⟩ (.slice (some ⟨g, 0, none⟩) (us.length + 1) cap)) := hB2'.setCell (p := ⟨w.heap.size, 0, none⟩) (Nat.le_refl _) _
  refine ⟨(h0.below' hb).cell, g, cap, w2, hap, b0.cell, b0.frozen, ?_, ⟨hB2, fun v hv => (b1 v hv).other' (by omega) _, fun v hv => (b2 v hv).other' (by omega) _⟩, _, us ++ [uv], q, q', b0.set _, (b1 q h1).other' (by omega) _, (b2 q' h2).other' (by omega) _, ?_, hB.trans hB2, ?_⟩
  · refine KeepsOthers.trans ?_ (KeepsOthers.setCell _ _ _)
    refine KeepsOthers.trans (KeepsOthers.trans (keeps_below hb) (KeepsOthers.alloc _ _)) (KeepsOthers.of_grownBy hgr ?_)
    intro j o hj ho
    obtain ⟨cs, fr, rfl⟩ := own_blk_type (hp1.row.alloc _) hj ho
    rfl
  · rw [List.map_append]
    refine Parts.setlow ?_ (by omega)
    refine (hp1.snoc hown2 (fun x n zs hx => own_other (hx.alloc _) (hp1.row.alloc _) (by decide) hgr) (own_base hown (by omega)))
  · have := hgr.size; simp [World.setCell] at *; omega


/- The walk. -/
set_option maxRecDepth 100000 in
set_option maxHeartbeats 1000000 in
theorem part_any (A : Option Addr) (len cap : Nat) (ms : List M7) (most : Nat) (w : World) (hr : Rd w A len ms) (hcap : len ≤ cap) (hcm : cap ≤ 9223372036854775807) (hl : len ≤ 1000) (hm : 1 ≤ most) (hmm : most ≤ 9223372036854775807) :
    Calls Try.prog 22 #[.slice A len cap, .int .i64 (most : Int)] w fun e w' => ∃ u us, e = .returned u ∧ Parts w' w.heap.size u us (partsOf most ms) ∧ Below w.heap.size w w' := by
  refine (callsIn_wide (n := 6)).1 ?_
  refine callsIn_of_wp_marks Try.func22 rfl trivial ?_
  simp only [Try.ntmps22, List.size_toArray, List.length_cons, List.length_nil, Nat.reduceAdd, Nat.reduceSub, Array.replicate_succ, Array.replicate_zero, List.push_toArray, List.append_toArray, List.nil_append, List.cons_append]
  have hlt1 : ¬ ((most : Int) < 1) := by omega
  gi_wp2_with (refine ⟨trivial, ?_⟩; gi_at_call 56; refine (callsIn_wide.2 (parts_any _ _ _ _ _)).mono ?_; rintro e w' ⟨rfl, rfl⟩)
  refine range_round (gf := 76) (lb := #[.pointer (some ⟨w.heap.size + 1, 0, none⟩), .pointer (some ⟨w.heap.size + 2, 0, none⟩)]) rfl (by decide) rfl trivial (enters_of Try.func76 (by kernel_rfl) rfl)
    (encs := fun x : El w => #[x.1.1]) (fun _ => rfl) (KpB w.heap.size (w.heap.size + 1) (w.heap.size + 2)) (fun h k => ⟨h.1.trans k.1, fun v hv => k.2.1 v (h.2.1 v hv), fun v hv => k.2.2 v (h.2.2 v hv)⟩) ?_ (JP w)
    (parts_iter 5 (by decide) w _ A len cap ms most hm hmm hr hcap hcm (by omega) (w.heap.size + 1) (w.heap.size + 2) (by omega) ?_ ?_ (JP w) ?_) ?_ ?_
    (fun x => { tmps := #[.slice A len cap, .int .i64 (most : Int), undef, undef, .slice none 0 0, .pointer (some ⟨w.heap.size, 0, none⟩), x.1.1, .int .i64 (most : Int), .bool false, .slice A len cap, .int .i64 (most : Int), .func (.func 76) #[] #[.pointer (some ⟨w.heap.size + 1, 0, none⟩), .pointer (some ⟨w.heap.size + 2, 0, none⟩)], x.1.1, undef, undef, undef, undef, undef, undef], defers := [] }) ?assign ?body ?done
  · intro W k o' hk ⟨o, ho, hoc⟩
    simp at hk
    have hkl := lt_blk ho
    exact ⟨(Below.refl _ _).grown (grownBy_putObj' W k o') (by omega) (fun j e => by cases e; omega), fun v hv => boxed_put hv ⟨o, ho, hoc⟩, fun v hv => boxed_put hv ⟨o, ho, hoc⟩⟩
  · simpa using (Boxed.new (w.alloc (.cells #[.slice none 0 0] 47)) TMs (.slice A len cap)).alloc (.cells #[.int .i64 (most : Int)] 3)
  · simpa using Boxed.new ((w.alloc (.cells #[.slice none 0 0] 47)).alloc (.cells #[.slice A len cap] TMs)) 3 (.int .i64 (most : Int))
  · rintro pre W v ⟨u, us, q, q', hb0, hbl, hbm, hP, hB, hz⟩
    exact ⟨u, us, v, q', hb0.other' (by omega) _, hbl.set v, hbm.other' (by omega) _, hP.setlow (by omega), hB.setCell (p := ⟨w.heap.size + 1, 0, none⟩) (Nat.le_succ _) _, by simpa [World.setCell] using hz⟩
  · rintro pre W k o' ⟨u, us, q, q', hb0, hbl, hbm, hP, hB, hz⟩ hk ho
    refine ⟨u, us, q, q', boxed_put hb0 ho, boxed_put hbl ho, boxed_put hbm ho, hP.put ho, ?_, ?_⟩
    · exact hB.trans ((Below.refl _ _).grown (grownBy_putObj' W k o') hB.size (fun j e => by cases e; simp at hk; omega))
    · have := (grownBy_putObj' W k o').size; omega
  · intro o o'
    refine ⟨.slice none 0 0, [], .slice A len cap, .int .i64 (most : Int), ?_, ?_, ?_, Parts.nil _ _, ?_, ?_⟩
    · exact ((((Boxed.new w _ _).alloc _).alloc _).alloc _).alloc _
    · simpa using (((Boxed.new (w.alloc (.cells #[.slice none 0 0] 47)) TMs (.slice A len cap)).alloc (.cells #[.int .i64 (most : Int)] 3)).alloc o).alloc o'
    · simpa using ((Boxed.new ((w.alloc (.cells #[.slice none 0 0] 47)).alloc (.cells #[.slice A len cap] TMs)) 3 (.int .i64 (most : Int))).alloc o).alloc o'
    · exact (((((Below.refl _ w).alloc (Nat.le_refl _) _).alloc (by simp) _).alloc (by simp; omega) _).alloc (by simp; omega) _).alloc (by simp; omega) _
    · simp
  case assign =>
    intro l x W K hK
    gi_wp2
    exact hK
  case body =>
    rintro l pre x W ⟨u, us, q, q', hb0, hbl, hbm, hP, hB, hz⟩ hlen
    have hus : us.length = pre.length := by rw [hP.len]; simp
    obtain ⟨A1, c1, hu1⟩ := own_formN hP.row
    subst hu1
    obtain ⟨Ax, cx, hxv, hxr0, hxl⟩ := x.2
    have hxr : Rd W.drew Ax x.1.2.length x.1.2 := Rd.below hxr0 hB.drew
    have HS := Lib.hid (fun (w1 : World) (uv : Value) (h1 : Below W.heap.size W.drew w1) (h2 : w1.ownsRow W.heap.size TM 7 uv x.1.2.length (mevs x.1.2)) => part_step (W := W.drew) (x := x) (pre := pre) hb0 hbl hbm ⟨hP.row, hP.len, hP.each⟩ hB.drew hz (by omega) h1 h2)
    clear hus
    have hcd : W.drew.cell? ⟨w.heap.size, 0, none⟩ = some (.slice A1 us.length c1) := Boxed.cell (W := W.drew) hb0
    rw [hxv]
    gi_wp2
    refine wpIn_region_any (by kernel_rfl) ?_
    change wpAnyIn _ _ _ _ _ _ _ _ _ (World.drew _)
    refine wpAnyIn_ready (rs := [0, 1]) (by kernel_rfl) (by simp) ?_
    refine AllReadyIn.cons rfl (fun K hK => ?_) ?_
    · go_simp
      refine hK _ _ ?_
      clear hK K
      refine wpAnyIn_ready (rs := [1]) (by kernel_rfl) (by simp) ?_
      refine AllReadyIn.cons rfl (fun K hK => ?_) ?_
      · go_simp
        refine hK _ _ ?_
        clear hK K
        refine wpAnyIn_ready (rs := [2]) (by kernel_rfl) (by simp) ?_
        refine AllReadyIn.cons rfl (fun K hK => ?_) ?_
        · go_simp
          refine ⟨trivial, (CallsIn.inRound l (callsIn_wide.2 (clone_msgs _ _ _ _ hxl W.drew hxr))).mono ?_⟩
          rintro e w1 ⟨⟨uv, rfl, hown1⟩, hb1⟩
          obtain ⟨Au, cu, huv⟩ := own_formN hown1
          subst huv
          obtain ⟨hcd, g, cap2, w2, hap, hc2, hf2, hko, hkp, hjp⟩ := HS.out w1 _ hb1 hown1
          have hcd2 : (w1.alloc (.cells #[.slice Au x.1.2.length cu] 23)).cell? ⟨w.heap.size, 0, none⟩ = some (.slice A1 us.length c1) := (World.cell?_alloc_lt w1 _ ⟨w.heap.size, 0, none⟩ (Nat.lt_of_lt_of_le (by show w.heap.size < W.drew.heap.size; exact Nat.lt_of_lt_of_le (by omega) hz) hb1.size)).trans hcd
          have HF := Lib.hid (And.intro hko (And.intro hkp hjp))
          clear hko hkp hjp
          refine hK _ _ ?_
          clear hK K
          refine wpAnyIn_ready (rs := [3]) (by kernel_rfl) (by simp) ?_
          refine AllReadyIn.cons rfl (fun K hK => ?_) ?_
          · go_simp
            refine hK _ _ ?_
            clear hK K
            refine wpAnyIn_ready (rs := [4]) (by kernel_rfl) (by simp) ?_
            refine AllReadyIn.cons rfl (fun K hK => ?_) ?_
            · refine step_append_in rfl _ _ _ _ rfl rfl rfl rfl hap ?_
              refine hK _ _ ?_
              clear hK K
              refine wpAnyIn_ready (rs := [5]) (by kernel_rfl) (by simp) ?_
              refine AllReadyIn.cons rfl (fun K hK => ?_) ?_
              · go_simp
                refine hK _ _ ?_
                clear hK K
                refine wpAnyIn_done (by kernel_rfl) ?_ _
                exact ⟨(KeepsOthers.drew W).trans HF.out.1, ⟨((Below.refl _ W).drew).trans HF.out.2.1.1, fun v hv => HF.out.2.1.2.1 v hv, fun v hv => HF.out.2.1.2.2 v hv⟩, HF.out.2.2⟩
              exact AllReadyIn.nil
            exact AllReadyIn.nil
          exact AllReadyIn.nil
        exact AllReadyIn.nil
      exact AllReadyIn.nil
    refine AllReadyIn.cons rfl (fun K hK => ?_) ?_
    · go_simp
      refine hK _ _ ?_
      clear hK K
      refine wpAnyIn_ready (rs := [0, 2]) (by kernel_rfl) (by simp) ?_
      refine AllReadyIn.cons rfl (fun K hK => ?_) ?_
      · go_simp
        refine hK _ _ ?_
        clear hK K
        refine wpAnyIn_ready (rs := [2]) (by kernel_rfl) (by simp) ?_
        refine AllReadyIn.cons rfl (fun K hK => ?_) ?_
        · go_simp
          refine ⟨trivial, (CallsIn.inRound l (callsIn_wide.2 (clone_msgs _ _ _ _ hxl W.drew hxr))).mono ?_⟩
          rintro e w1 ⟨⟨uv, rfl, hown1⟩, hb1⟩
          obtain ⟨Au, cu, huv⟩ := own_formN hown1
          subst huv
          obtain ⟨hcd, g, cap2, w2, hap, hc2, hf2, hko, hkp, hjp⟩ := HS.out w1 _ hb1 hown1
          have hcd2 : (w1.alloc (.cells #[.slice Au x.1.2.length cu] 23)).cell? ⟨w.heap.size, 0, none⟩ = some (.slice A1 us.length c1) := (World.cell?_alloc_lt w1 _ ⟨w.heap.size, 0, none⟩ (Nat.lt_of_lt_of_le (by show w.heap.size < W.drew.heap.size; exact Nat.lt_of_lt_of_le (by omega) hz) hb1.size)).trans hcd
          have HF := Lib.hid (And.intro hko (And.intro hkp hjp))
          clear hko hkp hjp
          refine hK _ _ ?_
          clear hK K
          refine wpAnyIn_ready (rs := [3]) (by kernel_rfl) (by simp) ?_
          refine AllReadyIn.cons rfl (fun K hK => ?_) ?_
          · go_simp
            refine hK _ _ ?_
            clear hK K
            refine wpAnyIn_ready (rs := [4]) (by kernel_rfl) (by simp) ?_
            refine AllReadyIn.cons rfl (fun K hK => ?_) ?_
            · refine step_append_in rfl _ _ _ _ rfl rfl rfl rfl hap ?_
              refine hK _ _ ?_
              clear hK K
              refine wpAnyIn_ready (rs := [5]) (by kernel_rfl) (by simp) ?_
              refine AllReadyIn.cons rfl (fun K hK => ?_) ?_
              · go_simp
                refine hK _ _ ?_
                clear hK K
                refine wpAnyIn_done (by kernel_rfl) ?_ _
                exact ⟨(KeepsOthers.drew W).trans HF.out.1, ⟨((Below.refl _ W).drew).trans HF.out.2.1.1, fun v hv => HF.out.2.1.2.1 v hv, fun v hv => HF.out.2.1.2.2 v hv⟩, HF.out.2.2⟩
              exact AllReadyIn.nil
            exact AllReadyIn.nil
          exact AllReadyIn.nil
        exact AllReadyIn.nil
      refine AllReadyIn.cons rfl (fun K hK => ?_) ?_
      · go_simp
        refine ⟨trivial, (CallsIn.inRound l (callsIn_wide.2 (clone_msgs _ _ _ _ hxl W.drew hxr))).mono ?_⟩
        rintro e w1 ⟨⟨uv, rfl, hown1⟩, hb1⟩
        obtain ⟨Au, cu, huv⟩ := own_formN hown1
        subst huv
        obtain ⟨hcd, g, cap2, w2, hap, hc2, hf2, hko, hkp, hjp⟩ := HS.out w1 _ hb1 hown1
        have hcd2 : (w1.alloc (.cells #[.slice Au x.1.2.length cu] 23)).cell? ⟨w.heap.size, 0, none⟩ = some (.slice A1 us.length c1) := (World.cell?_alloc_lt w1 _ ⟨w.heap.size, 0, none⟩ (Nat.lt_of_lt_of_le (by show w.heap.size < W.drew.heap.size; exact Nat.lt_of_lt_of_le (by omega) hz) hb1.size)).trans hcd
        have HF := Lib.hid (And.intro hko (And.intro hkp hjp))
        clear hko hkp hjp
        refine hK _ _ ?_
        clear hK K
        refine wpAnyIn_ready (rs := [0, 3]) (by kernel_rfl) (by simp) ?_
        refine AllReadyIn.cons rfl (fun K hK => ?_) ?_
        · go_simp
          refine hK _ _ ?_
          clear hK K
          refine wpAnyIn_ready (rs := [3]) (by kernel_rfl) (by simp) ?_
          refine AllReadyIn.cons rfl (fun K hK => ?_) ?_
          · go_simp
            refine hK _ _ ?_
            clear hK K
            refine wpAnyIn_ready (rs := [4]) (by kernel_rfl) (by simp) ?_
            refine AllReadyIn.cons rfl (fun K hK => ?_) ?_
            · refine step_append_in rfl _ _ _ _ rfl rfl rfl rfl hap ?_
              refine hK _ _ ?_
              clear hK K
              refine wpAnyIn_ready (rs := [5]) (by kernel_rfl) (by simp) ?_
              refine AllReadyIn.cons rfl (fun K hK => ?_) ?_
              · go_simp
                refine hK _ _ ?_
                clear hK K
                refine wpAnyIn_done (by kernel_rfl) ?_ _
                exact ⟨(KeepsOthers.drew W).trans HF.out.1, ⟨((Below.refl _ W).drew).trans HF.out.2.1.1, fun v hv => HF.out.2.1.2.1 v hv, fun v hv => HF.out.2.1.2.2 v hv⟩, HF.out.2.2⟩
              exact AllReadyIn.nil
            exact AllReadyIn.nil
          exact AllReadyIn.nil
        refine AllReadyIn.cons rfl (fun K hK => ?_) ?_
        · go_simp
          refine hK _ _ ?_
          clear hK K
          refine wpAnyIn_ready (rs := [0]) (by kernel_rfl) (by simp) ?_
          refine AllReadyIn.cons rfl (fun K hK => ?_) ?_
          · go_simp
            refine hK _ _ ?_
            clear hK K
            refine wpAnyIn_ready (rs := [4]) (by kernel_rfl) (by simp) ?_
            refine AllReadyIn.cons rfl (fun K hK => ?_) ?_
            · refine step_append_in rfl _ _ _ _ rfl rfl rfl rfl hap ?_
              refine hK _ _ ?_
              clear hK K
              refine wpAnyIn_ready (rs := [5]) (by kernel_rfl) (by simp) ?_
              refine AllReadyIn.cons rfl (fun K hK => ?_) ?_
              · go_simp
                refine hK _ _ ?_
                clear hK K
                refine wpAnyIn_done (by kernel_rfl) ?_ _
                exact ⟨(KeepsOthers.drew W).trans HF.out.1, ⟨((Below.refl _ W).drew).trans HF.out.2.1.1, fun v hv => HF.out.2.1.2.1 v hv, fun v hv => HF.out.2.1.2.2 v hv⟩, HF.out.2.2⟩
              exact AllReadyIn.nil
            exact AllReadyIn.nil
          exact AllReadyIn.nil
        exact AllReadyIn.nil
      exact AllReadyIn.nil
    exact AllReadyIn.nil
  case done =>
    rintro D xs W hD hxs ⟨u, us, q, q', hb0, hbl, hbm, hP, hB, hz⟩ hK
    have hc0 := hb0.cell
    obtain ⟨A1, c1, hu1⟩ := own_formN hP.row
    have hcl : ∃ o, W.heap[D]? = some o ∧ o.isCells = false := ⟨_, hK, rfl⟩
    subst hu1
    gi_wp2
    refine ⟨by simp, .inl ⟨_, _, rfl, run_takeDeferred hK, ?_⟩⟩
    exact ⟨_, results_tmp rfl _ _ _, _, us, rfl, by rw [← hxs]; exact (hP.put hcl).low (by omega), hB.trans (belowK_b (w := w) (Nat.le_refl _) W D _ _ (by simp at hD; omega) hK rfl rfl)⟩
end Go.Proofs.Ytnidafgjbocfcaa.Msg
