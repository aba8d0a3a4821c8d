/- fault.Places. -/
import Derived.Test.YtlbgniiecbohcaaDoorFaults
import Derived.Deep.AppendLies
namespace Go.Proofs.YtlbgniiecbohcaaDoor.Errs
open Go Go.RowKit Go.Shelf Go.Extern.Stop Go.Stop Go.Extern
attribute [local go_sem] Oper.semAt_some

theorem faults_any (v : Value) (hv : v.oneCell' = true) (w : World) : Calls Tryd.prog 24 #[v] w fun e w' => e = .returned (.func (.func 34) #[] #[.pointer (some ⟨w.heap.size, 0, none⟩)]) ∧ w' = w.alloc (.cells #[v] 26) := by
  go_enter Tryd.func24, Tryd.ntmps24
  go_wp2
  go_ret
  exact ⟨rfl, rfl⟩

def ints (xs : List Int) : List Value := xs.map (Value.int .i64)

theorem set1_blk {w : World} {g : Nat} {a u : Value} {t : TypeId} (h : w.heap[g]? = some (.cells #[a] t (0, 0))) : (w.setCell ⟨g, 0, none⟩ u).heap[g]? = some (.cells #[u] t (0, 0)) := by
  simp [World.setCell, Array.getElem?_modify, h]
theorem own_setother {w : World} {base e T n g i : Nat} {v u : Value} {cs : Array Value} {xs : List Value} (h : w.ownsRow base e 1 v n xs) (hb : w.heap[g]? = some (.cells cs T (0, 0))) (hT : T ≠ e) :
    (w.setCell ⟨g, i, none⟩ u).ownsRow base e 1 v n xs := by
  refine ⟨h.1, ?_⟩
  rcases h.2 with h2 | ⟨k, cap, cur, hv, hg, hh, r⟩
  · exact Or.inl h2
  · refine Or.inr ⟨k, cap, cur, hv, hg, (Below.heap_setCell _ _ _ _ fun e => ?_).trans hh, r⟩
    subst e
    rw [hh] at hb
    injection hb with hb
    injection hb with _ ht
    exact hT ht.symm
theorem lt_blk {w : World} {g : Nat} {o : Obj} (h : w.heap[g]? = some o) : g < w.heap.size := by
  rcases Nat.lt_or_ge g w.heap.size with h1 | h1
  · exact h1
  · rw [Array.getElem?_eq_none h1] at h; cases h
theorem grown_blk {w w1 : World} {g base e T n : Nat} {v : Value} {cs : Array Value} {xs : List Value} (hb : w.heap[g]? = some (.cells cs T (0, 0))) (hg : w.grownBy w1 v.ownBlock) (hown : w.ownsRow base e 1 v n xs) (hT : T ≠ e) :
    w1.heap[g]? = some (.cells cs T (0, 0)) := by
  refine (hg.block g (lt_blk hb) fun heq => ?_).trans hb
  rcases hown.2 with ⟨rfl, _⟩ | ⟨k, cap, cur, rfl, _, hh, _⟩
  · simp [Value.ownBlock] at heq
  · simp [Value.ownBlock] at heq
    subst heq
    rw [hb] at hh
    injection hh with hh
    injection hh with _ ht
    exact hT ht

theorem own_cells {w : World} {base e size n : Nat} {v : Value} {xs : List Value} (h : w.ownsRow base e size v n xs) (j : Nat) (o : Obj) (hj : v.ownBlock = some j) (ho : w.heap[j]? = some o) : o.isCells = true := by
  rcases h.2 with ⟨rfl, _⟩ | ⟨k, cap, cur, rfl, _, hh, _⟩
  · simp [Value.ownBlock] at hj
  · simp [Value.ownBlock] at hj
    subst hj
    rw [hh] at ho
    cases ho
    rfl

/-- Between two rounds: the row, its box; the box of the iterator; what lay before. -/
def JP (w : World) (pre : List (El w)) (W : World) : Prop :=
  ∃ u q, W.heap[w.heap.size]? = some (.cells #[u] 23 (0, 0)) ∧ W.heap[w.heap.size + 1]? = some (.cells #[q] 26 (0, 0)) ∧ W.ownsRow w.heap.size 3 1 u pre.length (ints (pre.map fun x => x.1.2)) ∧ Below w.heap.size w W

theorem infoI : (Tryd.prog.info? 3).map (fun i => (i.zero, i.size, i.bytes)) = some (some (.int .i64 0), 1, 8) := by kernel_rfl

set_option maxRecDepth 100000 in
set_option maxHeartbeats 1000000 in
theorem places_any (l : List Int) (b : Base) (t : TypeId) (z : Value) (w : World) (h : Ch w l b (.iface t z)) (hl : l.length ≤ 1000) :
    Calls Tryd.prog 8 #[.iface t z] w fun e w' => ∃ u, e = .returned u ∧ w'.ownsRow w.heap.size 3 1 u l.length (ints l) ∧ Below w.heap.size w w' := by
  refine (callsIn_wide (n := 6)).1 ?_
  refine callsIn_of_wp_marks Tryd.func8 rfl trivial ?_
  simp only [Tryd.ntmps8, List.size_toArray, List.length_cons, List.length_nil, Nat.reduceAdd, Nat.reduceSub, Array.replicate_succ, Array.replicate_zero, List.push_toArray, List.append_toArray, List.nil_append, List.cons_append]
  gi_wp2_with (refine ⟨trivial, ?_⟩; gi_at_call 24; refine (callsIn_wide.2 (faults_any _ rfl _)).mono ?_; rintro e w' ⟨rfl, rfl⟩)
  have hB1 : Below w.heap.size w ((w.alloc (.cells #[.slice none 0 0] 23)).alloc (.cells #[.iface t z] 26)) := ((Below.refl _ w).alloc (Nat.le_refl _) _).alloc (by simp) _
  refine range_round (gf := 34) (lb := #[.pointer (some ⟨w.heap.size + 1, 0, none⟩)]) rfl (by decide) rfl trivial (enters_of Tryd.func34 (by kernel_rfl) rfl)
    (encs := fun x : El w => #[.pointer (some ⟨x.1.1, 0, none⟩)]) (fun _ => rfl) (JP w)
    (faults_iter 5 (by decide) w _ l b (.iface t z) (w.heap.size + 1) h hl (by simp) (by simp) (JP w) ?_ ?_) ?_ ?_
    (fun x => { tmps := #[.iface t z, undef, .slice none 0 0, .pointer (some ⟨w.heap.size, 0, none⟩), .pointer (some ⟨x.1.1, 0, none⟩), .iface t z, .func (.func 34) #[] #[.pointer (some ⟨w.heap.size + 1, 0, none⟩)], .pointer (some ⟨x.1.1, 0, none⟩), undef, undef, undef, undef, undef, undef, undef, undef, undef, undef, undef], defers := [] }) ?assign ?body ?done
  · rintro pre W ⟨u, q, _, hq, _, hB⟩
    exact ⟨hB, ⟨q, cell_of_row _ _ 0 _ _ _ hq⟩, by simp [World.frozen?, hq]⟩
  · rintro pre W v ⟨u, q, hb, hq, hown, hB⟩
    refine ⟨u, v, (Below.heap_setCell _ _ _ _ (by simp)).trans hb, set1_blk hq, own_setother hown hq (by decide), hB.setCell (p := ⟨w.heap.size + 1, 0, none⟩) (Nat.le_succ _) _⟩
  · rintro pre W k o' ⟨u, q, hb, hq, hown, hB⟩ hk ⟨o, ho, hoc⟩
    have hne : ∀ (j : Nat) (cs : Array Value) (t : TypeId) (fr : Nat × Nat), W.heap[j]? = some (Obj.cells cs t fr) → (W.putObj k o').heap[j]? = some (Obj.cells cs t fr) := fun j cs t fr hj =>
      (World.putObj_heap_other (fun e => by subst e; rw [ho] at hj; cases hj; cases hoc)).trans hj
    refine ⟨u, q, hne _ _ _ _ hb, hne _ _ _ _ hq, ⟨hown.1, ?_⟩, ?_⟩
    · rcases hown.2 with h2 | ⟨g, cap, cur, hv, hg, hh, r⟩
      · exact Or.inl h2
      · exact Or.inr ⟨g, cap, cur, hv, hg, hne _ _ _ _ hh, r⟩
    · exact hB.trans ((Below.refl _ _).grown (grownBy_putObj' W k o') hB.size (fun j e => by cases e; simp at hk; omega))
  · intro o o'
    refine ⟨.slice none 0 0, .iface t z, ?_, ?_, World.ownsRow_nil _ _ _ _, (hB1.alloc (by simp; omega) _).alloc (by simp; omega) _⟩
    · rw [Below.heap_alloc _ _ _ (by simp; omega), Below.heap_alloc _ _ _ (by simp; omega), Below.heap_alloc _ _ _ (by simp)]
      exact heap_alloc_new w _
    · rw [Below.heap_alloc _ _ _ (by simp), Below.heap_alloc _ _ _ (by simp)]
      have := heap_alloc_new (w.alloc (.cells #[.slice none 0 0] 23)) (.cells #[.iface t z] 26)
      simpa using this
  case assign =>
    intro l x W K hK
    gi_wp2
    exact hK
  case body =>
    rintro k pre x W ⟨u, q, hb, hq, hown, hB⟩ hlen
    have hc0 := cell_of_row _ _ 0 _ _ _ hb
    have hf0 : W.frozen? ⟨w.heap.size, 0, none⟩ = false := by simp [World.frozen?, hb]
    have hpx := (hB.cell (p := ⟨x.1.1, 0, none⟩) x.2.1).trans x.2.2
    obtain ⟨A, c, rfl⟩ := own_form hown
    have hn1 : ((pre.length : Int) == 1024) = false := by simp; omega
    have hWl : w.heap.size < W.heap.size := (Array.getElem?_eq_some_iff.1 hb).1
    have hpl : x.1.1 < W.heap.size := Nat.lt_of_lt_of_le x.2.1 hB.size
    obtain ⟨i0, hi, hz0, hz1, hz2⟩ := info_parts infoI
    obtain ⟨g, cap, w1, hap, hown1, hgr, hat, hgl⟩ := run_append_lies (P := Tryd.prog) (W.drew.alloc (.cells #[.int .i64 x.1.2] 3)) 23 23 w.heap.size 3 i0 (.int .i64 0) 1 8 Tryd.underlying23 hi hz0 hz1 hz2 rfl (by decide)
      (.slice A pre.length c) pre.length _ (hown.drew.alloc _) ⟨W.heap.size, 0, none⟩ 1 1 [.int .i64 x.1.2] rfl (cell_one_new _ _ _) (by simp [Value.oneCell']) (by decide) (by simp [maxLen]; omega) (by omega) (by simp; omega) (W.heap.size + 1) (by simp)
    gi_wp2
    refine wpIn_region_any (by kernel_rfl) ?_
    change wpAnyIn _ _ _ _ _ _ _ _ _ (World.drew _)
    have hpd : (W.drew).cell? ⟨x.1.1, 0, none⟩ = some (.int .i64 x.1.2) := hpx
    have hcd : (W.drew).cell? ⟨w.heap.size, 0, none⟩ = some (.slice A pre.length c) := hc0
    have hca : (W.drew.alloc (.cells #[.int .i64 x.1.2] 3)).cell? ⟨w.heap.size, 0, none⟩ = some (.slice A pre.length c) := (World.cell?_alloc_lt _ _ ⟨w.heap.size, 0, none⟩ hWl).trans hcd
    have hca2 : (W.alloc (.cells #[.int .i64 x.1.2] 3)).drew.cell? ⟨w.heap.size, 0, none⟩ = some (.slice A pre.length c) := hca
    have hb1 : w1.heap[w.heap.size]? = some (.cells #[.slice A pre.length c] 23 (0, 0)) := grown_blk (by rw [Below.heap_alloc _ _ _ (by exact hWl)]; exact hb) hgr (hown.drew.alloc _) (by decide)
    have hq1 : w1.heap[w.heap.size + 1]? = some (.cells #[q] 26 (0, 0)) := grown_blk (by rw [Below.heap_alloc _ _ _ (by exact (Array.getElem?_eq_some_iff.1 hq).1)]; exact hq) hgr (hown.drew.alloc _) (by decide)
    have hc1 : w1.cell? ⟨w.heap.size, 0, none⟩ = some (.slice A pre.length c) := cell_of_row _ _ 0 _ _ _ hb1
    have hf1 : w1.frozen? ⟨w.heap.size, 0, none⟩ = false := by simp [World.frozen?, hb1]
    have HF := Lib.hid (show KeepsOthers W (w1.setCell ⟨w.heap.size, 0, none⟩ (.slice (some ⟨g, 0, none⟩) (pre.length + 1) cap)) ∧ JP w (pre ++ [x]) (w1.setCell ⟨w.heap.size, 0, none⟩ (.slice (some ⟨g, 0, none⟩) (pre.length + 1) cap)) from by
      have hB1' : Below w.heap.size w w1 := (hB.trans ((Below.refl _ _).drew.alloc (by exact Nat.le_of_lt hWl) _)).grown hgr (by simp; omega) (own_ge hown)
      refine ⟨?_, .slice (some ⟨g, 0, none⟩) (pre.length + 1) cap, q, set1_blk hb1, (Below.heap_setCell _ _ _ _ (by simp)).trans hq1, ?_, hB1'.setCell (p := ⟨w.heap.size, 0, none⟩) (Nat.le_refl _) _⟩
      · refine KeepsOthers.trans ?_ (KeepsOthers.setCell _ _ _)
        refine KeepsOthers.trans (KeepsOthers.trans (KeepsOthers.drew _) (KeepsOthers.alloc _ _)) (KeepsOthers.of_grownBy hgr ?_)
        exact fun j o hj ho => own_cells (hown.drew.alloc _) j o hj ho
      · have := own_setother (u := .slice (some ⟨g, 0, none⟩) (pre.length + 1) cap) (i := 0) hown1 hb1 (by decide)
        simpa [ints] using this)
    clear hb1 hb hq hown hgr hat hgl hown1 hB hlen hWl hpl hpx hc0
    refine wpAnyIn_ready (rs := [0, 1]) (by kernel_rfl) (by simp) ?_
    refine AllReadyIn.cons rfl (fun K hK => ?_) ?_
    · go_simp
      refine hK _ _ ?_
      clear hK K
      refine wpAnyIn_ready (rs := [1]) (by kernel_rfl) (by simp) ?_
      refine AllReadyIn.cons rfl (fun K hK => ?_) ?_
      · go_simp
        refine hK _ _ ?_
        clear hK K
        refine wpAnyIn_ready (rs := [2]) (by kernel_rfl) (by simp) ?_
        refine AllReadyIn.cons rfl (fun K hK => ?_) ?_
        · go_simp
          refine hK _ _ ?_
          clear hK K
          refine wpAnyIn_ready (rs := [3]) (by kernel_rfl) (by simp) ?_
          refine AllReadyIn.cons rfl (fun K hK => ?_) ?_
          · go_simp
            refine hK _ _ ?_
            clear hK K
            refine wpAnyIn_ready (rs := [4]) (by kernel_rfl) (by simp) ?_
            refine AllReadyIn.cons rfl (fun K hK => ?_) ?_
            · go_simp
              refine hK _ _ ?_
              clear hK K
              refine wpAnyIn_ready (rs := [5]) (by kernel_rfl) (by simp) ?_
              refine AllReadyIn.cons rfl (fun K hK => ?_) ?_
              · go_simp
                refine hK _ _ ?_
                clear hK K
                refine wpAnyIn_ready (rs := [6]) (by kernel_rfl) (by simp) ?_
                refine AllReadyIn.cons rfl (fun K hK => ?_) ?_
                · refine step_append_in rfl _ _ _ _ rfl rfl rfl rfl hap ?_
                  refine hK _ _ ?_
                  clear hK K
                  simp only [Act.put, List.setIfInBounds_toArray]
                  refine wpAnyIn_ready (rs := [7]) (by kernel_rfl) (by simp) ?_
                  refine AllReadyIn.cons rfl (fun K hK => ?_) AllReadyIn.nil
                  go_simp
                  refine hK _ _ ?_
                  clear hK K
                  refine wpAnyIn_done (by kernel_rfl) ?_ _
                  exact HF.out
                exact AllReadyIn.nil
              exact AllReadyIn.nil
            exact AllReadyIn.nil
          exact AllReadyIn.nil
        exact AllReadyIn.nil
      exact AllReadyIn.nil
    refine AllReadyIn.cons rfl (fun K hK => ?_) ?_
    · go_simp
      refine hK _ _ ?_
      clear hK K
      refine wpAnyIn_ready (rs := [0, 2]) (by kernel_rfl) (by simp) ?_
      refine AllReadyIn.cons rfl (fun K hK => ?_) ?_
      · go_simp
        refine hK _ _ ?_
        clear hK K
        refine wpAnyIn_ready (rs := [2]) (by kernel_rfl) (by simp) ?_
        refine AllReadyIn.cons rfl (fun K hK => ?_) ?_
        · go_simp
          refine hK _ _ ?_
          clear hK K
          refine wpAnyIn_ready (rs := [3]) (by kernel_rfl) (by simp) ?_
          refine AllReadyIn.cons rfl (fun K hK => ?_) ?_
          · go_simp
            refine hK _ _ ?_
            clear hK K
            refine wpAnyIn_ready (rs := [4]) (by kernel_rfl) (by simp) ?_
            refine AllReadyIn.cons rfl (fun K hK => ?_) ?_
            · go_simp
              refine hK _ _ ?_
              clear hK K
              refine wpAnyIn_ready (rs := [5]) (by kernel_rfl) (by simp) ?_
              refine AllReadyIn.cons rfl (fun K hK => ?_) ?_
              · go_simp
                refine hK _ _ ?_
                clear hK K
                refine wpAnyIn_ready (rs := [6]) (by kernel_rfl) (by simp) ?_
                refine AllReadyIn.cons rfl (fun K hK => ?_) ?_
                · refine step_append_in rfl _ _ _ _ rfl rfl rfl rfl hap ?_
                  refine hK _ _ ?_
                  clear hK K
                  simp only [Act.put, List.setIfInBounds_toArray]
                  refine wpAnyIn_ready (rs := [7]) (by kernel_rfl) (by simp) ?_
                  refine AllReadyIn.cons rfl (fun K hK => ?_) AllReadyIn.nil
                  go_simp
                  refine hK _ _ ?_
                  clear hK K
                  refine wpAnyIn_done (by kernel_rfl) ?_ _
                  exact HF.out
                exact AllReadyIn.nil
              exact AllReadyIn.nil
            exact AllReadyIn.nil
          exact AllReadyIn.nil
        exact AllReadyIn.nil
      refine AllReadyIn.cons rfl (fun K hK => ?_) ?_
      · go_simp
        refine hK _ _ ?_
        clear hK K
        refine wpAnyIn_ready (rs := [0, 3]) (by kernel_rfl) (by simp) ?_
        refine AllReadyIn.cons rfl (fun K hK => ?_) ?_
        · go_simp
          refine hK _ _ ?_
          clear hK K
          refine wpAnyIn_ready (rs := [3]) (by kernel_rfl) (by simp) ?_
          refine AllReadyIn.cons rfl (fun K hK => ?_) ?_
          · go_simp
            refine hK _ _ ?_
            clear hK K
            refine wpAnyIn_ready (rs := [4]) (by kernel_rfl) (by simp) ?_
            refine AllReadyIn.cons rfl (fun K hK => ?_) ?_
            · go_simp
              refine hK _ _ ?_
              clear hK K
              refine wpAnyIn_ready (rs := [5]) (by kernel_rfl) (by simp) ?_
              refine AllReadyIn.cons rfl (fun K hK => ?_) ?_
              · go_simp
                refine hK _ _ ?_
                clear hK K
                refine wpAnyIn_ready (rs := [6]) (by kernel_rfl) (by simp) ?_
                refine AllReadyIn.cons rfl (fun K hK => ?_) ?_
                · refine step_append_in rfl _ _ _ _ rfl rfl rfl rfl hap ?_
                  refine hK _ _ ?_
                  clear hK K
                  simp only [Act.put, List.setIfInBounds_toArray]
                  refine wpAnyIn_ready (rs := [7]) (by kernel_rfl) (by simp) ?_
                  refine AllReadyIn.cons rfl (fun K hK => ?_) AllReadyIn.nil
                  go_simp
                  refine hK _ _ ?_
                  clear hK K
                  refine wpAnyIn_done (by kernel_rfl) ?_ _
                  exact HF.out
                exact AllReadyIn.nil
              exact AllReadyIn.nil
            exact AllReadyIn.nil
          exact AllReadyIn.nil
        refine AllReadyIn.cons rfl (fun K hK => ?_) ?_
        · go_simp
          refine hK _ _ ?_
          clear hK K
          refine wpAnyIn_ready (rs := [0, 4]) (by kernel_rfl) (by simp) ?_
          refine AllReadyIn.cons rfl (fun K hK => ?_) ?_
          · go_simp
            refine hK _ _ ?_
            clear hK K
            refine wpAnyIn_ready (rs := [4]) (by kernel_rfl) (by simp) ?_
            refine AllReadyIn.cons rfl (fun K hK => ?_) ?_
            · go_simp
              refine hK _ _ ?_
              clear hK K
              refine wpAnyIn_ready (rs := [5]) (by kernel_rfl) (by simp) ?_
              refine AllReadyIn.cons rfl (fun K hK => ?_) ?_
              · go_simp
                refine hK _ _ ?_
                clear hK K
                refine wpAnyIn_ready (rs := [6]) (by kernel_rfl) (by simp) ?_
                refine AllReadyIn.cons rfl (fun K hK => ?_) ?_
                · refine step_append_in rfl _ _ _ _ rfl rfl rfl rfl hap ?_
                  refine hK _ _ ?_
                  clear hK K
                  simp only [Act.put, List.setIfInBounds_toArray]
                  refine wpAnyIn_ready (rs := [7]) (by kernel_rfl) (by simp) ?_
                  refine AllReadyIn.cons rfl (fun K hK => ?_) AllReadyIn.nil
                  go_simp
                  refine hK _ _ ?_
                  clear hK K
                  refine wpAnyIn_done (by kernel_rfl) ?_ _
                  exact HF.out
                exact AllReadyIn.nil
              exact AllReadyIn.nil
            exact AllReadyIn.nil
          refine AllReadyIn.cons rfl (fun K hK => ?_) ?_
          · go_simp
            refine hK _ _ ?_
            clear hK K
            refine wpAnyIn_ready (rs := [0, 5]) (by kernel_rfl) (by simp) ?_
            refine AllReadyIn.cons rfl (fun K hK => ?_) ?_
            · go_simp
              refine hK _ _ ?_
              clear hK K
              refine wpAnyIn_ready (rs := [5]) (by kernel_rfl) (by simp) ?_
              refine AllReadyIn.cons rfl (fun K hK => ?_) ?_
              · go_simp
                refine hK _ _ ?_
                clear hK K
                refine wpAnyIn_ready (rs := [6]) (by kernel_rfl) (by simp) ?_
                refine AllReadyIn.cons rfl (fun K hK => ?_) ?_
                · refine step_append_in rfl _ _ _ _ rfl rfl rfl rfl hap ?_
                  refine hK _ _ ?_
                  clear hK K
                  simp only [Act.put, List.setIfInBounds_toArray]
                  refine wpAnyIn_ready (rs := [7]) (by kernel_rfl) (by simp) ?_
                  refine AllReadyIn.cons rfl (fun K hK => ?_) AllReadyIn.nil
                  go_simp
                  refine hK _ _ ?_
                  clear hK K
                  refine wpAnyIn_done (by kernel_rfl) ?_ _
                  exact HF.out
                exact AllReadyIn.nil
              exact AllReadyIn.nil
            refine AllReadyIn.cons rfl (fun K hK => ?_) ?_
            · go_simp
              refine hK _ _ ?_
              clear hK K
              refine wpAnyIn_ready (rs := [0]) (by kernel_rfl) (by simp) ?_
              refine AllReadyIn.cons rfl (fun K hK => ?_) ?_
              · go_simp
                refine hK _ _ ?_
                clear hK K
                refine wpAnyIn_ready (rs := [6]) (by kernel_rfl) (by simp) ?_
                refine AllReadyIn.cons rfl (fun K hK => ?_) ?_
                · refine step_append_in rfl _ _ _ _ rfl rfl rfl rfl hap ?_
                  refine hK _ _ ?_
                  clear hK K
                  simp only [Act.put, List.setIfInBounds_toArray]
                  refine wpAnyIn_ready (rs := [7]) (by kernel_rfl) (by simp) ?_
                  refine AllReadyIn.cons rfl (fun K hK => ?_) AllReadyIn.nil
                  go_simp
                  refine hK _ _ ?_
                  clear hK K
                  refine wpAnyIn_done (by kernel_rfl) ?_ _
                  exact HF.out
                exact AllReadyIn.nil
              exact AllReadyIn.nil
            exact AllReadyIn.nil
          exact AllReadyIn.nil
        exact AllReadyIn.nil
      exact AllReadyIn.nil
    exact AllReadyIn.nil
  case done =>
    rintro D xs W hD hxs ⟨u, q, hb, hq, hown, hB⟩ hK
    have hc0 := cell_of_row _ _ 0 _ _ _ hb
    have hlen : xs.length = l.length := by rw [← hxs, List.length_map]
    obtain ⟨A, c, rfl⟩ := own_form hown
    gi_wp2
    refine ⟨by simp, .inl ⟨_, _, rfl, run_takeDeferred hK, ?_⟩⟩
    exact ⟨_, results_tmp rfl _ _ _, _, rfl, by rw [← hlen, ← hxs]; exact ownsRow_putObj hown _ hK rfl, hB.trans (belowK_b (w := w) (Nat.le_refl _) W D _ _ (by simp at hD; omega) hK rfl rfl)⟩

end Go.Proofs.YtlbgniiecbohcaaDoor.Errs
