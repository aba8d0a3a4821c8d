import Derived.Test.YtlpnecmcncekcaaGreatSnapA
/- sort.Slice of a row of entries by the closure of a table's All. -/
namespace Go.Proofs.YtlpnecmcncekcaaGreat.Mk
open Go Go.RowKit Go.MuLone Go.Lib

set_option maxRecDepth 20000 in
set_option maxHeartbeats 2000000 in
theorem allLess (X g n c i j : Nat) (a b : K3) (W : World) (hX : W.heap[X]? = some (.cells #[.slice (some ⟨g, 0, none⟩) n c] 35 (0, 0))) (ha : KeyAt W g i a) (hb : KeyAt W g j b) (hi : i < n) (hj : j < n) :
    Calls Tryz.prog 39 #[.int .i64 i, .int .i64 j, .pointer (some ⟨X, 0, none⟩)] W fun e w' => e = .returned (.bool (ltK a b)) ∧ Below W.heap.size W w' := by
  have HL := Lib.hid (less_any a b W.drew)
  generalize ltK a b = r at HL ⊢
  obtain ⟨a1, a2, a3⟩ := a
  obtain ⟨b1, b2, b3⟩ := b
  unfold K3.val at HL
  have i0 : ¬ ((i : Int) < 0) := by omega
  have j0 : ¬ ((j : Int) < 0) := by omega
  go_enter Tryz.func39, Tryz.ntmps39
  go_upto_region 1 with fail
  refine wp_region_held_drew (S := (fun V => V.heap[X]? = some (.cells #[.slice (some ⟨g, 0, none⟩) n c] 35 (0, 0)) ∧ KeyAt V g i ⟨a1, a2, a3⟩ ∧ KeyAt V g j ⟨b1, b2, b3⟩)) (by kernel_rfl) ⟨hX, ⟨ha.c, ha.f, ha.s⟩, ⟨hb.c, hb.f, hb.s⟩⟩ (fun hHeld => ?_)
  refine wpAnyH_take (i := 0) (oi := _) (v := ?_) rfl (by kernel_rfl) (by kernel_rfl) (by kernel_rfl) (fun _ _ _ h => h) (Or.inl ⟨by rfl, ?_⟩) (by assumption) ?_
  rotate_left
  · (intro V hSw; have qx := cell_of_row V X 0 _ _ (0, 0) hSw.1; have q0 := hSw.2.1.c; have q1 := hSw.2.1.f; have q2 := hSw.2.1.s; have r0 := hSw.2.2.c; have r1 := hSw.2.2.f; have r2 := hSw.2.2.s; clear hSw; go_simp; try with_reducible rfl)
  try simp only [Act.put, List.getElem_toArray, List.getElem_cons_zero, List.setIfInBounds_toArray, List.set_cons_zero, List.set_cons_succ]
  refine wpAnyH_take (i := 1) (oi := _) (v := ?_) rfl (by kernel_rfl) (by kernel_rfl) (by kernel_rfl) (fun _ _ _ h => h) (Or.inl ⟨by rfl, ?_⟩) (by assumption) ?_
  rotate_left
  · (intro V hSw; have qx := cell_of_row V X 0 _ _ (0, 0) hSw.1; have q0 := hSw.2.1.c; have q1 := hSw.2.1.f; have q2 := hSw.2.1.s; have r0 := hSw.2.2.c; have r1 := hSw.2.2.f; have r2 := hSw.2.2.s; clear hSw; go_simp; try with_reducible rfl)
  try simp only [Act.put, List.getElem_toArray, List.getElem_cons_succ, List.getElem_cons_zero, List.setIfInBounds_toArray, List.set_cons_zero, List.set_cons_succ]
  refine wpAnyH_take (i := 2) (oi := _) (v := ?_) rfl (by kernel_rfl) (by kernel_rfl) (by kernel_rfl) (fun _ _ _ h => h) (Or.inl ⟨by rfl, ?_⟩) (by assumption) ?_
  rotate_left
  · (intro V hSw; have qx := cell_of_row V X 0 _ _ (0, 0) hSw.1; have q0 := hSw.2.1.c; have q1 := hSw.2.1.f; have q2 := hSw.2.1.s; have r0 := hSw.2.2.c; have r1 := hSw.2.2.f; have r2 := hSw.2.2.s; clear hSw; go_simp; try with_reducible rfl)
  try simp only [Act.put, List.getElem_toArray, List.getElem_cons_succ, List.getElem_cons_zero, List.setIfInBounds_toArray, List.set_cons_zero, List.set_cons_succ]
  refine wpAnyH_take (i := 3) (oi := _) (v := ?_) rfl (by kernel_rfl) (by kernel_rfl) (by kernel_rfl) (fun _ _ _ h => h) (Or.inl ⟨by rfl, ?_⟩) (by assumption) ?_
  rotate_left
  · (intro V hSw; have qx := cell_of_row V X 0 _ _ (0, 0) hSw.1; have q0 := hSw.2.1.c; have q1 := hSw.2.1.f; have q2 := hSw.2.1.s; have r0 := hSw.2.2.c; have r1 := hSw.2.2.f; have r2 := hSw.2.2.s; clear hSw; go_simp; try with_reducible rfl)
  try simp only [Act.put, List.getElem_toArray, List.getElem_cons_succ, List.getElem_cons_zero, List.setIfInBounds_toArray, List.set_cons_zero, List.set_cons_succ]
  refine wpAnyH_take (i := 4) (oi := _) (v := ?_) rfl (by kernel_rfl) (by kernel_rfl) (by kernel_rfl) (fun _ _ _ h => h) (Or.inl ⟨by rfl, ?_⟩) (by assumption) ?_
  rotate_left
  · (intro V hSw; have qx := cell_of_row V X 0 _ _ (0, 0) hSw.1; have q0 := hSw.2.1.c; have q1 := hSw.2.1.f; have q2 := hSw.2.1.s; have r0 := hSw.2.2.c; have r1 := hSw.2.2.f; have r2 := hSw.2.2.s; clear hSw; go_simp; try with_reducible rfl)
  try simp only [Act.put, List.getElem_toArray, List.getElem_cons_succ, List.getElem_cons_zero, List.setIfInBounds_toArray, List.set_cons_zero, List.set_cons_succ]
  refine wpAnyH_take (i := 5) (oi := _) (v := ?_) rfl (by kernel_rfl) (by kernel_rfl) (by kernel_rfl) (fun _ _ _ h => h) (Or.inl ⟨by rfl, ?_⟩) (by assumption) ?_
  rotate_left
  · (intro V hSw; have qx := cell_of_row V X 0 _ _ (0, 0) hSw.1; have q0 := hSw.2.1.c; have q1 := hSw.2.1.f; have q2 := hSw.2.1.s; have r0 := hSw.2.2.c; have r1 := hSw.2.2.f; have r2 := hSw.2.2.s; clear hSw; go_simp; try with_reducible rfl)
  try simp only [Act.put, List.getElem_toArray, List.getElem_cons_succ, List.getElem_cons_zero, List.setIfInBounds_toArray, List.set_cons_zero, List.set_cons_succ]
  refine wpAnyH_take (i := 6) (oi := _) (v := ?_) rfl (by kernel_rfl) (by kernel_rfl) (by kernel_rfl) (fun _ _ _ h => h) (Or.inl ⟨by rfl, ?_⟩) (by assumption) ?_
  rotate_left
  · (intro V hSw; have qx := cell_of_row V X 0 _ _ (0, 0) hSw.1; have q0 := hSw.2.1.c; have q1 := hSw.2.1.f; have q2 := hSw.2.1.s; have r0 := hSw.2.2.c; have r1 := hSw.2.2.f; have r2 := hSw.2.2.s; clear hSw; go_simp; try with_reducible rfl)
  try simp only [Act.put, List.getElem_toArray, List.getElem_cons_succ, List.getElem_cons_zero, List.setIfInBounds_toArray, List.set_cons_zero, List.set_cons_succ]
  refine wpAnyH_take (i := 7) (oi := _) (v := ?_) rfl (by kernel_rfl) (by kernel_rfl) (by kernel_rfl) (fun _ _ _ h => h) (Or.inl ⟨by rfl, ?_⟩) (by assumption) ?_
  rotate_left
  · (intro V hSw; have qx := cell_of_row V X 0 _ _ (0, 0) hSw.1; have q0 := hSw.2.1.c; have q1 := hSw.2.1.f; have q2 := hSw.2.1.s; have r0 := hSw.2.2.c; have r1 := hSw.2.2.f; have r2 := hSw.2.2.s; clear hSw; go_simp; try with_reducible rfl)
  try simp only [Act.put, List.getElem_toArray, List.getElem_cons_succ, List.getElem_cons_zero, List.setIfInBounds_toArray, List.set_cons_zero, List.set_cons_succ]
  refine wpAnyH_take (i := 8) (oi := _) (v := ?_) rfl (by kernel_rfl) (by kernel_rfl) (by kernel_rfl) (fun _ _ _ h => h) (Or.inl ⟨by rfl, ?_⟩) (by assumption) ?_
  rotate_left
  · (intro V hSw; have qx := cell_of_row V X 0 _ _ (0, 0) hSw.1; have q0 := hSw.2.1.c; have q1 := hSw.2.1.f; have q2 := hSw.2.1.s; have r0 := hSw.2.2.c; have r1 := hSw.2.2.f; have r2 := hSw.2.2.s; clear hSw; go_simp; try with_reducible rfl)
  try simp only [Act.put, List.getElem_toArray, List.getElem_cons_succ, List.getElem_cons_zero, List.setIfInBounds_toArray, List.set_cons_zero, List.set_cons_succ]
  refine wpAnyH_take (i := 9) (oi := _) (v := ?_) rfl (by kernel_rfl) (by kernel_rfl) (by kernel_rfl) (fun _ _ _ h => h) (Or.inl ⟨by rfl, ?_⟩) (by assumption) ?_
  rotate_left
  · (intro V hSw; have qx := cell_of_row V X 0 _ _ (0, 0) hSw.1; have q0 := hSw.2.1.c; have q1 := hSw.2.1.f; have q2 := hSw.2.1.s; have r0 := hSw.2.2.c; have r1 := hSw.2.2.f; have r2 := hSw.2.2.s; clear hSw; go_simp; try with_reducible rfl)
  try simp only [Act.put, List.getElem_toArray, List.getElem_cons_succ, List.getElem_cons_zero, List.setIfInBounds_toArray, List.set_cons_zero, List.set_cons_succ]
  refine wpAnyH_ready (rs := [10]) (by kernel_rfl) (by simp) ?_
  refine AllReadyH.cons rfl (fun K hK => ?_) AllReadyH.nil
  simp only [List.getElem_toArray, List.getElem_cons_succ, List.getElem_cons_zero]
  rw [if_pos (by rfl)]
  go_simp
  refine HL.out.mono ?_
  rintro _ w1 ⟨rfl, hB⟩
  go_wp2_with fail
  refine hK.out _ _ ⟨(hB.block _ (Array.getElem?_eq_some_iff.1 hX).1).trans hX, ⟨(hB.cell (World.block_lt_of_cell? _ _ ha.c)).trans ha.c, (hB.cell (World.block_lt_of_cell? _ _ ha.f)).trans ha.f, (hB.cell (World.block_lt_of_cell? _ _ ha.s)).trans ha.s⟩, ⟨(hB.cell (World.block_lt_of_cell? _ _ hb.c)).trans hb.c, (hB.cell (World.block_lt_of_cell? _ _ hb.f)).trans hb.f, (hB.cell (World.block_lt_of_cell? _ _ hb.s)).trans hb.s⟩⟩ (fun hHeld => ?_)
  clear hK K
  try simp only [Act.put, List.getElem_toArray, List.getElem_cons_succ, List.getElem_cons_zero, List.setIfInBounds_toArray, List.set_cons_zero, List.set_cons_succ]
  refine wpAnyH_take (i := 11) (oi := _) (v := ?_) rfl (by kernel_rfl) (by kernel_rfl) (by kernel_rfl) (fun _ _ _ h => h) (Or.inl ⟨by rfl, ?_⟩) (by assumption) ?_
  rotate_left
  · (intro V hSw; (try dsimp only at hSw); clear hSw; go_simp; try with_reducible rfl)
  try simp only [Act.put, List.getElem_toArray, List.getElem_cons_succ, List.getElem_cons_zero, List.setIfInBounds_toArray, List.set_cons_zero, List.set_cons_succ]
  refine wpAnyH_done (by kernel_rfl) ?_ _
  go_wp2
  go_ret
  exact ⟨rfl, (Below.refl _ W).drew.trans hB⟩
/-- sort.Slice of two entries or more: the row's box lies in X. -/
theorem asort_two (X g c : Nat) (d : Array En) (w : World) (h2 : 2 ≤ d.size) (hsz : d.size < 4611686018427387904) (hH : Sort.HoldsK encE 5 w g 0 d) (hg : g < w.heap.size) (hX : w.heap[X]? = some (.cells #[.slice (some ⟨g, 0, none⟩) d.size c] TLn (0, 0))) (hne : X ≠ g) :
    Calls Tryz.prog 38 #[.iface TLn (.slice (some ⟨g, 0, none⟩) d.size c), .func (.func 39) #[] #[.pointer (some ⟨X, 0, none⟩)]] w fun e w' =>
      e = .returned (.tuple #[]) ∧ ∃ d', Sort.PermIn 0 d.size d d' ∧ Sort.SortedIn ltE 0 d.size d' ∧ St.RowT encE 5 w w.heap.size g 0 d.size d' w' := by
  have hlt : X < w.heap.size := (Array.getElem?_eq_some_iff.1 hX).1
  exact St.slice_any laysSl TLn TEn slT slE (by kernel_rfl) (by kernel_rfl) (by kernel_rfl) (by kernel_rfl) 25 (fun _ => by kernel_rfl) encE 5 encE_len slB (fun _ => by kernel_rfl) encE_one ltE swo_ltE
    39 #[.pointer (some ⟨X, 0, none⟩)] (enters_of Tryz.func39 (by kernel_rfl) rfl) g 0 c d h2 hsz 92 (by rw [slK _ h2]; kernel_rfl) false
    (fun args W => run_callFunc_extern Tryz.func92 (by kernel_rfl) (by kernel_rfl) (by kernel_rfl) (e := Extern.ReflectliteSwapper.swap false) (by kernel_rfl) args W) w hH hg
    (fun d' W h i j hi hj => allLess X g d.size c i j d'[i]!.k d'[j]!.k W ((h.rest X hlt hne).trans hX) (keyAt_of h.holds (by rw [h.sz]; exact hi)) (keyAt_of h.holds (by rw [h.sz]; exact hj)) hi hj)
theorem asort_any (X base : Nat) (v : Value) (acc : List En) (V : World) (hrow : V.ownsRow base TEn 5 v acc.length (ecs acc)) (hX : V.heap[X]? = some (.cells #[v] TLn (0, 0))) (hXb : X < base) (hlen : acc.length ≤ 1000) :
    Calls Tryz.prog 38 #[.iface TLn v, .func (.func 39) #[] #[.pointer (some ⟨X, 0, none⟩)]] V fun e w' => e = .returned (.tuple #[]) ∧ ∃ ls, ls.Perm acc ∧ ls.Pairwise (fun a b => ltE b a = false) ∧ RowE base w' v ls ∧ w'.heap[X]? = some (.cells #[v] TLn (0, 0)) ∧ V.grownBy w' v.ownBlock := by
  rcases hrow.2 with ⟨hv, hn⟩ | ⟨g, cap, cur, hv, hg, hh, hnc, hcm, r⟩
  · subst hv
    have ha := List.length_eq_zero_iff.1 hn
    subst ha
    refine (sort_none (.func 39) #[] #[.pointer (some ⟨X, 0, none⟩)] V).mono ?_
    rintro e w' ⟨rfl, hb⟩
    exact ⟨rfl, [], List.Perm.refl _, List.Pairwise.nil, Or.inl ⟨rfl, rfl⟩, (hb.block _ (Array.getElem?_eq_some_iff.1 hX).1).trans hX, ⟨hb.os, hb.tape, hb.output, hb.size, fun k hk _ => hb.block k hk⟩⟩
  · subst hv
    have hgl : g < V.heap.size := (Array.getElem?_eq_some_iff.1 hh).1
    have hH := holds_of_own hrow
    by_cases h2 : 2 ≤ acc.length
    · have hs := asort_two X g cap acc.toArray V (by simpa using h2) (by simp; omega) hH hgl (by simpa using hX) (by omega)
      simp only [List.size_toArray] at hs
      refine hs.mono ?_
      rintro e w' ⟨rfl, d', hp, hso, hR⟩
      have hsz : d'.size = acc.length := hR.sz
      refine ⟨rfl, d'.toList, ?_, ?_, Or.inr ⟨g, cap, by simp [hsz], hg, Nat.lt_of_lt_of_le hgl hR.base, by simpa using hR.holds⟩, (hR.rest X (by omega) (by omega)).trans hX,
        ⟨hR.os, hR.tape, hR.output, hR.base, fun k hk hne => hR.rest k hk (fun e => hne (by rw [e]; rfl))⟩⟩
      · have h3 := hp.2.2
        rw [← hsz] at h3
        simp only [Array.extract_size] at h3
        have h4 : (acc.toArray.extract 0 d'.size).toList = acc := by rw [hsz]; simp
        rw [h4] at h3
        exact h3
      · rw [List.pairwise_iff_getElem]
        intro i j hi hj hij
        have := hso i j (Nat.zero_le _) hij (by rw [← hsz]; simpa using hj)
        rw [getElem!_pos d' i (by simpa using hi), getElem!_pos d' j (by simpa using hj)] at this
        simpa using this
    · have h1 : acc.length ≤ 1 := by omega
      have hk : Lib.swapperK acc.length slE 25 = 1 ∨ Lib.swapperK acc.length slE 25 = 2 := by
        rcases Nat.lt_or_ge acc.length 1 with h | h
        · left; have : acc.length = 0 := by omega
          rw [this]; simp [Lib.swapperK]
        · right; have : acc.length = 1 := by omega
          rw [this]; simp [Lib.swapperK]
      have ht : Calls Tryz.prog 38 #[.iface TLn (.slice (some ⟨g, 0, none⟩) acc.length cap), .func (.func 39) #[] #[.pointer (some ⟨X, 0, none⟩)]] V fun e w' => e = .returned (.tuple #[]) ∧ ∃ os, w' = Sort.grow V os := by
        rcases hk with hk | hk
        · exact Any.sort_Slice_tiny laysSl TLn TEn slT slE (by kernel_rfl) (by kernel_rfl) (by kernel_rfl) (by kernel_rfl) 25 (fun _ => by kernel_rfl) (some ⟨g, 0, none⟩) acc.length cap h1 84 (by rw [hk]; kernel_rfl) _ _ _ V
        · exact Any.sort_Slice_tiny laysSl TLn TEn slT slE (by kernel_rfl) (by kernel_rfl) (by kernel_rfl) (by kernel_rfl) 25 (fun _ => by kernel_rfl) (some ⟨g, 0, none⟩) acc.length cap h1 85 (by rw [hk]; kernel_rfl) _ _ _ V
      refine ht.mono ?_
      rintro e w' ⟨rfl, os, rfl⟩
      have hb := grow_below V os
      refine ⟨rfl, acc, List.Perm.refl _, ?_, rowE_of_own (own_keep5 hrow fun k _ hk => hb.block k hk), (hb.block _ (Array.getElem?_eq_some_iff.1 hX).1).trans hX, grown_of_grow V os _⟩
      exact pw_small h1
end Go.Proofs.YtlpnecmcncekcaaGreat.Mk
