/- The page's queue. -/
import Derived.Test.YticcobciafbleaaQueueTwo
namespace Go.Proofs.Yticcobciafbleaa.Queue
open Go.RowKit Go.Shelf

theorem ref_put_full {w : World} {B g : Nat} {most : Int} {xs : List Int} {v : Value} (h : Qv TR w B g most xs v) (h0 : (xs.length : Int) = most) (y : Int) :
    Calls Try.prog 71 #[.pointer (some ⟨g, 0, none⟩), .int .i64 y] w fun e w' => e = .returned (.int .i64 6) ∧ ∃ n, w' = w.drewN n := by
  obtain ⟨hB, hb, hown⟩ := h
  obtain ⟨A, c, rfl⟩ := own_form hown
  have c0 := cell_blk hb 0
  have c1 := cell_blk hb 1
  simp at c0 c1
  have hle : most ≤ (xs.length : Int) := by omega
  clear hb hown h0
  go_enter Try.func71, Try.ntmps71
  go_wp2
  go_quiet (fail)
  go_wp2
  go_ret
  exact ⟨rfl, _, rfl⟩

set_option maxRecDepth 20000 in
set_option maxHeartbeats 1000000 in
theorem ref_put {w : World} {B g : Nat} {most : Int} {xs : List Int} {v : Value} (h : Qv TR w B g most xs v) (h0 : (xs.length : Int) < most) (h1 : most ≤ 1024) (y : Int) :
    Calls Try.prog 71 #[.pointer (some ⟨g, 0, none⟩), .int .i64 y] w fun e w' => e = .returned (.int .i64 0) ∧ ∃ v', Qv TR w' B g most (xs ++ [y]) v' ∧ Fr g v.ownBlock w w' ∧ New w v.ownBlock v'.ownBlock ∧ Below B w w' := by
  obtain ⟨i0, hi, hz0, hz1, hz2⟩ := info_parts infoI
  obtain ⟨hB, hb, hown⟩ := h
  have hlt := lt_blk hb
  obtain ⟨A, c, rfl⟩ := own_form hown
  have c0 := cell_blk hb 0
  have c1 := cell_blk hb 1
  simp at c0 c1
  have hnl : ¬ most ≤ (xs.length : Int) := by omega
  have HB := Lib.hid hb
  clear hb
  go_enter Try.func71, Try.ntmps71
  go_wp2
  go_quiet (fail)
  have c0' := c0
  have c1' := c1
  go_wp2_with (at_builtin; refine wpList_append_own_at _ rfl _ _ 45 rfl B 3 i0 (.int .i64 0) 1 8 Try.underlying45 hi hz0 hz1 hz2 rfl (by decide) _ _ _ rfl ((own_drewN hown nq).alloc _) ⟨w.heap.size, 0, none⟩ 1 1 [.int .i64 y] rfl rfl (cell_one_new _ _ _) (one_one rfl) (by unfold maxLen; omega) (by omega) (by simp; omega) ?_)
  intro v1 w1 hown1 hg1 _ hnew
  have hb2 : ((w.drewN nq).alloc (.cells #[.int .i64 y] 3)).heap[g]? = some (.cells #[.slice A xs.length c, .int .i64 most] TR (0, 0)) := (Below.heap_alloc _ _ _ (by exact hlt)).trans HB.out
  have hb3 := grown_blk hb2 hg1 ((own_drewN hown nq).alloc _) (by decide)
  have hbel : Below B w w1 := (((below_drewN (Below.refl B w) nq).alloc (by simp; omega) _).grown hg1 (by simp; omega) (own_ge hown))
  have hfr : Fr g (Value.slice A xs.length c).ownBlock w w1 := Fr.grown (Fr.alloc (w' := w.drewN nq) (Fr.refl g _ w) _) hg1
  obtain ⟨A1, k1, rfl⟩ := own_form hown1
  have d0 := cell_blk hb3 0
  have f0 := free_blk hb3 0
  simp at d0
  have hn' : New w (Value.slice A xs.length c).ownBlock (Value.slice A1 (xs.length + 1) k1).ownBlock := by
    rcases hnew with e | e
    · exact .inl e
    · exact .inr (.inr ⟨_, e, by first | omega | simp⟩)
  have H3 := Lib.hid (And.intro hb3 (And.intro hbel (And.intro hfr hn')))
  clear hb2 hb3 hbel hg1 hfr hn' hnew c0' c1'
  go_wp2
  go_ret
  refine ⟨rfl, _, ⟨hB, set0_blk H3.out.1, ?_⟩, H3.out.2.2.1.set _, H3.out.2.2.2, H3.out.2.1.setCell (p := ⟨g, 0, none⟩) hB _⟩
  rw [List.length_append, List.length_singleton]
  have e : ints (xs ++ [y]) = ints xs ++ [.int .i64 y] := by simp [ints]
  rw [e]
  exact own_setother hown1 H3.out.1 (by decide)

theorem ref_get_none {w : World} {B g : Nat} {most : Int} {v : Value} (h : Qv TR w B g most [] v) :
    Calls Try.prog 75 #[.pointer (some ⟨g, 0, none⟩)] w fun e w' => e = .returned (.tuple #[.int .i64 0, .bool false]) ∧ w' = w := by
  obtain ⟨hB, hb, hown⟩ := h
  obtain ⟨A, c, rfl⟩ := own_form hown
  have c0 := cell_blk hb 0
  simp at c0
  clear hb hown
  go_enter Try.func75, Try.ntmps75
  go_wp2
  go_ret2
  exact ⟨rfl, rfl⟩

theorem Fr.grown_new {w w' w2 : World} {g : Nat} {row row2 : Option Nat} (h : Fr g row w w') (hg : w'.grownBy w2 row2) (hr : ∀ k, row2 = some k → w.heap.size ≤ k) : Fr g row w w2 := ⟨Nat.le_trans h.1 hg.size, fun j y a b c => by
  have h3 := h.2 j y a b c
  exact (hg.block j (lt_blk h3) (fun e => by have := hr j e.symm; have := lt_blk c; omega)).trans h3⟩
theorem own_empty (w : World) {B : Nat} (hB : B ≤ w.heap.size) (e : TypeId) : (w.alloc (.cells #[] e)).ownsRow B e 1 (.slice (some ⟨w.heap.size, 0, none⟩) 0 0) 0 [] :=
  ⟨rfl, .inr ⟨w.heap.size, 0, #[], rfl, hB, heap_alloc_new w _, Nat.le_refl _, by decide, rfl, rfl⟩⟩
theorem ints_one (xs : List Int) : ∀ u ∈ ints xs, u.oneCell' = true := by
  intro u hu
  unfold ints at hu
  obtain ⟨z, _, rfl⟩ := List.mem_map.1 hu
  rfl

set_option maxRecDepth 20000 in
set_option maxHeartbeats 1000000 in
theorem ref_get {w : World} {B g : Nat} {most x : Int} {xs : List Int} {v : Value} (h : Qv TR w B g most (x :: xs) v) (hl : xs.length ≤ 1024) :
    Calls Try.prog 75 #[.pointer (some ⟨g, 0, none⟩)] w fun e w' => e = .returned (.tuple #[.int .i64 x, .bool true]) ∧ ∃ v', Qv TR w' B g most xs v' ∧ Fr g v.ownBlock w w' ∧ New w v.ownBlock v'.ownBlock ∧ Below B w w' := by
  obtain ⟨i0, hi, hz0, hz1, hz2⟩ := info_parts infoI
  obtain ⟨hB, hb, hown⟩ := h
  have hlt := lt_blk hb
  obtain ⟨A, c, rfl⟩ := own_form hown
  obtain ⟨u, rfl, hu⟩ := own_at hown (by simp)
  have c0 := cell_blk hb 0
  have cx : w.cell? ⟨u, 0, none⟩ = some (.int .i64 x) := hown.cellAt 0 (by simp)
  have hne : (((x :: xs).length : Int) == 0) = false := by
    simp only [List.length_cons, beq_eq_false_iff_ne]; omega
  have hpos : (0 : Int) < ((x :: xs).length : Int) := by simp only [List.length_cons]; omega
  have hcm : (x :: xs).length ≤ c := by
    rcases hown.2 with ⟨_, h0⟩ | ⟨k, cap, cur, hv, _, _, h1, h2, _⟩
    · simp at h0
    · injection hv with _ _ hc
      subst hc
      exact h1
  have hul := World.block_lt_of_cell? w _ cx
  have hnews : ∀ j z, (ints xs)[j]? = some z → (w.alloc (.cells #[] 3)).cell? ((⟨u, 1, none⟩ : Addr).add j) = some z := fun j z hz => by
    have e : (⟨u, 1, none⟩ : Addr).add j = ⟨u, 1 + j, none⟩ := by unfold Addr.add; by_cases h : j = 0 <;> simp [h]
    have hj : j < xs.length := by have := (List.getElem?_eq_some_iff.1 hz).1; simpa [ints] using this
    rw [e, World.cell?_alloc_lt w _ _ (by exact hul), hown.cellAt (1 + j) (by simp; omega), Nat.add_comm 1 j]
    exact hz
  simp at c0
  have HB := Lib.hid (And.intro hb (And.intro hown hnews))
  clear hb hown hnews
  simp only [List.length_cons] at *
  have hbase : B ≤ (w.alloc (.cells #[] 3)).heap.size := by simp; omega
  by_cases hc1 : c = 1
  · subst hc1
    have hx : xs = [] := List.eq_nil_of_length_eq_zero (by omega)
    subst hx
    go_enter Try.func75, Try.ntmps75
    go_wp2_with (at_builtin; refine wpList_append_own_at _ rfl _ _ 45 rfl B 3 i0 (.int .i64 0) 1 8 Try.underlying45 hi hz0 hz1 hz2 rfl (by decide) _ _ _ rfl (own_empty w (by omega) _) _ 0 _ [] rfl rfl (fun j z hz => by simp at hz) (fun z hz => by simp at hz) (by decide) (by decide) hbase ?_)
    intro v1 w1 hown1 hg1 _ hnew
    have hoe := own_empty w (B := B) (by omega) 3
    have hb3 := grown_blk ((Below.heap_alloc _ _ _ hlt).trans HB.out.1) hg1 hoe (by decide)
    have hbel : Below B w w1 := ((Below.refl B w).alloc (by omega) _).grown hg1 (by simp; omega) (own_ge hoe)
    have hfr : Fr g (some u) w w1 := Fr.grown_new (Fr.alloc (Fr.refl g _ w) _) hg1 (fun k hk => by have hk : some w.heap.size = some k := hk; injection hk with hk; omega)
    obtain ⟨A1, k1, rfl⟩ := own_form hown1
    have hn' : New w (some u) (Value.slice A1 0 k1).ownBlock := by
      rcases hnew with e | e
      · exact .inr (.inr ⟨_, e, Nat.le_refl _⟩)
      · exact .inr (.inr ⟨_, e, by omega⟩)
    have d0 := cell_blk hb3 0
    have f0 := free_blk hb3 0
    simp at d0
    have H3 := Lib.hid (And.intro hb3 (And.intro hbel (And.intro hfr hn')))
    clear hb3 hbel hg1 hfr hn' hnew hoe hbase
    go_wp2
    go_ret2
    refine ⟨rfl, _, ⟨hB, set0_blk H3.out.1, ?_⟩, H3.out.2.2.1.set _, H3.out.2.2.2, H3.out.2.1.setCell (p := ⟨g, 0, none⟩) hB _⟩
    exact own_setother (by simpa [ints] using hown1) H3.out.1 (by decide)
  · have hxl : (xs.length : Int) ≤ 1024 := by omega
    go_enter Try.func75, Try.ntmps75
    go_wp2_with (at_builtin; refine wpList_append_own_at _ rfl _ _ 45 rfl B 3 i0 (.int .i64 0) 1 8 Try.underlying45 hi hz0 hz1 hz2 rfl (by decide) _ _ _ rfl (own_empty w (by omega) _) ⟨u, 1, none⟩ xs.length (c - 1) (ints xs) rfl (by simp [ints]) HB.out.2.2 (ints_one xs) (by unfold maxLen; omega) (by omega) hbase ?_)
    intro v1 w1 hown1 hg1 _ hnew
    have hoe := own_empty w (B := B) (by omega) 3
    have hb3 := grown_blk ((Below.heap_alloc _ _ _ hlt).trans HB.out.1) hg1 hoe (by decide)
    have hbel : Below B w w1 := ((Below.refl B w).alloc (by omega) _).grown hg1 (by simp; omega) (own_ge hoe)
    have hfr : Fr g (some u) w w1 := Fr.grown_new (Fr.alloc (Fr.refl g _ w) _) hg1 (fun k hk => by have hk : some w.heap.size = some k := hk; injection hk with hk; omega)
    obtain ⟨A1, k1, rfl⟩ := own_form hown1
    have hn' : New w (some u) (Value.slice A1 xs.length k1).ownBlock := by
      rcases hnew with e | e
      · exact .inr (.inr ⟨_, e, Nat.le_refl _⟩)
      · exact .inr (.inr ⟨_, e, by omega⟩)
    have d0 := cell_blk hb3 0
    have f0 := free_blk hb3 0
    simp at d0
    have H3 := Lib.hid (And.intro hb3 (And.intro hbel (And.intro hfr hn')))
    clear hb3 hbel hg1 hfr hn' hnew hoe hbase
    go_wp2
    go_ret2
    refine ⟨rfl, _, ⟨hB, set0_blk H3.out.1, ?_⟩, H3.out.2.2.1.set _, H3.out.2.2.2, H3.out.2.1.setCell (p := ⟨g, 0, none⟩) hB _⟩
    exact own_setother (by simpa [ints] using hown1) H3.out.1 (by decide)
end Go.Proofs.Yticcobciafbleaa.Queue
