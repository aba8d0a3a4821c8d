/- 'DiceThrows' holds for every input, with no condition: what any dice throw, throw by throw, below any numbers. -/
import Derived.Test.YticcobciafbleaaDiceConfig
import Derived.Test.YticcobciafbleaaConfAwake
import Derived.Deep.RegionWith
namespace Go.Proofs.Yticcobciafbleaa.diceThrows
open Go.RowKit Conf Dice

structure PX (w W : World) (g r : Nat) (s t : Int) : Prop where
  d : D TD W g s
  q : D TR W r t
  bel : Below w.heap.size w W
  hg : w.heap.size ≤ g
  hr : w.heap.size ≤ r
  ne : g ≠ r
section
variable {w W : World} {g r : Nat} {s t : Int}
theorem PX.drew (h : PX w W g r s t) : PX w W.drew g r s t := ⟨h.d, h.q, h.bel.drew, h.hg, h.hr, h.ne⟩
theorem PX.throw (h : PX w W g r s t) : Calls Try.prog 86 #[.pointer (some ⟨g, 0, none⟩)] W fun e w' => e = .returned (.int .u64 (thr s)) ∧ PX w w' g r (nx s) t :=
  (throw_any h.d).mono fun e w' ⟨he, hw⟩ => by
    subst hw
    exact ⟨he, h.d.set _, blk_far h.q h.ne.symm, h.bel.setCell (p := ⟨g, 0, none⟩) h.hg _, h.hg, h.hr, h.ne⟩
theorem PX.rthrow (h : PX w W g r s t) : Calls Try.prog 87 #[.pointer (some ⟨r, 0, none⟩)] W fun e w' => e = .returned (.int .u64 (thr t)) ∧ PX w w' g r s (nx t) :=
  (ref_throw_any h.q).mono fun e w' ⟨he, hw⟩ => by
    subst hw
    exact ⟨he, blk_far h.d h.ne, h.q.set _, h.bel.setCell (p := ⟨r, 0, none⟩) h.hr _, h.hg, h.hr, h.ne⟩
theorem PX.below (h : PX w W g r s t) (z : Int) (hz : z ≤ 9223372036854775807) : Calls Try.prog 88 #[.pointer (some ⟨g, 0, none⟩), .int .i64 z] W fun e w' => e = .returned (.int .i64 (belZ s z)) ∧ PX w w' g r (nxZ s z) t :=
  (below_z h.d hz).mono fun _ _ ⟨he, hd, ho, hb⟩ => ⟨he, hd, (ho _ h.ne.symm).trans h.q, h.bel.trans (hb.mono h.hg), h.hg, h.hr, h.ne⟩
theorem PX.rbelow (h : PX w W g r s t) (z : Int) (hz : z ≤ 9223372036854775807) : Calls Try.prog 89 #[.pointer (some ⟨r, 0, none⟩), .int .i64 z] W fun e w' => e = .returned (.int .i64 (belZ t z)) ∧ PX w w' g r s (nxZ t z) :=
  (ref_below_z h.q hz).mono fun _ _ ⟨he, hd, ho, hb⟩ => ⟨he, (ho _ h.ne).trans h.d, hd, h.bel.trans (hb.mono h.hr), h.hg, h.hr, h.ne⟩
end

theorem thr_0 : thr 0 = 16294208416658607535 := by decide +kernel
theorem awake_any (w : World) : Calls Try.prog 84 #[] w fun e w' => e = .returned (.bool true) ∧ Below w.heap.size w w' := by
  have ht := thr_0
  go_enter Try.func84, Try.ntmps84
  go_wp2_with fail
  refine (new_any 0 _).mono ?_
  rintro e w1 ⟨rfl, d1, b1, _⟩
  go_wp2_with fail
  refine (throw_any d1).mono ?_
  rintro e w2 ⟨rfl, rfl⟩
  go_wp2
  go_ret
  exact ⟨rfl, b1.setCell (p := ⟨w.heap.size, 0, none⟩) (Nat.le_refl _) _⟩

theorem config_none (w : World) : Calls Try.prog 90 #[.pointer none] w fun e w' => e = .returned (.agg c0.cells) ∧ Below w.heap.size w w' := by
  go_enter Try.func90, Try.ntmps90
  go_wp2
  refine bodyPost_ret (v := .agg c0.cells) (by simp [results, Try.results90, go_sem, Cfg.cells, c0]) rfl ⟨rfl, (Below.refl _ _).alloc (Nat.le_refl _) _⟩
theorem script_none (c : Cfg) (w : World) : Calls Try.prog 92 #[.pointer none, .agg c.cells, .int .i64 5] w fun e w' => e = .returned (.slice none 0 0) ∧ Below w.heap.size w w' := by
  unfold Cfg.cells
  go_enter Try.func92, Try.ntmps92
  go_wp2
  go_ret
  exact ⟨rfl, (Below.refl _ _).alloc (Nat.le_refl _) _⟩
def z8 : Array Value := #[.int .i64 0, .int .i64 0, .int .i64 0, .int .i64 0, .int .i64 0, .int .u64 0, .int .u64 0, .string ⟨#[]⟩]
theorem neq_step (w : World) : (binOp .eql 133 (.agg z8) (.agg z8)).run Try.prog w = .ok (.bool true) w := by
  unfold z8
  go_simp
set_option maxRecDepth 20000 in
set_option maxHeartbeats 2000000 in
theorem step_none (c : Cfg) (hn : c.n ≤ 4) (w : World) : Calls Try.prog 91 #[.pointer none, .agg c.cells] w fun e w' => e = .returned (.agg z8) ∧ Below w.heap.size w w' := by
  have hw := workers_any c hn
  generalize (if code c 11 0 = 0 then 2 * (c.n : Int) else 0) = dirs at hw
  have HW := Lib.hid hw
  have hb2 : ((w.alloc (.cells c.cells 101)).alloc (.cells z8 133)).heap[w.heap.size + 1]? = some (.cells z8 133 (0, 0)) := by
    have := heap_alloc_new (w.alloc (.cells c.cells 101)) (.cells z8 133); simpa using this
  have hB2 : Below w.heap.size w ((w.alloc (.cells c.cells 101)).alloc (.cells z8 133)) := ((Below.refl _ _).alloc (Nat.le_refl _) _).alloc (by simp) _
  have H2 := Lib.hid (And.intro hb2 hB2)
  clear hw hb2 hB2
  unfold Cfg.cells at *
  unfold z8 at *
  go_enter Try.func91, Try.ntmps91
  go_wp2_with fail
  refine (HW.out _).mono ?_
  rintro e w1 ⟨rfl, b1⟩
  obtain ⟨hb2, hB2⟩ := H2.out
  have hx := (b1.block _ (blk_lt hb2)).trans hb2
  have hBx := hB2.trans (b1.mono hB2.size)
  have x0 := cell_of_row w1 _ 0 _ _ (0, 0) hx
  have x1 := cell_of_row w1 _ 1 _ _ (0, 0) hx
  have x2 := cell_of_row w1 _ 2 _ _ (0, 0) hx
  have x3 := cell_of_row w1 _ 3 _ _ (0, 0) hx
  have x4 := cell_of_row w1 _ 4 _ _ (0, 0) hx
  have x5 := cell_of_row w1 _ 5 _ _ (0, 0) hx
  have x6 := cell_of_row w1 _ 6 _ _ (0, 0) hx
  have x7 := cell_of_row w1 _ 7 _ _ (0, 0) hx
  have fz : ∀ j, w1.frozen? ⟨w.heap.size + 1, j, none⟩ = false := fun j => by simp [World.frozen?, hx]
  have g0 := fz 0
  have g1 := fz 1
  have g2 := fz 2
  have g3 := fz 3
  have g4 := fz 4
  have g5 := fz 5
  have g6 := fz 6
  have g7 := fz 7
  simp at x0 x1 x2 x3 x4 x5 x6 x7
  clear fz b1 hb2 hB2 hx H2
  have HB := Lib.hid hBx
  clear hBx
  go_wp2
  refine bodyPost_ret (v := .agg z8) (by simp [results, Try.results91, go_sem, z8, x0, x1, x2, x3, x4, x5, x6, x7]) rfl ⟨rfl, ?_⟩
  exact Below.setCell (p := ⟨w.heap.size + 1, 7, none⟩) (Below.setCell (p := ⟨w.heap.size + 1, 6, none⟩) (Below.setCell (p := ⟨w.heap.size + 1, 5, none⟩) (Below.setCell (p := ⟨w.heap.size + 1, 4, none⟩) (Below.setCell (p := ⟨w.heap.size + 1, 3, none⟩) (Below.setCell (p := ⟨w.heap.size + 1, 2, none⟩) (Below.setCell (p := ⟨w.heap.size + 1, 1, none⟩) (Below.setCell (p := ⟨w.heap.size + 1, 0, none⟩) (HB.out) (Nat.le_succ _) _) (Nat.le_succ _) _) (Nat.le_succ _) _) (Nat.le_succ _) _) (Nat.le_succ _) _) (Nat.le_succ _) _) (Nat.le_succ _) _) (Nat.le_succ _) _

theorem field_0 (w : World) : (Instr.field 101 (.agg #[.slice none 0 0, .int .i64 0, .int .i64 0, .int .i64 0, .int .i64 0, .int .i64 0, .int .i64 0, .int .i64 0, .int .i64 0, .int .i64 0, .int .i64 0, .int .u64 0]) 0).run Try.prog w = .ok (.slice none 0 0) w := by
  simp [Instr.field, go_sem, asAgg]
/-- A slice that reads as numbers. -/
def Rd (w : World) (A : Option Addr) (len : Nat) (zs : List Int) : Prop :=
  0 < len → ∃ b off, A = some ⟨b, off, none⟩ ∧ b < w.heap.size ∧ ∀ i, i < len → w.cell? ⟨b, off + i, none⟩ = some (.int .i64 (zs.getD i 0)) ∧ zs.getD i 0 ≤ 9223372036854775807

set_option maxRecDepth 20000 in
set_option maxHeartbeats 4000000 in
theorem walk_few (seed : Int) (A : Option Addr) (len cap : Nat) (zs : List Int) (hl : len ≤ 60) (w : World) (hr : Rd w A len zs) : Calls Try.prog 14 #[.int .u64 seed, .slice A len cap] w fun e w' => e = .returned (.bool true) ∧ Below w.heap.size w w' := by
  have HR := Lib.hid hr
  clear hr
  have hlen : (len : Int) ≤ 60 := by omega
  have heq := neq_step
  unfold z8 at heq
  go_enter Try.func14, Try.ntmps14
  go_wp2_with fail
  refine (new_any seed _).mono ?_
  rintro e w1 ⟨rfl, d1, b1, s1⟩
  go_wp2
  have p0 : PX w (w1.alloc (.cells #[.int .u64 seed] TR)) w.heap.size (w.heap.size + 1) seed seed := by
    rw [← s1]
    exact ⟨blk_alloc d1, heap_alloc_new w1 _, b1.alloc b1.size _, Nat.le_refl _, b1.size, by have := blk_lt d1; omega⟩
  have P0 := Lib.hid p0
  clear p0 d1 b1 s1
  go_loopw [7] (fun i wr => ∃ k : Nat, i = .int .i64 (k : Int) ∧ k ≤ len ∧ ∃ s, PX w wr w.heap.size (w.heap.size + 1) s s) (fun i _ => len - (intOf i).toNat)
  case atStart => exact ⟨0, rfl, Nat.zero_le _, seed, P0.out⟩
  case round =>
    obtain ⟨k, rfl, hk, s, hp⟩ := hrel
    have HP := Lib.hid hp
    clear hp
    by_cases hlt : k < len
    · obtain ⟨b, off, rfl, hbl, hc⟩ := HR.out (by omega)
      obtain ⟨hc1, hc2⟩ := hc k hlt
      generalize zs.getD k 0 = z at hc1 hc2
      have x0 := (HP.out.bel.cell (p := ⟨b, off + k, none⟩) hbl).trans hc1
      have hk0 : (0 : Int) ≤ (k : Int) := by omega
      have hk1 : (k : Int) < (len : Int) := by omega
      have hm : (k : Int).tmod 3 = (k : Int) % 3 := Int.tmod_eq_emod_of_nonneg hk0
      clear hc
      by_cases h3 : (k : Int) % 3 = 0
      · have h3b : ((k : Int).tmod 3 == 0) = true := by rw [hm, h3]; rfl
        clear hm h3
        go_wp2_with fail
        go_region_held3 (fun W => W.cell? ⟨b, off + k, none⟩ = some (.int .i64 z))
          (first | assumption | exact x0 | exact (p5.bel.cell (p := ⟨b, off + k, none⟩) hbl).trans hc1 | exact (p4.bel.cell (p := ⟨b, off + k, none⟩) hbl).trans hc1 | exact (p3.bel.cell (p := ⟨b, off + k, none⟩) hbl).trans hc1 | exact (p2.bel.cell (p := ⟨b, off + k, none⟩) hbl).trans hc1)
          (first
            | (go_at_call 86; (refine (PX.throw (w := w) (r := w.heap.size + 1) (s := s) (t := s) (by first | exact HP.out | exact HP.out.drew)).mono ?_); rintro e w2 ⟨rfl, p2⟩)
            | (go_at_call 87; (refine (PX.rthrow p2).mono ?_); rintro e w3 ⟨rfl, p3⟩)
            | (go_at_call 88; (refine (PX.below p3 z hc2).mono ?_); rintro e w4 ⟨rfl, p4⟩)
            | (go_at_call 89; (refine (PX.rbelow p4 z hc2).mono ?_); rintro e w5 ⟨rfl, p5⟩))
        have P5 := Lib.hid p5
        go_wp2
        exact ⟨⟨k + 1, by go_num, by omega, _, P5.out⟩, by simp [intOf]; omega⟩
      · have h3b : ((k : Int).tmod 3 == 0) = false := by rw [hm]; simpa using h3
        clear hm h3
        go_wp2_with fail
        refine wp_region_held_drew (S := (fun W => W.cell? ⟨b, off + k, none⟩ = some (.int .i64 z))) (by kernel_rfl) x0 (fun hHeld => ?_)
        refine wpAnyH_take (i := 0) (oi := _) (v := ?_) rfl (by kernel_rfl) (by kernel_rfl) (by kernel_rfl) (fun _ _ _ h => h) (Or.inl ⟨by rfl, ?_⟩) (by assumption) ?_
        rotate_left
        · (intro W hSw; (try dsimp only at hSw); go_simp; try with_reducible rfl)
        try simp only [Act.put, List.getElem_toArray, List.getElem_cons_zero, List.setIfInBounds_toArray, List.set_cons_zero, List.set_cons_succ]
        refine wpAnyH_take (i := 1) (oi := _) (v := ?_) rfl (by kernel_rfl) (by kernel_rfl) (by kernel_rfl) (fun _ _ _ h => h) (Or.inl ⟨by rfl, ?_⟩) (by assumption) ?_
        rotate_left
        · (intro W hSw; (try dsimp only at hSw); go_simp; try with_reducible rfl)
        try simp only [Act.put, List.getElem_toArray, List.getElem_cons_succ, List.getElem_cons_zero, List.setIfInBounds_toArray, List.set_cons_zero, List.set_cons_succ]
        refine wpAnyH_take (i := 2) (oi := _) (v := ?_) rfl (by kernel_rfl) (by kernel_rfl) (by kernel_rfl) (fun _ _ _ h => h) (Or.inl ⟨by rfl, ?_⟩) (by assumption) ?_
        rotate_left
        · (intro W hSw; (try dsimp only at hSw); go_simp; try with_reducible rfl)
        try simp only [Act.put, List.getElem_toArray, List.getElem_cons_succ, List.getElem_cons_zero, List.setIfInBounds_toArray, List.set_cons_zero, List.set_cons_succ]
        refine wpAnyH_take (i := 3) (oi := _) (v := ?_) rfl (by kernel_rfl) (by kernel_rfl) (by kernel_rfl) (fun _ _ _ h => h) (Or.inl ⟨by rfl, ?_⟩) (by assumption) ?_
        rotate_left
        · (intro W hSw; (try dsimp only at hSw); go_simp; try with_reducible rfl)
        try simp only [Act.put, List.getElem_toArray, List.getElem_cons_succ, List.getElem_cons_zero, List.setIfInBounds_toArray, List.set_cons_zero, List.set_cons_succ]
        refine wpAnyH_take (i := 4) (oi := _) (v := undef) rfl (by kernel_rfl) (by kernel_rfl) (by kernel_rfl) (fun _ _ _ h => h) (Or.inr ⟨by rfl, rfl⟩) (by assumption) ?_
        try simp only [Act.put, List.getElem_toArray, List.getElem_cons_succ, List.getElem_cons_zero, List.setIfInBounds_toArray, List.set_cons_zero, List.set_cons_succ]
        refine wpAnyH_take (i := 5) (oi := _) (v := undef) rfl (by kernel_rfl) (by kernel_rfl) (by kernel_rfl) (fun _ _ _ h => h) (Or.inr ⟨by rfl, rfl⟩) (by assumption) ?_
        try simp only [Act.put, List.getElem_toArray, List.getElem_cons_succ, List.getElem_cons_zero, List.setIfInBounds_toArray, List.set_cons_zero, List.set_cons_succ]
        refine wpAnyH_take (i := 6) (oi := _) (v := undef) rfl (by kernel_rfl) (by kernel_rfl) (by kernel_rfl) (fun _ _ _ h => h) (Or.inr ⟨by rfl, rfl⟩) (by assumption) ?_
        try simp only [Act.put, List.getElem_toArray, List.getElem_cons_succ, List.getElem_cons_zero, List.setIfInBounds_toArray, List.set_cons_zero, List.set_cons_succ]
        refine wpAnyH_take (i := 7) (oi := _) (v := undef) rfl (by kernel_rfl) (by kernel_rfl) (by kernel_rfl) (fun _ _ _ h => h) (Or.inr ⟨by rfl, rfl⟩) (by assumption) ?_
        try simp only [Act.put, List.getElem_toArray, List.getElem_cons_succ, List.getElem_cons_zero, List.setIfInBounds_toArray, List.set_cons_zero, List.set_cons_succ]
        refine wpAnyH_take (i := 8) (oi := _) (v := undef) rfl (by kernel_rfl) (by kernel_rfl) (by kernel_rfl) (fun _ _ _ h => h) (Or.inr ⟨by rfl, rfl⟩) (by assumption) ?_
        try simp only [Act.put, List.getElem_toArray, List.getElem_cons_succ, List.getElem_cons_zero, List.setIfInBounds_toArray, List.set_cons_zero, List.set_cons_succ]
        refine wpAnyH_take (i := 9) (oi := _) (v := ?_) rfl (by kernel_rfl) (by kernel_rfl) (by kernel_rfl) (fun _ _ _ h => h) (Or.inl ⟨by rfl, ?_⟩) (by assumption) ?_
        rotate_left
        · (intro W hSw; (try dsimp only at hSw); go_simp; try with_reducible rfl)
        try simp only [Act.put, List.getElem_toArray, List.getElem_cons_succ, List.getElem_cons_zero, List.setIfInBounds_toArray, List.set_cons_zero, List.set_cons_succ]
        refine wpAnyH_take (i := 10) (oi := _) (v := ?_) rfl (by kernel_rfl) (by kernel_rfl) (by kernel_rfl) (fun _ _ _ h => h) (Or.inl ⟨by rfl, ?_⟩) (by assumption) ?_
        rotate_left
        · (intro W hSw; (try dsimp only at hSw); go_simp; try with_reducible rfl)
        try simp only [Act.put, List.getElem_toArray, List.getElem_cons_succ, List.getElem_cons_zero, List.setIfInBounds_toArray, List.set_cons_zero, List.set_cons_succ]
        refine wpAnyH_take (i := 11) (oi := _) (v := ?_) rfl (by kernel_rfl) (by kernel_rfl) (by kernel_rfl) (fun _ _ _ h => h) (Or.inl ⟨by rfl, ?_⟩) (by assumption) ?_
        rotate_left
        · (intro W hSw; (try dsimp only at hSw); go_simp; try with_reducible rfl)
        try simp only [Act.put, List.getElem_toArray, List.getElem_cons_succ, List.getElem_cons_zero, List.setIfInBounds_toArray, List.set_cons_zero, List.set_cons_succ]
        refine wpAnyH_take (i := 12) (oi := _) (v := ?_) rfl (by kernel_rfl) (by kernel_rfl) (by kernel_rfl) (fun _ _ _ h => h) (Or.inl ⟨by rfl, ?_⟩) (by assumption) ?_
        rotate_left
        · (intro W hSw; (try dsimp only at hSw); go_simp; try with_reducible rfl)
        try simp only [Act.put, List.getElem_toArray, List.getElem_cons_succ, List.getElem_cons_zero, List.setIfInBounds_toArray, List.set_cons_zero, List.set_cons_succ]
        refine wpAnyH_take (i := 13) (oi := _) (v := ?_) rfl (by kernel_rfl) (by kernel_rfl) (by kernel_rfl) (fun _ _ _ h => h) (Or.inl ⟨by rfl, ?_⟩) (by assumption) ?_
        rotate_left
        · (intro W hSw; (try dsimp only at hSw); go_simp; try with_reducible rfl)
        try simp only [Act.put, List.getElem_toArray, List.getElem_cons_succ, List.getElem_cons_zero, List.setIfInBounds_toArray, List.set_cons_zero, List.set_cons_succ]
        refine wpAnyH_take (i := 14) (oi := _) (v := ?_) rfl (by kernel_rfl) (by kernel_rfl) (by kernel_rfl) (fun _ _ _ h => h) (Or.inl ⟨by rfl, ?_⟩) (by assumption) ?_
        rotate_left
        · (intro W hSw; (try dsimp only at hSw); go_simp; try with_reducible rfl)
        try simp only [Act.put, List.getElem_toArray, List.getElem_cons_succ, List.getElem_cons_zero, List.setIfInBounds_toArray, List.set_cons_zero, List.set_cons_succ]
        refine wpAnyH_take (i := 15) (oi := _) (v := ?_) rfl (by kernel_rfl) (by kernel_rfl) (by kernel_rfl) (fun _ _ _ h => h) (Or.inl ⟨by rfl, ?_⟩) (by assumption) ?_
        rotate_left
        · (intro W hSw; (try dsimp only at hSw); go_simp; try with_reducible rfl)
        try simp only [Act.put, List.getElem_toArray, List.getElem_cons_succ, List.getElem_cons_zero, List.setIfInBounds_toArray, List.set_cons_zero, List.set_cons_succ]
        refine wpAnyH_take (i := 17) (oi := _) (v := ?_) rfl (by kernel_rfl) (by kernel_rfl) (by kernel_rfl) (fun _ _ _ h => h) (Or.inl ⟨by rfl, ?_⟩) (by assumption) ?_
        rotate_left
        · (intro W hSw; (try dsimp only at hSw); go_simp; try with_reducible rfl)
        try simp only [Act.put, List.getElem_toArray, List.getElem_cons_succ, List.getElem_cons_zero, List.setIfInBounds_toArray, List.set_cons_zero, List.set_cons_succ]
        refine wpAnyH_take (i := 18) (oi := _) (v := ?_) rfl (by kernel_rfl) (by kernel_rfl) (by kernel_rfl) (fun _ _ _ h => h) (Or.inl ⟨by rfl, ?_⟩) (by assumption) ?_
        rotate_left
        · (intro W hSw; (try dsimp only at hSw); go_simp; try with_reducible rfl)
        try simp only [Act.put, List.getElem_toArray, List.getElem_cons_succ, List.getElem_cons_zero, List.setIfInBounds_toArray, List.set_cons_zero, List.set_cons_succ]
        refine wpAnyH_take (i := 19) (oi := _) (v := ?_) rfl (by kernel_rfl) (by kernel_rfl) (by kernel_rfl) (fun _ _ _ h => h) (Or.inl ⟨by rfl, ?_⟩) (by assumption) ?_
        rotate_left
        · (intro W hSw; (try dsimp only at hSw); go_simp; try with_reducible rfl)
        try simp only [Act.put, List.getElem_toArray, List.getElem_cons_succ, List.getElem_cons_zero, List.setIfInBounds_toArray, List.set_cons_zero, List.set_cons_succ]
        refine wpAnyH_take (i := 20) (oi := _) (v := ?_) rfl (by kernel_rfl) (by kernel_rfl) (by kernel_rfl) (fun _ _ _ h => h) (Or.inl ⟨by rfl, ?_⟩) (by assumption) ?_
        rotate_left
        · (intro W hSw; (try dsimp only at hSw); go_simp; try with_reducible rfl)
        try simp only [Act.put, List.getElem_toArray, List.getElem_cons_succ, List.getElem_cons_zero, List.setIfInBounds_toArray, List.set_cons_zero, List.set_cons_succ]
        refine wpAnyH_take (i := 21) (oi := _) (v := ?_) rfl (by kernel_rfl) (by kernel_rfl) (by kernel_rfl) (fun _ _ _ h => h) (Or.inl ⟨by rfl, ?_⟩) (by assumption) ?_
        rotate_left
        · (intro W hSw; (try dsimp only at hSw); go_simp; try with_reducible rfl)
        try simp only [Act.put, List.getElem_toArray, List.getElem_cons_succ, List.getElem_cons_zero, List.setIfInBounds_toArray, List.set_cons_zero, List.set_cons_succ]
        refine wpAnyH_ready (rs := [16]) (by kernel_rfl) (by simp) ?_
        refine AllReadyH.cons rfl (fun K hK => ?_) AllReadyH.nil
        simp only [List.getElem_toArray, List.getElem_cons_succ, List.getElem_cons_zero]
        rw [if_pos (by rfl)]
        go_simp
        (go_at_call 88; refine (PX.below (w := w) (r := w.heap.size + 1) (s := s) (t := s) (by first | exact HP.out | exact HP.out.drew) z hc2).mono ?_; rintro e w4 ⟨rfl, p4⟩)
        go_wp2_with fail
        refine hK.out _ _ ((p4.bel.cell (p := ⟨b, off + k, none⟩) hbl).trans hc1) (fun hHeld => ?_)
        clear hK K
        try simp only [Act.put, List.getElem_toArray, List.getElem_cons_succ, List.getElem_cons_zero, List.setIfInBounds_toArray, List.set_cons_zero, List.set_cons_succ]
        refine wpAnyH_ready (rs := [22]) (by kernel_rfl) (by simp) ?_
        refine AllReadyH.cons rfl (fun K hK => ?_) AllReadyH.nil
        simp only [List.getElem_toArray, List.getElem_cons_succ, List.getElem_cons_zero]
        rw [if_pos (by rfl)]
        go_simp
        (go_at_call 89; refine (PX.rbelow p4 z hc2).mono ?_; rintro e w5 ⟨rfl, p5⟩)
        go_wp2_with fail
        refine hK.out _ _ ((p5.bel.cell (p := ⟨b, off + k, none⟩) hbl).trans hc1) (fun hHeld => ?_)
        clear hK K
        try simp only [Act.put, List.getElem_toArray, List.getElem_cons_succ, List.getElem_cons_zero, List.setIfInBounds_toArray, List.set_cons_zero, List.set_cons_succ]
        refine wpAnyH_take (i := 23) (oi := _) (v := ?_) rfl (by kernel_rfl) (by kernel_rfl) (by kernel_rfl) (fun _ _ _ h => h) (Or.inl ⟨by rfl, ?_⟩) (by assumption) ?_
        rotate_left
        · (intro W hSw; (try dsimp only at hSw); go_simp; try with_reducible rfl)
        try simp only [Act.put, List.getElem_toArray, List.getElem_cons_succ, List.getElem_cons_zero, List.setIfInBounds_toArray, List.set_cons_zero, List.set_cons_succ]
        refine wpAnyH_take (i := 24) (oi := _) (v := ?_) rfl (by kernel_rfl) (by kernel_rfl) (by kernel_rfl) (fun _ _ _ h => h) (Or.inl ⟨by rfl, ?_⟩) (by assumption) ?_
        rotate_left
        · (intro W hSw; (try dsimp only at hSw); go_simp; try with_reducible rfl)
        try simp only [Act.put, List.getElem_toArray, List.getElem_cons_succ, List.getElem_cons_zero, List.setIfInBounds_toArray, List.set_cons_zero, List.set_cons_succ]
        refine wpAnyH_done (by kernel_rfl) ?_ _
        have P5 := Lib.hid p5
        go_wp2
        exact ⟨⟨k + 1, by go_num, by omega, _, P5.out⟩, by simp [intOf]; omega⟩
    · obtain rfl : k = len := by omega
      have hB := HP.out.bel
      go_wp2_with fail
      refine (awake_any _).mono ?_
      rintro e w2 ⟨rfl, b2⟩
      have B2 := Lib.hid (hB.trans (b2.mono hB.size))
      go_wp2_with fail
      refine (throw_none _).mono ?_
      rintro e w3 ⟨rfl, rfl⟩
      go_wp2_with fail
      refine (below_none _).mono ?_
      rintro e w3 ⟨rfl, rfl⟩
      go_wp2_with fail
      refine (config_none _).mono ?_
      rintro e w3 ⟨rfl, b3⟩
      have B3 := Lib.hid (B2.out.trans (b3.mono B2.out.size))
      clear b2 b3 hB
      unfold Cfg.cells c0
      have hfd := field_0
      go_wp2_with fail
      refine (new_any 1 _).mono ?_
      rintro e w4 ⟨rfl, d4, b4, _⟩
      have B4 := Lib.hid (B3.out.trans (b4.mono B3.out.size))
      clear b4
      have hz3 := B3.out.size
      go_wp2_with fail
      refine (config_any d4).mono ?_
      rintro e w5 ⟨c, rfl, hcn, b5⟩
      have B5 := Lib.hid (B4.out.trans (b5.mono hz3))
      clear b5 d4
      go_wp2_with fail
      refine (step_none c hcn _).mono ?_
      rintro e w6 ⟨rfl, b6⟩
      have B6 := Lib.hid (B5.out.trans (b6.mono B5.out.size))
      clear b6
      unfold z8
      go_wp2_with fail
      refine (new_any 1 _).mono ?_
      rintro e w7 ⟨rfl, d7, b7, _⟩
      have B7 := Lib.hid (B6.out.trans (b7.mono B6.out.size))
      clear b7
      have hz6 := B6.out.size
      go_wp2_with fail
      refine (config_any d7).mono ?_
      rintro e w8 ⟨c2, rfl, hcn2, b8⟩
      have B8 := Lib.hid (B7.out.trans (b8.mono hz6))
      clear b8 d7
      go_wp2_with fail
      refine (script_none c2 _).mono ?_
      rintro e w9 ⟨rfl, b9⟩
      go_wp2
      go_ret
      exact ⟨rfl, B8.out.trans (b9.mono B8.out.size)⟩
end Go.Proofs.Yticcobciafbleaa.diceThrows
