/- 'DiceAlike': the same seed throws the same. -/
import Derived.Test.YthamhdfkhhfmmaaDiceLetters
namespace Go.Proofs.Ythamhdfkhhfmmaa.DiceW
open Go Go.RowKit Conf Dice

theorem hstN (V : World) (b : Nat) (t : TypeId) (cs : Array Value) (C : Array Value) (hcs : cs.size = C.size) (ho : C.all (·.oneCell') = true) (h : V.heap[b]? = some (.cells cs t (0, 0))) :
    (storeCells ⟨b, 0, none⟩ C.toList).run Try.prog V = .ok () (V.setRow b C) := by
  have h := run_storeCells_at (P := Try.prog) b 0 t C.toList 0 cs V h (by rw [Array.length_toList, hcs]; omega) (fun u hu => (Array.all_eq_true'.1 ho) u (by simpa using hu))
  simp only [Nat.add_zero, List.take_zero, List.nil_append, Nat.zero_add] at h
  rw [h, List.drop_of_length_le (by rw [Array.length_toList, hcs, Array.length_toList]; exact Nat.le_refl _), List.append_nil]
/-- the law's world behind both scripts -/
structure EF (W V : World) (n : Nat) (f1 f2 f3 f4 f5 f6 f7 f8 f9 f10 f11 : Int) (bs : Nat → Bool) (l : List S8) (M : Nat) (ba bb u v ra rb : Nat) : Prop where
  a : V.heap[ba]? = some (.cells #[.slice (some ⟨u, 0, none⟩) n n, .int .i64 f1, .int .i64 f2, .int .i64 f3, .int .i64 f4, .int .i64 f5, .int .i64 f6, .int .i64 f7, .int .i64 f8, .int .i64 f9, .int .i64 f10, .int .u64 f11] TCf (0, 0))
  b : V.heap[bb]? = some (.cells #[.slice (some ⟨v, 0, none⟩) n n, .int .i64 f1, .int .i64 f2, .int .i64 f3, .int .i64 f4, .int .i64 f5, .int .i64 f6, .int .i64 f7, .int .i64 f8, .int .i64 f9, .int .i64 f10, .int .u64 f11] TCf (0, 0))
  u : ∀ j, j < n → V.cell? ⟨u, j, none⟩ = some (.bool (bs j))
  v : ∀ j, j < n → V.cell? ⟨v, j, none⟩ = some (.bool (bs j))
  ra : ra < V.heap.size ∧ ∀ i, i < M → At V ra (i * 8) (l.getD i s80)
  rb : rb < V.heap.size ∧ ∀ i, i < M → At V rb (i * 8) (l.getD i s80)
  bel : Below W.heap.size W V
theorem EF.below {W V V' : World} {n : Nat} {f1 f2 f3 f4 f5 f6 f7 f8 f9 f10 f11 : Int} {bs : Nat → Bool} {l : List S8} {M ba bb u v ra rb : Nat} (h : EF W V n f1 f2 f3 f4 f5 f6 f7 f8 f9 f10 f11 bs l M ba bb u v ra rb) (k : Below V.heap.size V V') : EF W V' n f1 f2 f3 f4 f5 f6 f7 f8 f9 f10 f11 bs l M ba bb u v ra rb :=
  ⟨(k.block _ (blk_lt h.a)).trans h.a, (k.block _ (blk_lt h.b)).trans h.b, fun j hj => (k.cell (p := ⟨u, j, none⟩) (World.block_lt_of_cell? V _ (h.u j hj))).trans (h.u j hj), fun j hj => (k.cell (p := ⟨v, j, none⟩) (World.block_lt_of_cell? V _ (h.v j hj))).trans (h.v j hj),
   ⟨Nat.lt_of_lt_of_le h.ra.1 k.size, fun i hi => (h.ra.2 i hi).keep (k.block _ h.ra.1)⟩, ⟨Nat.lt_of_lt_of_le h.rb.1 k.size, fun i hi => (h.rb.2 i hi).keep (k.block _ h.rb.1)⟩, h.bel.trans (k.mono h.bel.size)⟩
/-- ahead of the scripts -/
structure BF (W V : World) (n : Nat) (f1 f2 f3 f4 f5 f6 f7 f8 f9 f10 f11 : Int) (bs : Nat → Bool) (s' : Int) (ga gb ba bb u v : Nat) : Prop where
  a : V.heap[ba]? = some (.cells #[.slice (some ⟨u, 0, none⟩) n n, .int .i64 f1, .int .i64 f2, .int .i64 f3, .int .i64 f4, .int .i64 f5, .int .i64 f6, .int .i64 f7, .int .i64 f8, .int .i64 f9, .int .i64 f10, .int .u64 f11] TCf (0, 0))
  b : V.heap[bb]? = some (.cells #[.slice (some ⟨v, 0, none⟩) n n, .int .i64 f1, .int .i64 f2, .int .i64 f3, .int .i64 f4, .int .i64 f5, .int .i64 f6, .int .i64 f7, .int .i64 f8, .int .i64 f9, .int .i64 f10, .int .u64 f11] TCf (0, 0))
  u : u < V.heap.size ∧ u ≠ ga ∧ u ≠ gb ∧ ∀ j, j < n → V.cell? ⟨u, j, none⟩ = some (.bool (bs j))
  v : v < V.heap.size ∧ v ≠ ga ∧ v ≠ gb ∧ ∀ j, j < n → V.cell? ⟨v, j, none⟩ = some (.bool (bs j))
  ne : ba ≠ ga ∧ ba ≠ gb ∧ bb ≠ ga ∧ bb ≠ gb ∧ ga ≠ gb ∧ W.heap.size ≤ ga ∧ W.heap.size ≤ gb
  bel : Below W.heap.size W V
  lt : ga < V.heap.size ∧ gb < V.heap.size
theorem BF.on {W V V' : World} {n : Nat} {f1 f2 f3 f4 f5 f6 f7 f8 f9 f10 f11 : Int} {bs : Nat → Bool} {s' : Int} {ga gb ba bb u v g : Nat} (h : BF W V n f1 f2 f3 f4 f5 f6 f7 f8 f9 f10 f11 bs s' ga gb ba bb u v) (hg : g = ga ∨ g = gb) (k : On g V V') : BF W V' n f1 f2 f3 f4 f5 f6 f7 f8 f9 f10 f11 bs s' ga gb ba bb u v := by
  obtain ⟨n1, n2, n3, n4, n5, n6, n7⟩ := h.ne
  have q : ∀ x, x ≠ ga → x ≠ gb → x ≠ g := fun x h1 h2 e => by rcases hg with rfl | rfl <;> omega
  refine ⟨(k.block _ (blk_lt h.a) (q _ n1 n2)).trans h.a, (k.block _ (blk_lt h.b) (q _ n3 n4)).trans h.b, ⟨Nat.lt_of_lt_of_le h.u.1 k.size, h.u.2.1, h.u.2.2.1, fun j hj => ?_⟩, ⟨Nat.lt_of_lt_of_le h.v.1 k.size, h.v.2.1, h.v.2.2.1, fun j hj => ?_⟩, h.ne, h.bel.trans (on_below k (by rcases hg with rfl | rfl <;> assumption) h.bel.size), ⟨Nat.lt_of_lt_of_le h.lt.1 k.size, Nat.lt_of_lt_of_le h.lt.2 k.size⟩⟩
  · exact (World.cell?_of_block (a := ⟨u, j, none⟩) (k.block _ h.u.1 (q _ h.u.2.1 h.u.2.2.1))).trans (h.u.2.2.2 j hj)
  · exact (World.cell?_of_block (a := ⟨v, j, none⟩) (k.block _ h.v.1 (q _ h.v.2.1 h.v.2.2.1))).trans (h.v.2.2.2 j hj)
set_option maxRecDepth 20000 in
set_option maxHeartbeats 8000000 in
theorem law0 (seed a : Int) (h0 : 0 ≤ a) (h1 : a < 256) (W : World) :
    Calls Try.prog 3 #[.int .u64 seed, .int .u8 a] W fun e w' => e = .returned (.bool true) ∧ Below W.heap.size W w' := by
  obtain ⟨n, f1, f2, f3, f4, f5, f6, f7, f8, f9, f10, f11, bs, s', hCL⟩ := cl_any seed
  obtain ⟨m, hm, hma⟩ : ∃ m : Nat, m ≤ 99 ∧ a % 100 = (m : Int) := ⟨(a % 100).toNat, by omega, by omega⟩
  obtain ⟨l, hl, hl0, hSc⟩ := script_l hCL m (by omega)
  obtain ⟨M, hM⟩ : ∃ M, M = m + 1 := ⟨_, rfl⟩
  rw [← hM] at hl hSc
  have hmI : (m : Int) ≤ 99 := by omega
  have HM := Lib.hid (show (M : Int) = 1 + (m : Int) ∧ M ≤ 100 ∧ 0 < M by omega)
  have hky : IntKind.i64.wrap (1 + IntKind.i64.wrap (a.tmod 100)) = 1 + (m : Int) := by
    rw [Int.tmod_eq_emod_of_nonneg h0, hma, IntWalk.i64_in (m : Int) ⟨by omega, by omega⟩, IntWalk.i64_in _ ⟨by omega, by omega⟩]
  have HKY := Lib.hid hky
  clear hky
  have HCf := Lib.hid hCL.cfg
  have HSc := Lib.hid hSc
  have Hl0 := Lib.hid hl0
  have HN := Lib.hid (And.intro hCL.n1 hCL.n4)
  clear hCL hSc hl0 hl hM hm
  go_enter Try.func3, Try.ntmps3
  go_wp2_with fail
  refine (new_any seed _).mono ?_
  rintro _ w1 ⟨rfl, d1, b1, z1⟩
  obtain ⟨ga, hga⟩ : ∃ X, X = W.heap.size := ⟨_, rfl⟩
  rw [← hga] at d1 ⊢
  have H1 := Lib.hid (And.intro d1 (And.intro b1 (And.intro z1 hga)))
  clear d1 b1 z1 hga
  go_wp2_with fail
  refine (new_any seed _).mono ?_
  rintro _ w2 ⟨rfl, d2, b2, z2⟩
  obtain ⟨gb, hgb⟩ : ∃ X, X = w1.heap.size := ⟨_, rfl⟩
  rw [← hgb] at d2 ⊢
  have H2 := Lib.hid (And.intro ((b2.block _ (blk_lt H1.out.1)).trans H1.out.1) (And.intro d2 (And.intro (H1.out.2.1.trans (b2.mono H1.out.2.1.size)) (show ga = W.heap.size ∧ gb = ga + 1 ∧ w2.heap.size = gb + 1 by have := H1.out.2.2; omega))))
  clear d2 b2 z2 hgb H1
  go_wp2_with fail
  refine (HCf.out _ _ H2.out.1).mono ?_
  rintro _ w3 ⟨u, CA, rfl, hCA, hu, hbu, d3, o3, lu⟩
  have H3 := Lib.hid (And.intro d3 (And.intro o3 (And.intro hu (And.intro hbu (And.intro lu hCA)))))
  have dB := Lib.hid (show D TD w3 gb seed from (o3.block _ (blk_lt H2.out.2.1) (by have := H2.out.2.2.2; omega)).trans H2.out.2.1)
  clear hCA hu hbu d3 o3 lu
  go_wp2_with fail
  refine (HCf.out _ _ dB.out).mono ?_
  rintro _ w4 ⟨v, CB, rfl, hCB, hv, hbv, d4, o4, lv⟩
  have H4 := Lib.hid (And.intro d4 (And.intro o4 (And.intro hv (And.intro hbv (And.intro lv hCB)))))
  clear hCB hv hbv d4 o4 lv dB
  obtain ⟨ba, hba⟩ : ∃ X, X = w4.heap.size := ⟨_, rfl⟩
  obtain ⟨w5, hw5⟩ : ∃ X, X = (w4.alloc (.cells #[.slice none 0 0, .int .i64 0, .int .i64 0, .int .i64 0, .int .i64 0, .int .i64 0, .int .i64 0, .int .i64 0, .int .i64 0, .int .i64 0, .int .i64 0, .int .u64 0] TCf)).alloc (.cells #[.slice none 0 0, .int .i64 0, .int .i64 0, .int .i64 0, .int .i64 0, .int .i64 0, .int .i64 0, .int .i64 0, .int .i64 0, .int .i64 0, .int .i64 0, .int .u64 0] TCf) := ⟨_, rfl⟩
  have b5 : Below w4.heap.size w4 w5 := by rw [hw5]; exact ((Below.refl _ _).alloc (Nat.le_refl _) _).alloc (by simp) _
  have x5 : w5.heap[ba]? = some (.cells #[.slice none 0 0, .int .i64 0, .int .i64 0, .int .i64 0, .int .i64 0, .int .i64 0, .int .i64 0, .int .i64 0, .int .i64 0, .int .i64 0, .int .i64 0, .int .u64 0] TCf (0, 0)) := by rw [hw5, hba]; exact blk_alloc (heap_alloc_new w4 _)
  have y5 : w5.heap[ba + 1]? = some (.cells #[.slice none 0 0, .int .i64 0, .int .i64 0, .int .i64 0, .int .i64 0, .int .i64 0, .int .i64 0, .int .i64 0, .int .i64 0, .int .i64 0, .int .i64 0, .int .u64 0] TCf (0, 0)) := by rw [hw5, hba]; exact heap_at _ _ _ (by simp)
  have sA : CA.size = 12 := by rw [H3.out.2.2.2.2.2]; rfl
  have sB : CB.size = 12 := by rw [H4.out.2.2.2.2.2]; rfl
  have oA : CA.all (·.oneCell') = true := by rw [H3.out.2.2.2.2.2]; simp [Value.oneCell']
  have oB : CB.all (·.oneCell') = true := by rw [H4.out.2.2.2.2.2]; simp [Value.oneCell']
  have hst7 := hstN w5 ba TCf _ CA (by rw [sA]; rfl) oA x5
  have hst8 := hstN (w5.setRow ba CA) (ba + 1) TCf _ CB (by rw [sB]; rfl) oB ((setRow_other w5 ba (ba + 1) CA (by omega)).trans y5)
  have hF : BF W ((w5.setRow ba CA).setRow (ba + 1) CB) n f1 f2 f3 f4 f5 f6 f7 f8 f9 f10 f11 bs s' ga gb ba (ba + 1) u v ∧ D TD ((w5.setRow ba CA).setRow (ba + 1) CB) ga s' ∧ D TD ((w5.setRow ba CA).setRow (ba + 1) CB) gb s' := by
    obtain ⟨dA, dB, bB, e1, e2, e3⟩ := H2.out
    obtain ⟨d3, o3, hu, hbu, lu, hCA⟩ := H3.out
    obtain ⟨d4, o4, hv, hbv, lv, hCB⟩ := H4.out
    have z3 := o3.size
    have z4 := o4.size
    have keep : ∀ k, k < ba → ((w5.setRow ba CA).setRow (ba + 1) CB).heap[k]? = w4.heap[k]? := fun k hk =>
      (setRow_other _ _ k CB (by omega)).trans ((setRow_other w5 ba k CA (by omega)).trans (b5.block k (by omega)))
    have h4a : D TD w4 ga s' := (o4.block _ (by omega) (by omega)).trans d3
    have h3z : W.heap.size ≤ w2.heap.size := bB.size
    refine ⟨⟨?_, ?_, ⟨?_, by omega, by omega, fun j hj => ?_⟩, ⟨?_, by omega, by omega, fun j hj => ?_⟩, by omega, ?_, ?_⟩, (keep ga (by omega)).trans h4a, (keep gb (by omega)).trans d4⟩
    · rw [← hCA]
      exact (setRow_other _ (ba + 1) ba CB (by omega)).trans (setRow_heap w5 ba _ CA TCf (0, 0) x5)
    · rw [← hCB]
      exact setRow_heap _ (ba + 1) _ CB TCf (0, 0) ((setRow_other w5 ba (ba + 1) CA (by omega)).trans y5)
    · simp [World.setRow]; have := b5.size; omega
    · exact (World.cell?_of_block (a := ⟨u, j, none⟩) ((keep u (by omega)).trans (o4.block u hu (by omega)))).trans (hbu j hj)
    · simp [World.setRow]; have := b5.size; omega
    · exact (World.cell?_of_block (a := ⟨v, j, none⟩) (keep v (by omega))).trans (hbv j hj)
    · have k2 : Below W.heap.size W w4 := (bB.trans (on_below o3 (by omega) h3z)).trans (on_below o4 (by omega) (by omega))
      have k3 := k2.trans (b5.mono k2.size)
      exact ⟨k3.os, k3.tape, k3.output, Nat.le_trans k3.size (by simp [World.setRow]), fun k hk => (keep k (by omega)).trans (k2.block k hk)⟩
    · simp [World.setRow]; have := b5.size; omega
  obtain ⟨w6, hw6⟩ : ∃ X, X = w5.setRow ba CA := ⟨_, rfl⟩
  rw [← hw6] at hst7 hst8 hF
  obtain ⟨w8, hw8⟩ : ∃ X, X = w6.setRow (ba + 1) CB := ⟨_, rfl⟩
  rw [← hw8] at hst8 hF
  have HF := Lib.hid hF
  have HB := Lib.hid hba
  clear b5 x5 y5 oA oB hF hw6 hw8 H2 H3 H4
  rw [hba] at hst7 hst8
  rw [hw5] at hst7
  clear hba hw5
  go_upto_region 3 with fail
  rw [← HB.out]
  clear hst7 hst8 sA sB
  refine wp_region_held_drew (S := (fun V => V.heap[ba]? = some (.cells #[.slice (some ⟨u, 0, none⟩) n n, .int .i64 f1, .int .i64 f2, .int .i64 f3, .int .i64 f4, .int .i64 f5, .int .i64 f6, .int .i64 f7, .int .i64 f8, .int .i64 f9, .int .i64 f10, .int .u64 f11] TCf (0, 0)) ∧ V.heap[ba + 1]? = some (.cells #[.slice (some ⟨v, 0, none⟩) n n, .int .i64 f1, .int .i64 f2, .int .i64 f3, .int .i64 f4, .int .i64 f5, .int .i64 f6, .int .i64 f7, .int .i64 f8, .int .i64 f9, .int .i64 f10, .int .u64 f11] TCf (0, 0)))) (by kernel_rfl) ⟨HF.out.1.a, HF.out.1.b⟩ (fun hHeld => ?_)
  have HG := Lib.hid (show BF W w8.drew n f1 f2 f3 f4 f5 f6 f7 f8 f9 f10 f11 bs s' ga gb ba (ba + 1) u v ∧ D TD w8.drew ga s' ∧ D TD w8.drew gb s' from ⟨HF.out.1.on (Or.inl rfl) (On.refl ga w8).drew, HF.out.2.1, HF.out.2.2⟩)
  obtain ⟨w9, hw9⟩ : ∃ X, X = w8.drew := ⟨_, rfl⟩
  rw [← hw9] at HG hHeld ⊢
  clear hw9 HF
  refine wpAnyH_take (i := 0) (oi := _) (v := ?_) rfl (by kernel_rfl) (by kernel_rfl) (by kernel_rfl) (fun _ _ _ h => h) (Or.inl ⟨by rfl, ?_⟩) (by assumption) ?_
  rotate_left
  · (intro W hSw; (try dsimp only at hSw); go_simp; try with_reducible rfl)
  try simp only [Act.put, List.getElem_toArray, List.getElem_cons_zero, List.setIfInBounds_toArray, List.set_cons_zero, List.set_cons_succ]
  refine wpAnyH_take (i := 1) (oi := _) (v := ?_) rfl (by kernel_rfl) (by kernel_rfl) (by kernel_rfl) (fun _ _ _ h => h) (Or.inl ⟨by rfl, ?_⟩) (by assumption) ?_
  rotate_left
  · (intro V hSw; have q := fun i => cell_of_row V (ba) i _ _ (0, 0) hSw.1; have q0 := q 0; have q1 := q 1; have q2 := q 2; have q3 := q 3; have q4 := q 4; have q5 := q 5; have q6 := q 6; have q7 := q 7; have q8 := q 8; have q9 := q 9; have q10 := q 10; have q11 := q 11; clear q hSw; go_simp; try with_reducible rfl)
  try simp only [Act.put, List.getElem_toArray, List.getElem_cons_succ, List.getElem_cons_zero, List.setIfInBounds_toArray, List.set_cons_zero, List.set_cons_succ]
  refine wpAnyH_take (i := 2) (oi := _) (v := ?_) rfl (by kernel_rfl) (by kernel_rfl) (by kernel_rfl) (fun _ _ _ h => h) (Or.inl ⟨by rfl, ?_⟩) (by assumption) ?_
  rotate_left
  · (intro W hSw; (try dsimp only at hSw); go_simp; try with_reducible rfl)
  try simp only [Act.put, List.getElem_toArray, List.getElem_cons_succ, List.getElem_cons_zero, List.setIfInBounds_toArray, List.set_cons_zero, List.set_cons_succ]
  refine wpAnyH_take (i := 3) (oi := _) (v := ?_) rfl (by kernel_rfl) (by kernel_rfl) (by kernel_rfl) (fun _ _ _ h => h) (Or.inl ⟨by rfl, ?_⟩) (by assumption) ?_
  rotate_left
  · (intro W hSw; (try dsimp only at hSw); go_simp; try with_reducible rfl)
  try simp only [Act.put, List.getElem_toArray, List.getElem_cons_succ, List.getElem_cons_zero, List.setIfInBounds_toArray, List.set_cons_zero, List.set_cons_succ]
  refine wpAnyH_take (i := 4) (oi := _) (v := ?_) rfl (by kernel_rfl) (by kernel_rfl) (by kernel_rfl) (fun _ _ _ h => h) (Or.inl ⟨by rfl, ?_⟩) (by assumption) ?_
  rotate_left
  · (intro W hSw; (try dsimp only at hSw); go_simp; try with_reducible rfl)
  try simp only [Act.put, List.getElem_toArray, List.getElem_cons_succ, List.getElem_cons_zero, List.setIfInBounds_toArray, List.set_cons_zero, List.set_cons_succ]
  refine wpAnyH_take (i := 5) (oi := _) (v := ?_) rfl (by kernel_rfl) (by kernel_rfl) (by kernel_rfl) (fun _ _ _ h => h) (Or.inl ⟨by rfl, ?_⟩) (by assumption) ?_
  rotate_left
  · (intro W hSw; (try dsimp only at hSw); go_simp; try with_reducible rfl)
  try simp only [Act.put, List.getElem_toArray, List.getElem_cons_succ, List.getElem_cons_zero, List.setIfInBounds_toArray, List.set_cons_zero, List.set_cons_succ]
  refine wpAnyH_take (i := 7) (oi := _) (v := ?_) rfl (by kernel_rfl) (by kernel_rfl) (by kernel_rfl) (fun _ _ _ h => h) (Or.inl ⟨by rfl, ?_⟩) (by assumption) ?_
  rotate_left
  · (intro W hSw; (try dsimp only at hSw); go_simp; try with_reducible rfl)
  try simp only [Act.put, List.getElem_toArray, List.getElem_cons_succ, List.getElem_cons_zero, List.setIfInBounds_toArray, List.set_cons_zero, List.set_cons_succ]
  refine wpAnyH_take (i := 8) (oi := _) (v := ?_) rfl (by kernel_rfl) (by kernel_rfl) (by kernel_rfl) (fun _ _ _ h => h) (Or.inl ⟨by rfl, ?_⟩) (by assumption) ?_
  rotate_left
  · (intro V hSw; have q := fun i => cell_of_row V (ba + 1) i _ _ (0, 0) hSw.2; have q0 := q 0; have q1 := q 1; have q2 := q 2; have q3 := q 3; have q4 := q 4; have q5 := q 5; have q6 := q 6; have q7 := q 7; have q8 := q 8; have q9 := q 9; have q10 := q 10; have q11 := q 11; clear q hSw; go_simp; try with_reducible rfl)
  try simp only [Act.put, List.getElem_toArray, List.getElem_cons_succ, List.getElem_cons_zero, List.setIfInBounds_toArray, List.set_cons_zero, List.set_cons_succ]
  refine wpAnyH_take (i := 9) (oi := _) (v := ?_) rfl (by kernel_rfl) (by kernel_rfl) (by kernel_rfl) (fun _ _ _ h => h) (Or.inl ⟨by rfl, ?_⟩) (by assumption) ?_
  rotate_left
  · (intro W hSw; (try dsimp only at hSw); go_simp; try with_reducible rfl)
  try simp only [Act.put, List.getElem_toArray, List.getElem_cons_succ, List.getElem_cons_zero, List.setIfInBounds_toArray, List.set_cons_zero, List.set_cons_succ]
  refine wpAnyH_take (i := 10) (oi := _) (v := ?_) rfl (by kernel_rfl) (by kernel_rfl) (by kernel_rfl) (fun _ _ _ h => h) (Or.inl ⟨by rfl, ?_⟩) (by assumption) ?_
  rotate_left
  · (intro W hSw; (try dsimp only at hSw); go_simp; try with_reducible rfl)
  try simp only [Act.put, List.getElem_toArray, List.getElem_cons_succ, List.getElem_cons_zero, List.setIfInBounds_toArray, List.set_cons_zero, List.set_cons_succ]
  refine wpAnyH_take (i := 11) (oi := _) (v := ?_) rfl (by kernel_rfl) (by kernel_rfl) (by kernel_rfl) (fun _ _ _ h => h) (Or.inl ⟨by rfl, ?_⟩) (by assumption) ?_
  rotate_left
  · (intro W hSw; (try dsimp only at hSw); go_simp; try with_reducible rfl)
  try simp only [Act.put, List.getElem_toArray, List.getElem_cons_succ, List.getElem_cons_zero, List.setIfInBounds_toArray, List.set_cons_zero, List.set_cons_succ]
  refine wpAnyH_take (i := 12) (oi := _) (v := ?_) rfl (by kernel_rfl) (by kernel_rfl) (by kernel_rfl) (fun _ _ _ h => h) (Or.inl ⟨by rfl, ?_⟩) (by assumption) ?_
  rotate_left
  · (intro W hSw; (try dsimp only at hSw); go_simp; try with_reducible rfl)
  try simp only [Act.put, List.getElem_toArray, List.getElem_cons_succ, List.getElem_cons_zero, List.setIfInBounds_toArray, List.set_cons_zero, List.set_cons_succ]
  refine wpAnyH_ready (rs := [6]) (by kernel_rfl) (by simp) ?_
  refine AllReadyH.cons rfl (fun K hK => ?_) AllReadyH.nil
  simp only [List.getElem_toArray, List.getElem_cons_succ, List.getElem_cons_zero]
  rw [if_pos (by rfl)]
  go_simp
  rw [HKY.out]
  refine (HSc.out _ ga u HG.out.2.1).mono ?_
  rintro _ w10 ⟨ra, ca, rfl, hr1, hr2, hr3, o10⟩
  have h10 := HG.out.1.on (Or.inl rfl) o10
  have e10 : D TD w10 gb s' := (o10.block _ HG.out.1.lt.2 (by have := HG.out.1.ne; omega)).trans HG.out.2.2
  have H10 := Lib.hid (And.intro h10 (And.intro e10 (And.intro hr1 (And.intro (show ra ≠ gb by have := HG.out.1.lt; omega) hr3))))
  clear h10 e10 hr1 hr2 hr3 o10
  go_wp2_with fail
  refine hK.out _ _ ⟨H10.out.1.a, H10.out.1.b⟩ (fun hHeld => ?_)
  clear hK K
  try simp only [Act.put, List.getElem_toArray, List.getElem_cons_succ, List.getElem_cons_zero, List.setIfInBounds_toArray, List.set_cons_zero, List.set_cons_succ]
  refine wpAnyH_ready (rs := [13]) (by kernel_rfl) (by simp) ?_
  refine AllReadyH.cons rfl (fun K hK => ?_) AllReadyH.nil
  simp only [List.getElem_toArray, List.getElem_cons_succ, List.getElem_cons_zero]
  rw [if_pos (by rfl)]
  go_simp
  try rw [HKY.out]
  refine (HSc.out _ gb v H10.out.2.1).mono ?_
  rintro _ w11 ⟨rb, cb, rfl, hr1, hr2, hr3, o11⟩
  have h11 := H10.out.1.on (Or.inr rfl) o11
  have E1 := Lib.hid (show EF W w11 n f1 f2 f3 f4 f5 f6 f7 f8 f9 f10 f11 bs l M ba (ba + 1) u v ra rb from ⟨h11.a, h11.b, h11.u.2.2.2, h11.v.2.2.2, ⟨Nat.lt_of_lt_of_le H10.out.2.2.1 o11.size, fun i hi => (H10.out.2.2.2.2 i hi).keep (o11.block _ H10.out.2.2.1 H10.out.2.2.2.1)⟩, ⟨hr1, hr3⟩, h11.bel⟩)
  have hh := And.intro h11.a h11.b
  clear h11 hr1 hr2 hr3 o11 H10 HG
  go_wp2_with fail
  refine hK.out _ _ hh (fun hHeld => ?_)
  clear hh
  clear hK K
  try simp only [Act.put, List.getElem_toArray, List.getElem_cons_succ, List.getElem_cons_zero, List.setIfInBounds_toArray, List.set_cons_zero, List.set_cons_succ]
  refine wpAnyH_take (i := 14) (oi := _) (v := ?_) rfl (by kernel_rfl) (by kernel_rfl) (by kernel_rfl) (fun _ _ _ h => h) (Or.inl ⟨by rfl, ?_⟩) (by assumption) ?_
  rotate_left
  · (intro W hSw; (try dsimp only at hSw); go_simp; try with_reducible rfl)
  try simp only [Act.put, List.getElem_toArray, List.getElem_cons_succ, List.getElem_cons_zero, List.setIfInBounds_toArray, List.set_cons_zero, List.set_cons_succ]
  refine wpAnyH_take (i := 15) (oi := _) (v := ?_) rfl (by kernel_rfl) (by kernel_rfl) (by kernel_rfl) (fun _ _ _ h => h) (Or.inl ⟨by rfl, ?_⟩) (by assumption) ?_
  rotate_left
  · (intro W hSw; (try dsimp only at hSw); go_simp; try with_reducible rfl)
  try simp only [Act.put, List.getElem_toArray, List.getElem_cons_succ, List.getElem_cons_zero, List.setIfInBounds_toArray, List.set_cons_zero, List.set_cons_succ]
  refine wpAnyH_done (by kernel_rfl) ?_ _
  go_wp2_with fail
  refine (awake_any _).mono ?_
  rintro _ w12 ⟨rfl, b12⟩
  have E2 := Lib.hid (E1.out.below b12)
  clear b12 E1
  have q := fun i => cell_of_row w12 ba i _ _ (0, 0) E2.out.a
  have p := fun i => cell_of_row w12 (ba + 1) i _ _ (0, 0) E2.out.b
  have q0 := q 0; have p0 := p 0; have q1 := q 1; have p1 := p 1; have q2 := q 2; have p2 := p 2; have q3 := q 3; have p3 := p 3; have q4 := q 4; have p4 := p 4; have q5 := q 5; have p5 := p 5; have q6 := q 6; have p6 := p 6; have q7 := q 7; have p7 := p 7; have q8 := q 8; have p8 := p 8; have q9 := q 9; have p9 := p 9; have q10 := q 10; have p10 := p 10; have q11 := q 11; have p11 := p 11
  clear q p
  have HCA := Lib.hid (conf_alike u v n n f1 f2 f3 f4 f5 f6 f7 f8 f9 f10 f11 bs HN.out.2 w12 E2.out.u E2.out.v)
  go_wp2_with fail
  refine HCA.out.mono ?_
  rintro _ w13 ⟨rfl, b13⟩
  have E3 := Lib.hid (E2.out.below b13)
  clear b13 E2 HCA q0 p0 q1 p1 q2 p2 q3 p3 q4 p4 q5 p5 q6 p6 q7 p7 q8 p8 q9 p9 q10 p10 q11 p11
  have HSm := Lib.hid (same_steps ra rb M ca cb l w13 (by have := HM.out; omega) E3.out.ra.2 E3.out.rb.2)
  go_wp2_with fail
  refine HSm.out.mono ?_
  rintro _ w14 ⟨rfl, b14⟩
  have E4 := Lib.hid (E3.out.below b14)
  clear b14 E3 HSm
  have hc := E4.out.ra.2 0 HM.out.2.2
  rw [Hl0.out, Nat.zero_mul] at hc
  obtain ⟨c0, c1, c2, c3, c4, c5, c6, c7⟩ := hc
  have hMi := HM.out.1
  have hM0 : (0 : Int) < (M : Int) := by omega
  go_wp2
  go_ret
  exact ⟨rfl, E4.out.bel⟩
end Go.Proofs.Ythamhdfkhhfmmaa.DiceW
