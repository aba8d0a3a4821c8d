import Derived.Test.YtnjcenbmdcogpaaGreatDoorHexA
import Derived.Test.YtnjcenbmdcogpaaGreatDoorPgStWord
import Derived.Test.YtnjcenbmdcogpaaGreatDoorFmtD
import Derived.Test.YtnjcenbmdcogpaaGreatDoorStpLine
import Derived.Deep.RegionHeld3
import Derived.Deep.Cut
/- The page's steps: a step's line. -/
namespace Go.Proofs.YtnjcenbmdcogpaaGreatDoor.Sp
open Go Go.Lib Go.RowKit
set_option linter.unusedSimpArgs false

/-- a step's box at the call's start -/
structure LB (w : World) (x : St) (W : World) : Prop where
  b : Below w.heap.size w W
  lt : w.heap.size < W.heap.size
  box : W.heap[w.heap.size]? = some (.cells x.cells 26 (0, 0))
theorem LB.start {w W : World} {x : St} (hb : Below (w.alloc (.cells x.cells 26)).heap.size (w.alloc (.cells x.cells 26)) W) : LB w x W := by
  have h0 : Below w.heap.size w (w.alloc (.cells x.cells 26)) := (Below.refl _ _).alloc (Nat.le_refl _) _
  exact ⟨h0.trans (hb.mono (by simp)), by have := hb.size; simp at this; omega, (hb.block _ (by simp)).trans (heap_alloc_new _ _)⟩
theorem LB.below {w W W' : World} {x : St} (h : LB w x W) (hb : Below W.heap.size W W') : LB w x W' :=
  ⟨h.b.trans (hb.mono h.b.size), Nat.lt_of_lt_of_le h.lt hb.size, (hb.block _ h.lt).trans h.box⟩
theorem LB.drew {w W : World} {x : St} (h : LB w x W) : LB w x W.drew := h.below (Below.refl _ _).drew
theorem LB.cells {w W : World} {x : St} (h : LB w x W) : W.cell? ⟨w.heap.size, 0, none⟩ = some (.int .i64 x.k) ∧ W.cell? ⟨w.heap.size, 1, none⟩ = some (.int .i64 x.sd) ∧ W.cell? ⟨w.heap.size, 2, none⟩ = some (.int .i64 x.n) ∧ W.cell? ⟨w.heap.size, 3, none⟩ = some (.int .i64 x.c) ∧ W.cell? ⟨w.heap.size, 4, none⟩ = some (.int .i64 x.f) ∧ W.cell? ⟨w.heap.size, 5, none⟩ = some (.int .u64 x.s) ∧ W.cell? ⟨w.heap.size, 6, none⟩ = some (.int .u64 x.t) ∧ W.cell? ⟨w.heap.size, 7, none⟩ = some (.string x.d) := by
  have c : ∀ i, W.cell? ⟨w.heap.size, i, none⟩ = x.cells[i]? := fun i => cell_of_row _ _ _ _ _ (0, 0) h.box
  exact ⟨c 0, c 1, c 2, c 3, c 4, c 5, c 6, c 7⟩
theorem cat2 (p a : ByteArray) : p ++ ⟨#[32]⟩ ++ a = ⟨(jn [p.data.toList, a.data.toList]).toArray⟩ := Go.WideShapes.bytes_inj (by simp [jn])
theorem cat3 (p a b : ByteArray) : p ++ ⟨#[32]⟩ ++ a ++ ⟨#[32]⟩ ++ b = ⟨(jn [p.data.toList, a.data.toList, b.data.toList]).toArray⟩ := Go.WideShapes.bytes_inj (by simp [jn])
theorem cat5 (p a b c d : ByteArray) : p ++ ⟨#[32]⟩ ++ a ++ ⟨#[32]⟩ ++ b ++ ⟨#[32]⟩ ++ c ++ ⟨#[32]⟩ ++ d = ⟨(jn [p.data.toList, a.data.toList, b.data.toList, c.data.toList, d.data.toList]).toArray⟩ := Go.WideShapes.bytes_inj (by simp [jn])
theorem wdB_data (k : Nat) : (wdB k).data.toList = wd k := by simp [wdB]
theorem wdB_sz (k : Nat) : (wdB k).size ≤ 7 := by
  have := wd_len k
  rw [← wdB_data] at this
  simpa using this
theorem whole_nn (n : Int) (h0 : 0 ≤ n) (h1 : n ≤ 9223372036854775807) : ∃ A : ByteArray, A.data.toList = decDigits n.toNat ∧ A.size ≤ 20 ∧ ∀ w : World, Calls Tryz.prog 52 #[.int .i64 n] w fun e w' => e = .returned (.string A) ∧ Below w.heap.size w w' := by
  refine ⟨⟨(decDigits n.toNat).toArray⟩, by simp, by have := dec_len n.toNat (by omega); show (decDigits n.toNat).toArray.size ≤ 20; simpa using this, fun w => ?_⟩
  have := Dec.rwhole_any n (by omega) h1 w
  rw [itoa_nn h0] at this
  exact this
theorem digits_nn (u : Nat) (h : u < 18446744073709551616) : ∃ A : ByteArray, A.data.toList = decDigits u ∧ A.size ≤ 20 ∧ ∀ w : World, Calls Tryz.prog 53 #[.int .u64 (u : Int)] w fun e w' => e = .returned (.string A) ∧ Below w.heap.size w w' :=
  ⟨⟨(decDigits u).toArray⟩, by simp, by have := dec_len u h; show (decDigits u).toArray.size ≤ 20; simpa using this, fun w => Dec.rdigits_any u h w⟩
theorem hexs_nn (d : ByteArray) (h : d.size ≤ 64) : ∃ A : ByteArray, A.data.toList = hexS d.data.toList ∧ A.size ≤ 128 ∧ ∀ w : World, Calls Tryz.prog 54 #[.string d] w fun e w' => e = .returned (.string A) ∧ Below w.heap.size w w' :=
  ⟨⟨(hexS d.data.toList).toArray⟩, by simp, by have := hexS_len d.data.toList (by simpa using h); show (hexS d.data.toList).toArray.size ≤ 128; simpa using this, fun w => rhex_any d (by omega) w⟩

set_option maxHeartbeats 1000000 in
set_option maxRecDepth 100000 in
theorem rline_1 (n : Int) (n0 : 0 ≤ n) (n1 : n ≤ 2147483647) (w : World) : Calls Tryz.prog 15 #[.agg #[.int .i64 1, .int .i64 0, .int .i64 n, .int .i64 0, .int .i64 0, .int .u64 0, .int .u64 0, .string ⟨#[]⟩]] w fun e w' => e = .returned (.string (lineB (⟨1, 0, n, 0, 0, 0, 0, ⟨#[]⟩⟩ : St))) ∧ Below w.heap.size w w' := by
  obtain ⟨A0, hA0, ha0, HC0⟩ := whole_nn n (by omega) (by omega)
  have HA0 := Lib.hid hA0
  have HC0' := Lib.hid HC0
  clear hA0 HC0
  obtain ⟨x, hx⟩ : ∃ x, x = (⟨1, 0, n, 0, 0, 0, 0, ⟨#[]⟩⟩ : St) := ⟨_, rfl⟩
  have hp7 := wdB_sz 1
  go_enter Tryz.func15, Tryz.ntmps15
  go_wp2_with fail
  refine (St15.has_1 _).mono ?_
  rintro _ w1 ⟨rfl, hb⟩
  have HX1 : Hid (LB w x w1) := Lib.hid (LB.start (by rw [hx]; exact hb))
  clear hb
  obtain ⟨c0, c1, c2, c3, c4, c5, c6, c7⟩ := HX1.out.cells
  rw [hx] at c0 c1 c2 c3 c4 c5 c6 c7
  dsimp only at c0 c1 c2 c3 c4 c5 c6 c7
  have lt := HX1.out.lt
  go_wp2_with fail
  refine (rword_1 _).mono ?_
  rintro _ w2 ⟨rfl, hb2⟩
  have HX2 := Lib.hid (HX1.out.below hb2)
  clear hb2
  clear c0 c1 c2 c3 c4 c5 c6 c7 lt
  obtain ⟨c0, c1, c2, c3, c4, c5, c6, c7⟩ := HX2.out.cells
  rw [hx] at c0 c1 c2 c3 c4 c5 c6 c7
  dsimp only at c0 c1 c2 c3 c4 c5 c6 c7
  have lt := HX2.out.lt
  obtain ⟨P, hP⟩ : ∃ P, wdB 1 = P := ⟨_, rfl⟩
  rw [hP] at hp7 ⊢
  have HP := Lib.hid hP
  clear hP
  have hs0a : P.size + 1 ≤ 9223372036854775807 := by omega
  have hs0b : P.size + 1 + A0.size ≤ 9223372036854775807 := by omega
  go_wp2_with fail
  refine (St15.in_n_115 _).mono ?_
  rintro _ wq ⟨rfl, hq⟩
  obtain rfl := hq.symm
  clear hq
  go_wp2_with fail
  refine (in_n_110 _).mono ?_
  rintro _ wq ⟨rfl, hq⟩
  obtain rfl := hq.symm
  clear hq
  go_wp2_with fail
  refine (HC0'.out _).mono ?_
  rintro _ w4 ⟨rfl, hb4⟩
  have HX4 := Lib.hid (HX2.out.below hb4)
  clear hb4
  clear c0 c1 c2 c3 c4 c5 c6 c7 lt
  obtain ⟨c0, c1, c2, c3, c4, c5, c6, c7⟩ := HX4.out.cells
  rw [hx] at c0 c1 c2 c3 c4 c5 c6 c7
  dsimp only at c0 c1 c2 c3 c4 c5 c6 c7
  have lt := HX4.out.lt
  go_wp2_with fail
  refine (St15.in_n_112 _).mono ?_
  rintro _ wq ⟨rfl, hq⟩
  obtain rfl := hq.symm
  clear hq
  have HF := Lib.hid (show P ++ ⟨#[32]⟩ ++ A0 = lineB (⟨1, 0, n, 0, 0, 0, 0, ⟨#[]⟩⟩ : St) by rw [cat2, HA0.out, ← HP.out, wdB_data]; rfl)
  go_wp2
  go_ret
  exact ⟨by rw [← HF.out]; rfl, HX4.out.b⟩

set_option maxHeartbeats 1000000 in
set_option maxRecDepth 100000 in
theorem rline_2 (sd : Int) (s0 : 0 ≤ sd) (s1 : sd ≤ 1) (w : World) : Calls Tryz.prog 15 #[.agg #[.int .i64 2, .int .i64 sd, .int .i64 0, .int .i64 0, .int .i64 0, .int .u64 0, .int .u64 0, .string ⟨#[]⟩]] w fun e w' => e = .returned (.string (lineB (⟨2, sd, 0, 0, 0, 0, 0, ⟨#[]⟩⟩ : St))) ∧ Below w.heap.size w w' := by
  obtain ⟨A0, hA0, ha0, HC0⟩ := whole_nn sd (by omega) (by omega)
  have HA0 := Lib.hid hA0
  have HC0' := Lib.hid HC0
  clear hA0 HC0
  obtain ⟨x, hx⟩ : ∃ x, x = (⟨2, sd, 0, 0, 0, 0, 0, ⟨#[]⟩⟩ : St) := ⟨_, rfl⟩
  have hp7 := wdB_sz 2
  go_enter Tryz.func15, Tryz.ntmps15
  go_wp2_with fail
  refine (St15.has_2 _).mono ?_
  rintro _ w1 ⟨rfl, hb⟩
  have HX1 : Hid (LB w x w1) := Lib.hid (LB.start (by rw [hx]; exact hb))
  clear hb
  obtain ⟨c0, c1, c2, c3, c4, c5, c6, c7⟩ := HX1.out.cells
  rw [hx] at c0 c1 c2 c3 c4 c5 c6 c7
  dsimp only at c0 c1 c2 c3 c4 c5 c6 c7
  have lt := HX1.out.lt
  go_wp2_with fail
  refine (rword_2 _).mono ?_
  rintro _ w2 ⟨rfl, hb2⟩
  have HX2 := Lib.hid (HX1.out.below hb2)
  clear hb2
  clear c0 c1 c2 c3 c4 c5 c6 c7 lt
  obtain ⟨c0, c1, c2, c3, c4, c5, c6, c7⟩ := HX2.out.cells
  rw [hx] at c0 c1 c2 c3 c4 c5 c6 c7
  dsimp only at c0 c1 c2 c3 c4 c5 c6 c7
  have lt := HX2.out.lt
  obtain ⟨P, hP⟩ : ∃ P, wdB 2 = P := ⟨_, rfl⟩
  rw [hP] at hp7 ⊢
  have HP := Lib.hid hP
  clear hP
  have hs0a : P.size + 1 ≤ 9223372036854775807 := by omega
  have hs0b : P.size + 1 + A0.size ≤ 9223372036854775807 := by omega
  go_wp2_with fail
  refine (St15.in_s_115 _).mono ?_
  rintro _ wq ⟨rfl, hq⟩
  obtain rfl := hq.symm
  clear hq
  go_wp2_with fail
  refine (HC0'.out _).mono ?_
  rintro _ w3 ⟨rfl, hb3⟩
  have HX3 := Lib.hid (HX2.out.below hb3)
  clear hb3
  clear c0 c1 c2 c3 c4 c5 c6 c7 lt
  obtain ⟨c0, c1, c2, c3, c4, c5, c6, c7⟩ := HX3.out.cells
  rw [hx] at c0 c1 c2 c3 c4 c5 c6 c7
  dsimp only at c0 c1 c2 c3 c4 c5 c6 c7
  have lt := HX3.out.lt
  go_wp2_with fail
  refine (in_s_110 _).mono ?_
  rintro _ wq ⟨rfl, hq⟩
  obtain rfl := hq.symm
  clear hq
  go_wp2_with fail
  refine (St15.in_s_112 _).mono ?_
  rintro _ wq ⟨rfl, hq⟩
  obtain rfl := hq.symm
  clear hq
  have HF := Lib.hid (show P ++ ⟨#[32]⟩ ++ A0 = lineB (⟨2, sd, 0, 0, 0, 0, 0, ⟨#[]⟩⟩ : St) by rw [cat2, HA0.out, ← HP.out, wdB_data]; rfl)
  go_wp2
  go_ret
  exact ⟨by rw [← HF.out]; rfl, HX3.out.b⟩

set_option maxHeartbeats 1000000 in
set_option maxRecDepth 100000 in
theorem rline_4 (sd : Int) (s0 : 0 ≤ sd) (s1 : sd ≤ 1) (w : World) : Calls Tryz.prog 15 #[.agg #[.int .i64 4, .int .i64 sd, .int .i64 0, .int .i64 0, .int .i64 0, .int .u64 0, .int .u64 0, .string ⟨#[]⟩]] w fun e w' => e = .returned (.string (lineB (⟨4, sd, 0, 0, 0, 0, 0, ⟨#[]⟩⟩ : St))) ∧ Below w.heap.size w w' := by
  obtain ⟨A0, hA0, ha0, HC0⟩ := whole_nn sd (by omega) (by omega)
  have HA0 := Lib.hid hA0
  have HC0' := Lib.hid HC0
  clear hA0 HC0
  obtain ⟨x, hx⟩ : ∃ x, x = (⟨4, sd, 0, 0, 0, 0, 0, ⟨#[]⟩⟩ : St) := ⟨_, rfl⟩
  have hp7 := wdB_sz 4
  go_enter Tryz.func15, Tryz.ntmps15
  go_wp2_with fail
  refine (St15.has_4 _).mono ?_
  rintro _ w1 ⟨rfl, hb⟩
  have HX1 : Hid (LB w x w1) := Lib.hid (LB.start (by rw [hx]; exact hb))
  clear hb
  obtain ⟨c0, c1, c2, c3, c4, c5, c6, c7⟩ := HX1.out.cells
  rw [hx] at c0 c1 c2 c3 c4 c5 c6 c7
  dsimp only at c0 c1 c2 c3 c4 c5 c6 c7
  have lt := HX1.out.lt
  go_wp2_with fail
  refine (rword_4 _).mono ?_
  rintro _ w2 ⟨rfl, hb2⟩
  have HX2 := Lib.hid (HX1.out.below hb2)
  clear hb2
  clear c0 c1 c2 c3 c4 c5 c6 c7 lt
  obtain ⟨c0, c1, c2, c3, c4, c5, c6, c7⟩ := HX2.out.cells
  rw [hx] at c0 c1 c2 c3 c4 c5 c6 c7
  dsimp only at c0 c1 c2 c3 c4 c5 c6 c7
  have lt := HX2.out.lt
  obtain ⟨P, hP⟩ : ∃ P, wdB 4 = P := ⟨_, rfl⟩
  rw [hP] at hp7 ⊢
  have HP := Lib.hid hP
  clear hP
  have hs0a : P.size + 1 ≤ 9223372036854775807 := by omega
  have hs0b : P.size + 1 + A0.size ≤ 9223372036854775807 := by omega
  go_wp2_with fail
  refine (St15.in_s_115 _).mono ?_
  rintro _ wq ⟨rfl, hq⟩
  obtain rfl := hq.symm
  clear hq
  go_wp2_with fail
  refine (HC0'.out _).mono ?_
  rintro _ w3 ⟨rfl, hb3⟩
  have HX3 := Lib.hid (HX2.out.below hb3)
  clear hb3
  clear c0 c1 c2 c3 c4 c5 c6 c7 lt
  obtain ⟨c0, c1, c2, c3, c4, c5, c6, c7⟩ := HX3.out.cells
  rw [hx] at c0 c1 c2 c3 c4 c5 c6 c7
  dsimp only at c0 c1 c2 c3 c4 c5 c6 c7
  have lt := HX3.out.lt
  go_wp2_with fail
  refine (in_s_110 _).mono ?_
  rintro _ wq ⟨rfl, hq⟩
  obtain rfl := hq.symm
  clear hq
  go_wp2_with fail
  refine (St15.in_s_112 _).mono ?_
  rintro _ wq ⟨rfl, hq⟩
  obtain rfl := hq.symm
  clear hq
  have HF := Lib.hid (show P ++ ⟨#[32]⟩ ++ A0 = lineB (⟨4, sd, 0, 0, 0, 0, 0, ⟨#[]⟩⟩ : St) by rw [cat2, HA0.out, ← HP.out, wdB_data]; rfl)
  go_wp2
  go_ret
  exact ⟨by rw [← HF.out]; rfl, HX3.out.b⟩

set_option maxHeartbeats 1000000 in
set_option maxRecDepth 100000 in
theorem rline_5 (n : Int) (n0 : 0 ≤ n) (n1 : n ≤ 7) (w : World) : Calls Tryz.prog 15 #[.agg #[.int .i64 5, .int .i64 0, .int .i64 n, .int .i64 0, .int .i64 0, .int .u64 0, .int .u64 0, .string ⟨#[]⟩]] w fun e w' => e = .returned (.string (lineB (⟨5, 0, n, 0, 0, 0, 0, ⟨#[]⟩⟩ : St))) ∧ Below w.heap.size w w' := by
  obtain ⟨A0, hA0, ha0, HC0⟩ := whole_nn n (by omega) (by omega)
  have HA0 := Lib.hid hA0
  have HC0' := Lib.hid HC0
  clear hA0 HC0
  obtain ⟨x, hx⟩ : ∃ x, x = (⟨5, 0, n, 0, 0, 0, 0, ⟨#[]⟩⟩ : St) := ⟨_, rfl⟩
  have hp7 := wdB_sz 5
  go_enter Tryz.func15, Tryz.ntmps15
  go_wp2_with fail
  refine (St15.has_5 _).mono ?_
  rintro _ w1 ⟨rfl, hb⟩
  have HX1 : Hid (LB w x w1) := Lib.hid (LB.start (by rw [hx]; exact hb))
  clear hb
  obtain ⟨c0, c1, c2, c3, c4, c5, c6, c7⟩ := HX1.out.cells
  rw [hx] at c0 c1 c2 c3 c4 c5 c6 c7
  dsimp only at c0 c1 c2 c3 c4 c5 c6 c7
  have lt := HX1.out.lt
  go_wp2_with fail
  refine (rword_5 _).mono ?_
  rintro _ w2 ⟨rfl, hb2⟩
  have HX2 := Lib.hid (HX1.out.below hb2)
  clear hb2
  clear c0 c1 c2 c3 c4 c5 c6 c7 lt
  obtain ⟨c0, c1, c2, c3, c4, c5, c6, c7⟩ := HX2.out.cells
  rw [hx] at c0 c1 c2 c3 c4 c5 c6 c7
  dsimp only at c0 c1 c2 c3 c4 c5 c6 c7
  have lt := HX2.out.lt
  obtain ⟨P, hP⟩ : ∃ P, wdB 5 = P := ⟨_, rfl⟩
  rw [hP] at hp7 ⊢
  have HP := Lib.hid hP
  clear hP
  have hs0a : P.size + 1 ≤ 9223372036854775807 := by omega
  have hs0b : P.size + 1 + A0.size ≤ 9223372036854775807 := by omega
  go_wp2_with fail
  refine (St15.in_n_115 _).mono ?_
  rintro _ wq ⟨rfl, hq⟩
  obtain rfl := hq.symm
  clear hq
  go_wp2_with fail
  refine (in_n_110 _).mono ?_
  rintro _ wq ⟨rfl, hq⟩
  obtain rfl := hq.symm
  clear hq
  go_wp2_with fail
  refine (HC0'.out _).mono ?_
  rintro _ w4 ⟨rfl, hb4⟩
  have HX4 := Lib.hid (HX2.out.below hb4)
  clear hb4
  clear c0 c1 c2 c3 c4 c5 c6 c7 lt
  obtain ⟨c0, c1, c2, c3, c4, c5, c6, c7⟩ := HX4.out.cells
  rw [hx] at c0 c1 c2 c3 c4 c5 c6 c7
  dsimp only at c0 c1 c2 c3 c4 c5 c6 c7
  have lt := HX4.out.lt
  go_wp2_with fail
  refine (St15.in_n_112 _).mono ?_
  rintro _ wq ⟨rfl, hq⟩
  obtain rfl := hq.symm
  clear hq
  have HF := Lib.hid (show P ++ ⟨#[32]⟩ ++ A0 = lineB (⟨5, 0, n, 0, 0, 0, 0, ⟨#[]⟩⟩ : St) by rw [cat2, HA0.out, ← HP.out, wdB_data]; rfl)
  go_wp2
  go_ret
  exact ⟨by rw [← HF.out]; rfl, HX4.out.b⟩

set_option maxHeartbeats 1000000 in
set_option maxRecDepth 100000 in
theorem rline_6 (sd n : Int) (s0 : 0 ≤ sd) (s1 : sd ≤ 1) (n0 : 1 ≤ n) (n1 : n ≤ 4) (w : World) : Calls Tryz.prog 15 #[.agg #[.int .i64 6, .int .i64 sd, .int .i64 n, .int .i64 0, .int .i64 0, .int .u64 0, .int .u64 0, .string ⟨#[]⟩]] w fun e w' => e = .returned (.string (lineB (⟨6, sd, n, 0, 0, 0, 0, ⟨#[]⟩⟩ : St))) ∧ Below w.heap.size w w' := by
  obtain ⟨A0, hA0, ha0, HC0⟩ := whole_nn sd (by omega) (by omega)
  have HA0 := Lib.hid hA0
  have HC0' := Lib.hid HC0
  clear hA0 HC0
  obtain ⟨A1, hA1, ha1, HC1⟩ := whole_nn n (by omega) (by omega)
  have HA1 := Lib.hid hA1
  have HC1' := Lib.hid HC1
  clear hA1 HC1
  obtain ⟨x, hx⟩ : ∃ x, x = (⟨6, sd, n, 0, 0, 0, 0, ⟨#[]⟩⟩ : St) := ⟨_, rfl⟩
  have hp7 := wdB_sz 6
  go_enter Tryz.func15, Tryz.ntmps15
  go_wp2_with fail
  refine (St15.has_6 _).mono ?_
  rintro _ w1 ⟨rfl, hb⟩
  have HX1 : Hid (LB w x w1) := Lib.hid (LB.start (by rw [hx]; exact hb))
  clear hb
  obtain ⟨c0, c1, c2, c3, c4, c5, c6, c7⟩ := HX1.out.cells
  rw [hx] at c0 c1 c2 c3 c4 c5 c6 c7
  dsimp only at c0 c1 c2 c3 c4 c5 c6 c7
  have lt := HX1.out.lt
  go_wp2_with fail
  refine (rword_6 _).mono ?_
  rintro _ w2 ⟨rfl, hb2⟩
  have HX2 := Lib.hid (HX1.out.below hb2)
  clear hb2
  clear c0 c1 c2 c3 c4 c5 c6 c7 lt
  obtain ⟨c0, c1, c2, c3, c4, c5, c6, c7⟩ := HX2.out.cells
  rw [hx] at c0 c1 c2 c3 c4 c5 c6 c7
  dsimp only at c0 c1 c2 c3 c4 c5 c6 c7
  have lt := HX2.out.lt
  obtain ⟨P, hP⟩ : ∃ P, wdB 6 = P := ⟨_, rfl⟩
  rw [hP] at hp7 ⊢
  have HP := Lib.hid hP
  clear hP
  have hs0a : P.size + 1 ≤ 9223372036854775807 := by omega
  have hs0b : P.size + 1 + A0.size ≤ 9223372036854775807 := by omega
  have hs1a : P.size + 1 + A0.size + 1 ≤ 9223372036854775807 := by omega
  have hs1b : P.size + 1 + A0.size + 1 + A1.size ≤ 9223372036854775807 := by omega
  go_wp2_with fail
  refine (St15.in_sn_115 _).mono ?_
  rintro _ wq ⟨rfl, hq⟩
  obtain rfl := hq.symm
  clear hq
  go_wp2_with fail
  refine (HC0'.out _).mono ?_
  rintro _ w3 ⟨rfl, hb3⟩
  have HX3 := Lib.hid (HX2.out.below hb3)
  clear hb3
  clear c0 c1 c2 c3 c4 c5 c6 c7 lt
  obtain ⟨c0, c1, c2, c3, c4, c5, c6, c7⟩ := HX3.out.cells
  rw [hx] at c0 c1 c2 c3 c4 c5 c6 c7
  dsimp only at c0 c1 c2 c3 c4 c5 c6 c7
  have lt := HX3.out.lt
  go_wp2_with fail
  refine (in_sn_110 _).mono ?_
  rintro _ wq ⟨rfl, hq⟩
  obtain rfl := hq.symm
  clear hq
  go_wp2_with fail
  refine (HC1'.out _).mono ?_
  rintro _ w4 ⟨rfl, hb4⟩
  have HX4 := Lib.hid (HX3.out.below hb4)
  clear hb4
  clear c0 c1 c2 c3 c4 c5 c6 c7 lt
  obtain ⟨c0, c1, c2, c3, c4, c5, c6, c7⟩ := HX4.out.cells
  rw [hx] at c0 c1 c2 c3 c4 c5 c6 c7
  dsimp only at c0 c1 c2 c3 c4 c5 c6 c7
  have lt := HX4.out.lt
  go_wp2_with fail
  refine (St15.in_sn_112 _).mono ?_
  rintro _ wq ⟨rfl, hq⟩
  obtain rfl := hq.symm
  clear hq
  have HF := Lib.hid (show P ++ ⟨#[32]⟩ ++ A0 ++ ⟨#[32]⟩ ++ A1 = lineB (⟨6, sd, n, 0, 0, 0, 0, ⟨#[]⟩⟩ : St) by rw [cat3, HA0.out, HA1.out, ← HP.out, wdB_data]; rfl)
  go_wp2
  go_ret
  exact ⟨by rw [← HF.out]; rfl, HX4.out.b⟩

set_option maxHeartbeats 1000000 in
set_option maxRecDepth 100000 in
theorem rline_7   (w : World) : Calls Tryz.prog 15 #[.agg #[.int .i64 7, .int .i64 0, .int .i64 0, .int .i64 0, .int .i64 0, .int .u64 0, .int .u64 0, .string ⟨#[]⟩]] w fun e w' => e = .returned (.string (lineB (⟨7, 0, 0, 0, 0, 0, 0, ⟨#[]⟩⟩ : St))) ∧ Below w.heap.size w w' := by
  obtain ⟨x, hx⟩ : ∃ x, x = (⟨7, 0, 0, 0, 0, 0, 0, ⟨#[]⟩⟩ : St) := ⟨_, rfl⟩
  have hp7 := wdB_sz 7
  go_enter Tryz.func15, Tryz.ntmps15
  go_wp2_with fail
  refine (St15.has_7 _).mono ?_
  rintro _ w1 ⟨rfl, hb⟩
  have HX1 : Hid (LB w x w1) := Lib.hid (LB.start (by rw [hx]; exact hb))
  clear hb
  obtain ⟨c0, c1, c2, c3, c4, c5, c6, c7⟩ := HX1.out.cells
  rw [hx] at c0 c1 c2 c3 c4 c5 c6 c7
  dsimp only at c0 c1 c2 c3 c4 c5 c6 c7
  have lt := HX1.out.lt
  go_wp2_with fail
  refine (rword_7 _).mono ?_
  rintro _ w2 ⟨rfl, hb2⟩
  have HX2 := Lib.hid (HX1.out.below hb2)
  clear hb2
  clear c0 c1 c2 c3 c4 c5 c6 c7 lt
  obtain ⟨c0, c1, c2, c3, c4, c5, c6, c7⟩ := HX2.out.cells
  rw [hx] at c0 c1 c2 c3 c4 c5 c6 c7
  dsimp only at c0 c1 c2 c3 c4 c5 c6 c7
  have lt := HX2.out.lt
  obtain ⟨P, hP⟩ : ∃ P, wdB 7 = P := ⟨_, rfl⟩
  rw [hP] at hp7 ⊢
  have HP := Lib.hid hP
  clear hP
  go_wp2_with fail
  refine (St15.in_none_115 _).mono ?_
  rintro _ wq ⟨rfl, hq⟩
  obtain rfl := hq.symm
  clear hq
  go_wp2_with fail
  refine (in_none_110 _).mono ?_
  rintro _ wq ⟨rfl, hq⟩
  obtain rfl := hq.symm
  clear hq
  go_wp2_with fail
  refine (St15.in_none_112 _).mono ?_
  rintro _ wq ⟨rfl, hq⟩
  obtain rfl := hq.symm
  clear hq
  have HF := Lib.hid (show P = lineB (⟨7, 0, 0, 0, 0, 0, 0, ⟨#[]⟩⟩ : St) by rw [← HP.out]; rfl)
  go_wp2
  go_ret
  exact ⟨by rw [← HF.out]; rfl, HX2.out.b⟩

set_option maxHeartbeats 1000000 in
set_option maxRecDepth 100000 in
theorem rline_8   (w : World) : Calls Tryz.prog 15 #[.agg #[.int .i64 8, .int .i64 0, .int .i64 0, .int .i64 0, .int .i64 0, .int .u64 0, .int .u64 0, .string ⟨#[]⟩]] w fun e w' => e = .returned (.string (lineB (⟨8, 0, 0, 0, 0, 0, 0, ⟨#[]⟩⟩ : St))) ∧ Below w.heap.size w w' := by
  obtain ⟨x, hx⟩ : ∃ x, x = (⟨8, 0, 0, 0, 0, 0, 0, ⟨#[]⟩⟩ : St) := ⟨_, rfl⟩
  have hp7 := wdB_sz 8
  go_enter Tryz.func15, Tryz.ntmps15
  go_wp2_with fail
  refine (St15.has_8 _).mono ?_
  rintro _ w1 ⟨rfl, hb⟩
  have HX1 : Hid (LB w x w1) := Lib.hid (LB.start (by rw [hx]; exact hb))
  clear hb
  obtain ⟨c0, c1, c2, c3, c4, c5, c6, c7⟩ := HX1.out.cells
  rw [hx] at c0 c1 c2 c3 c4 c5 c6 c7
  dsimp only at c0 c1 c2 c3 c4 c5 c6 c7
  have lt := HX1.out.lt
  go_wp2_with fail
  refine (rword_8 _).mono ?_
  rintro _ w2 ⟨rfl, hb2⟩
  have HX2 := Lib.hid (HX1.out.below hb2)
  clear hb2
  clear c0 c1 c2 c3 c4 c5 c6 c7 lt
  obtain ⟨c0, c1, c2, c3, c4, c5, c6, c7⟩ := HX2.out.cells
  rw [hx] at c0 c1 c2 c3 c4 c5 c6 c7
  dsimp only at c0 c1 c2 c3 c4 c5 c6 c7
  have lt := HX2.out.lt
  obtain ⟨P, hP⟩ : ∃ P, wdB 8 = P := ⟨_, rfl⟩
  rw [hP] at hp7 ⊢
  have HP := Lib.hid hP
  clear hP
  go_wp2_with fail
  refine (St15.in_none_115 _).mono ?_
  rintro _ wq ⟨rfl, hq⟩
  obtain rfl := hq.symm
  clear hq
  go_wp2_with fail
  refine (in_none_110 _).mono ?_
  rintro _ wq ⟨rfl, hq⟩
  obtain rfl := hq.symm
  clear hq
  go_wp2_with fail
  refine (St15.in_none_112 _).mono ?_
  rintro _ wq ⟨rfl, hq⟩
  obtain rfl := hq.symm
  clear hq
  have HF := Lib.hid (show P = lineB (⟨8, 0, 0, 0, 0, 0, 0, ⟨#[]⟩⟩ : St) by rw [← HP.out]; rfl)
  go_wp2
  go_ret
  exact ⟨by rw [← HF.out]; rfl, HX2.out.b⟩

set_option maxHeartbeats 2000000 in
set_option maxRecDepth 100000 in
theorem rline_3 (c f : Int) (u : Nat) (d : ByteArray) (k0 : 0 ≤ c) (k1 : c < 4) (f0 : 0 ≤ f) (f1 : f ≤ 1) (hu : u < 18446744073709551616) (hd : d.size ≤ 64) (w : World) : Calls Tryz.prog 15 #[.agg #[.int .i64 3, .int .i64 0, .int .i64 0, .int .i64 c, .int .i64 f, .int .u64 0, .int .u64 (u : Int), .string d]] w fun e w' => e = .returned (.string (lineB (⟨3, 0, 0, c, f, 0, (u : Int), d⟩ : St))) ∧ Below w.heap.size w w' := by
  obtain ⟨A0, hA0, ha0, HC0⟩ := whole_nn c (by omega) (by omega)
  obtain ⟨A1, hA1, ha1, HC1⟩ := whole_nn f (by omega) (by omega)
  obtain ⟨A2, hA2, ha2, HC2⟩ := digits_nn u hu
  obtain ⟨A3, hA3, ha3, HC3⟩ := hexs_nn d hd
  have HA := Lib.hid (And.intro hA0 (And.intro hA1 (And.intro hA2 hA3)))
  have HC0' := Lib.hid HC0; have HC1' := Lib.hid HC1; have HC2' := Lib.hid HC2; have HC3' := Lib.hid HC3
  clear hA0 hA1 hA2 hA3 HC0 HC1 HC2 HC3 hu hd
  obtain ⟨x, hx⟩ : ∃ x, x = (⟨3, 0, 0, c, f, 0, (u : Int), d⟩ : St) := ⟨_, rfl⟩
  have hp7 := wdB_sz 3
  go_enter Tryz.func15, Tryz.ntmps15
  go_wp2_with fail
  refine (St15.has_3 _).mono ?_
  rintro _ w1 ⟨rfl, hb⟩
  have HX1 : Hid (LB w x w1) := Lib.hid (LB.start (by rw [hx]; exact hb))
  clear hb
  obtain ⟨c0, c1, c2, c3, c4, c5, c6, c7⟩ := HX1.out.cells
  rw [hx] at c0 c1 c2 c3 c4 c5 c6 c7
  dsimp only at c0 c1 c2 c3 c4 c5 c6 c7
  have lt := HX1.out.lt
  go_wp2_with fail
  refine (rword_3 _).mono ?_
  rintro _ w2 ⟨rfl, hb2⟩
  have HX2 := Lib.hid (HX1.out.below hb2)
  clear hb2
  clear c0 c1 c2 c3 c4 c5 c6 c7 lt
  obtain ⟨c0, c1, c2, c3, c4, c5, c6, c7⟩ := HX2.out.cells
  rw [hx] at c0 c1 c2 c3 c4 c5 c6 c7
  dsimp only at c0 c1 c2 c3 c4 c5 c6 c7
  have lt := HX2.out.lt
  obtain ⟨P, hP⟩ : ∃ P, wdB 3 = P := ⟨_, rfl⟩
  rw [hP] at hp7 ⊢
  have HP := Lib.hid hP
  clear hP
  have hs0a : P.size + 1 ≤ 9223372036854775807 := by omega
  have hs0b : P.size + 1 + A0.size ≤ 9223372036854775807 := by omega
  have hs1a : P.size + 1 + A0.size + 1 ≤ 9223372036854775807 := by omega
  have hs1b : P.size + 1 + A0.size + 1 + A1.size ≤ 9223372036854775807 := by omega
  have hs2a : P.size + 1 + A0.size + 1 + A1.size + 1 ≤ 9223372036854775807 := by omega
  have hs2b : P.size + 1 + A0.size + 1 + A1.size + 1 + A2.size ≤ 9223372036854775807 := by omega
  have hs3a : P.size + 1 + A0.size + 1 + A1.size + 1 + A2.size + 1 ≤ 9223372036854775807 := by omega
  have hs3b : P.size + 1 + A0.size + 1 + A1.size + 1 + A2.size + 1 + A3.size ≤ 9223372036854775807 := by omega
  go_wp2_with fail
  refine (St15.in_p_115 _).mono ?_
  rintro _ wq ⟨rfl, hq⟩
  obtain rfl := hq.symm
  clear hq
  go_wp2_with fail
  refine (in_p_110 _).mono ?_
  rintro _ wq ⟨rfl, hq⟩
  obtain rfl := hq.symm
  clear hq
  go_wp2_with fail
  refine (St15.in_p_112 _).mono ?_
  rintro _ wq ⟨rfl, hq⟩
  obtain rfl := hq.symm
  clear hq
  go_upto_region 8 with fail
  clear c0 c1 c2 c3 c4 c5 c6 c7
  clear lt
  refine wp_region_held_drew (S := fun W => LB w x W) (by kernel_rfl) (LB.drew HX2.out) (fun hHeld => ?_)
  refine wpAnyH_take (i := 0) (oi := _) (v := ?_) rfl (by kernel_rfl) (by kernel_rfl) (by kernel_rfl) (fun _ _ _ h => h) (Or.inl ⟨by rfl, ?_⟩) (by assumption) ?_
  rotate_left
  · (intro W hSw; have hcc := LB.cells hSw; rw [hx] at hcc; obtain ⟨c0, c1, c2, c3, c4, c5, c6, c7⟩ := hcc; dsimp only at c0 c1 c2 c3 c4 c5 c6 c7; have lt := LB.lt hSw; go_simp; first | with_reducible rfl | (rw [if_neg (by omega)] <;> rfl) | skip)
  try simp only [Act.put, List.getElem_toArray, List.getElem_cons_zero, List.setIfInBounds_toArray, List.set_cons_zero, List.set_cons_succ]
  refine wpAnyH_take (i := 1) (oi := _) (v := ?_) rfl (by kernel_rfl) (by kernel_rfl) (by kernel_rfl) (fun _ _ _ h => h) (Or.inl ⟨by rfl, ?_⟩) (by assumption) ?_
  rotate_left
  · (intro W hSw; have hcc := LB.cells hSw; rw [hx] at hcc; obtain ⟨c0, c1, c2, c3, c4, c5, c6, c7⟩ := hcc; dsimp only at c0 c1 c2 c3 c4 c5 c6 c7; have lt := LB.lt hSw; go_simp; first | with_reducible rfl | (rw [if_neg (by omega)] <;> rfl) | skip)
  try simp only [Act.put, List.getElem_toArray, List.getElem_cons_succ, List.getElem_cons_zero, List.setIfInBounds_toArray, List.set_cons_zero, List.set_cons_succ]
  refine wpAnyH_take (i := 2) (oi := _) (v := ?_) rfl (by kernel_rfl) (by kernel_rfl) (by kernel_rfl) (fun _ _ _ h => h) (Or.inl ⟨by rfl, ?_⟩) (by assumption) ?_
  rotate_left
  · (intro W hSw; have hcc := LB.cells hSw; rw [hx] at hcc; obtain ⟨c0, c1, c2, c3, c4, c5, c6, c7⟩ := hcc; dsimp only at c0 c1 c2 c3 c4 c5 c6 c7; have lt := LB.lt hSw; go_simp; first | with_reducible rfl | (rw [if_neg (by omega)] <;> rfl) | skip)
  try simp only [Act.put, List.getElem_toArray, List.getElem_cons_succ, List.getElem_cons_zero, List.setIfInBounds_toArray, List.set_cons_zero, List.set_cons_succ]
  refine wpAnyH_take (i := 3) (oi := _) (v := ?_) rfl (by kernel_rfl) (by kernel_rfl) (by kernel_rfl) (fun _ _ _ h => h) (Or.inl ⟨by rfl, ?_⟩) (by assumption) ?_
  rotate_left
  · (intro W hSw; have hcc := LB.cells hSw; rw [hx] at hcc; obtain ⟨c0, c1, c2, c3, c4, c5, c6, c7⟩ := hcc; dsimp only at c0 c1 c2 c3 c4 c5 c6 c7; have lt := LB.lt hSw; go_simp; first | with_reducible rfl | (rw [if_neg (by omega)] <;> rfl) | skip)
  try simp only [Act.put, List.getElem_toArray, List.getElem_cons_succ, List.getElem_cons_zero, List.setIfInBounds_toArray, List.set_cons_zero, List.set_cons_succ]
  refine wpAnyH_take (i := 4) (oi := _) (v := ?_) rfl (by kernel_rfl) (by kernel_rfl) (by kernel_rfl) (fun _ _ _ h => h) (Or.inl ⟨by rfl, ?_⟩) (by assumption) ?_
  rotate_left
  · (intro W hSw; have hcc := LB.cells hSw; rw [hx] at hcc; obtain ⟨c0, c1, c2, c3, c4, c5, c6, c7⟩ := hcc; dsimp only at c0 c1 c2 c3 c4 c5 c6 c7; have lt := LB.lt hSw; go_simp; first | with_reducible rfl | (rw [if_neg (by omega)] <;> rfl) | skip)
  try simp only [Act.put, List.getElem_toArray, List.getElem_cons_succ, List.getElem_cons_zero, List.setIfInBounds_toArray, List.set_cons_zero, List.set_cons_succ]
  refine wpAnyH_take (i := 8) (oi := _) (v := ?_) rfl (by kernel_rfl) (by kernel_rfl) (by kernel_rfl) (fun _ _ _ h => h) (Or.inl ⟨by rfl, ?_⟩) (by assumption) ?_
  rotate_left
  · (intro W hSw; have hcc := LB.cells hSw; rw [hx] at hcc; obtain ⟨c0, c1, c2, c3, c4, c5, c6, c7⟩ := hcc; dsimp only at c0 c1 c2 c3 c4 c5 c6 c7; have lt := LB.lt hSw; go_simp; first | with_reducible rfl | (rw [if_neg (by omega)] <;> rfl) | skip)
  try simp only [Act.put, List.getElem_toArray, List.getElem_cons_succ, List.getElem_cons_zero, List.setIfInBounds_toArray, List.set_cons_zero, List.set_cons_succ]
  refine wpAnyH_take (i := 9) (oi := _) (v := ?_) rfl (by kernel_rfl) (by kernel_rfl) (by kernel_rfl) (fun _ _ _ h => h) (Or.inl ⟨by rfl, ?_⟩) (by assumption) ?_
  rotate_left
  · (intro W hSw; have hcc := LB.cells hSw; rw [hx] at hcc; obtain ⟨c0, c1, c2, c3, c4, c5, c6, c7⟩ := hcc; dsimp only at c0 c1 c2 c3 c4 c5 c6 c7; have lt := LB.lt hSw; go_simp; first | with_reducible rfl | (rw [if_neg (by omega)] <;> rfl) | skip)
  try simp only [Act.put, List.getElem_toArray, List.getElem_cons_succ, List.getElem_cons_zero, List.setIfInBounds_toArray, List.set_cons_zero, List.set_cons_succ]
  refine wpAnyH_take (i := 10) (oi := _) (v := ?_) rfl (by kernel_rfl) (by kernel_rfl) (by kernel_rfl) (fun _ _ _ h => h) (Or.inl ⟨by rfl, ?_⟩) (by assumption) ?_
  rotate_left
  · (intro W hSw; have hcc := LB.cells hSw; rw [hx] at hcc; obtain ⟨c0, c1, c2, c3, c4, c5, c6, c7⟩ := hcc; dsimp only at c0 c1 c2 c3 c4 c5 c6 c7; have lt := LB.lt hSw; go_simp; first | with_reducible rfl | (rw [if_neg (by omega)] <;> rfl) | skip)
  try simp only [Act.put, List.getElem_toArray, List.getElem_cons_succ, List.getElem_cons_zero, List.setIfInBounds_toArray, List.set_cons_zero, List.set_cons_succ]
  refine wpAnyH_take (i := 14) (oi := _) (v := ?_) rfl (by kernel_rfl) (by kernel_rfl) (by kernel_rfl) (fun _ _ _ h => h) (Or.inl ⟨by rfl, ?_⟩) (by assumption) ?_
  rotate_left
  · (intro W hSw; have hcc := LB.cells hSw; rw [hx] at hcc; obtain ⟨c0, c1, c2, c3, c4, c5, c6, c7⟩ := hcc; dsimp only at c0 c1 c2 c3 c4 c5 c6 c7; have lt := LB.lt hSw; go_simp; first | with_reducible rfl | (rw [if_neg (by omega)] <;> rfl) | skip)
  try simp only [Act.put, List.getElem_toArray, List.getElem_cons_succ, List.getElem_cons_zero, List.setIfInBounds_toArray, List.set_cons_zero, List.set_cons_succ]
  refine wpAnyH_take (i := 15) (oi := _) (v := ?_) rfl (by kernel_rfl) (by kernel_rfl) (by kernel_rfl) (fun _ _ _ h => h) (Or.inl ⟨by rfl, ?_⟩) (by assumption) ?_
  rotate_left
  · (intro W hSw; have hcc := LB.cells hSw; rw [hx] at hcc; obtain ⟨c0, c1, c2, c3, c4, c5, c6, c7⟩ := hcc; dsimp only at c0 c1 c2 c3 c4 c5 c6 c7; have lt := LB.lt hSw; go_simp; first | with_reducible rfl | (rw [if_neg (by omega)] <;> rfl) | skip)
  try simp only [Act.put, List.getElem_toArray, List.getElem_cons_succ, List.getElem_cons_zero, List.setIfInBounds_toArray, List.set_cons_zero, List.set_cons_succ]
  refine wpAnyH_take (i := 16) (oi := _) (v := ?_) rfl (by kernel_rfl) (by kernel_rfl) (by kernel_rfl) (fun _ _ _ h => h) (Or.inl ⟨by rfl, ?_⟩) (by assumption) ?_
  rotate_left
  · (intro W hSw; have hcc := LB.cells hSw; rw [hx] at hcc; obtain ⟨c0, c1, c2, c3, c4, c5, c6, c7⟩ := hcc; dsimp only at c0 c1 c2 c3 c4 c5 c6 c7; have lt := LB.lt hSw; go_simp; first | with_reducible rfl | (rw [if_neg (by omega)] <;> rfl) | skip)
  try simp only [Act.put, List.getElem_toArray, List.getElem_cons_succ, List.getElem_cons_zero, List.setIfInBounds_toArray, List.set_cons_zero, List.set_cons_succ]
  refine wpAnyH_take (i := 20) (oi := _) (v := ?_) rfl (by kernel_rfl) (by kernel_rfl) (by kernel_rfl) (fun _ _ _ h => h) (Or.inl ⟨by rfl, ?_⟩) (by assumption) ?_
  rotate_left
  · (intro W hSw; have hcc := LB.cells hSw; rw [hx] at hcc; obtain ⟨c0, c1, c2, c3, c4, c5, c6, c7⟩ := hcc; dsimp only at c0 c1 c2 c3 c4 c5 c6 c7; have lt := LB.lt hSw; go_simp; first | with_reducible rfl | (rw [if_neg (by omega)] <;> rfl) | skip)
  try simp only [Act.put, List.getElem_toArray, List.getElem_cons_succ, List.getElem_cons_zero, List.setIfInBounds_toArray, List.set_cons_zero, List.set_cons_succ]
  refine wpAnyH_take (i := 21) (oi := _) (v := ?_) rfl (by kernel_rfl) (by kernel_rfl) (by kernel_rfl) (fun _ _ _ h => h) (Or.inl ⟨by rfl, ?_⟩) (by assumption) ?_
  rotate_left
  · (intro W hSw; have hcc := LB.cells hSw; rw [hx] at hcc; obtain ⟨c0, c1, c2, c3, c4, c5, c6, c7⟩ := hcc; dsimp only at c0 c1 c2 c3 c4 c5 c6 c7; have lt := LB.lt hSw; go_simp; first | with_reducible rfl | (rw [if_neg (by omega)] <;> rfl) | skip)
  try simp only [Act.put, List.getElem_toArray, List.getElem_cons_succ, List.getElem_cons_zero, List.setIfInBounds_toArray, List.set_cons_zero, List.set_cons_succ]
  refine wpAnyH_take (i := 22) (oi := _) (v := ?_) rfl (by kernel_rfl) (by kernel_rfl) (by kernel_rfl) (fun _ _ _ h => h) (Or.inl ⟨by rfl, ?_⟩) (by assumption) ?_
  rotate_left
  · (intro W hSw; have hcc := LB.cells hSw; rw [hx] at hcc; obtain ⟨c0, c1, c2, c3, c4, c5, c6, c7⟩ := hcc; dsimp only at c0 c1 c2 c3 c4 c5 c6 c7; have lt := LB.lt hSw; go_simp; first | with_reducible rfl | (rw [if_neg (by omega)] <;> rfl) | skip)
  try simp only [Act.put, List.getElem_toArray, List.getElem_cons_succ, List.getElem_cons_zero, List.setIfInBounds_toArray, List.set_cons_zero, List.set_cons_succ]
  refine wpAnyH_ready (rs := [5]) (by kernel_rfl) (by simp) ?_
  refine AllReadyH.cons rfl (fun K hK => ?_) AllReadyH.nil
  simp only [List.getElem_toArray, List.getElem_cons_succ, List.getElem_cons_zero]
  rw [if_pos (by rfl)]
  go_simp
  refine (HC0'.out _).mono ?_
  rintro _ wc0 ⟨rfl, hbc0⟩
  go_wp2_with fail
  refine hK.out _ _ (LB.below hHeld hbc0) (fun hHeld => ?_)
  clear hK K
  try simp only [Act.put, List.getElem_toArray, List.getElem_cons_succ, List.getElem_cons_zero, List.setIfInBounds_toArray, List.set_cons_zero, List.set_cons_succ]
  refine wpAnyH_take (i := 6) (oi := _) (v := ?_) rfl (by kernel_rfl) (by kernel_rfl) (by kernel_rfl) (fun _ _ _ h => h) (Or.inl ⟨by rfl, ?_⟩) (by assumption) ?_
  rotate_left
  · (intro W hSw; skip; go_simp; first | with_reducible rfl | (rw [if_neg (by omega)] <;> rfl) | skip)
  try simp only [Act.put, List.getElem_toArray, List.getElem_cons_succ, List.getElem_cons_zero, List.setIfInBounds_toArray, List.set_cons_zero, List.set_cons_succ]
  refine wpAnyH_take (i := 7) (oi := _) (v := ?_) rfl (by kernel_rfl) (by kernel_rfl) (by kernel_rfl) (fun _ _ _ h => h) (Or.inl ⟨by rfl, ?_⟩) (by assumption) ?_
  rotate_left
  · (intro W hSw; skip; go_simp; first | with_reducible rfl | (rw [if_neg (by omega)] <;> rfl) | skip)
  try simp only [Act.put, List.getElem_toArray, List.getElem_cons_succ, List.getElem_cons_zero, List.setIfInBounds_toArray, List.set_cons_zero, List.set_cons_succ]
  refine wpAnyH_ready (rs := [11]) (by kernel_rfl) (by simp) ?_
  refine AllReadyH.cons rfl (fun K hK => ?_) AllReadyH.nil
  simp only [List.getElem_toArray, List.getElem_cons_succ, List.getElem_cons_zero]
  rw [if_pos (by rfl)]
  go_simp
  refine (HC1'.out _).mono ?_
  rintro _ wc1 ⟨rfl, hbc1⟩
  go_wp2_with fail
  refine hK.out _ _ (LB.below hHeld hbc1) (fun hHeld => ?_)
  clear hK K
  try simp only [Act.put, List.getElem_toArray, List.getElem_cons_succ, List.getElem_cons_zero, List.setIfInBounds_toArray, List.set_cons_zero, List.set_cons_succ]
  refine wpAnyH_take (i := 12) (oi := _) (v := ?_) rfl (by kernel_rfl) (by kernel_rfl) (by kernel_rfl) (fun _ _ _ h => h) (Or.inl ⟨by rfl, ?_⟩) (by assumption) ?_
  rotate_left
  · (intro W hSw; skip; go_simp; first | with_reducible rfl | (rw [if_neg (by omega)] <;> rfl) | skip)
  try simp only [Act.put, List.getElem_toArray, List.getElem_cons_succ, List.getElem_cons_zero, List.setIfInBounds_toArray, List.set_cons_zero, List.set_cons_succ]
  refine wpAnyH_take (i := 13) (oi := _) (v := ?_) rfl (by kernel_rfl) (by kernel_rfl) (by kernel_rfl) (fun _ _ _ h => h) (Or.inl ⟨by rfl, ?_⟩) (by assumption) ?_
  rotate_left
  · (intro W hSw; skip; go_simp; first | with_reducible rfl | (rw [if_neg (by omega)] <;> rfl) | skip)
  try simp only [Act.put, List.getElem_toArray, List.getElem_cons_succ, List.getElem_cons_zero, List.setIfInBounds_toArray, List.set_cons_zero, List.set_cons_succ]
  refine wpAnyH_ready (rs := [17]) (by kernel_rfl) (by simp) ?_
  refine AllReadyH.cons rfl (fun K hK => ?_) AllReadyH.nil
  simp only [List.getElem_toArray, List.getElem_cons_succ, List.getElem_cons_zero]
  rw [if_pos (by rfl)]
  go_simp
  refine (HC2'.out _).mono ?_
  rintro _ wc2 ⟨rfl, hbc2⟩
  go_wp2_with fail
  refine hK.out _ _ (LB.below hHeld hbc2) (fun hHeld => ?_)
  clear hK K
  try simp only [Act.put, List.getElem_toArray, List.getElem_cons_succ, List.getElem_cons_zero, List.setIfInBounds_toArray, List.set_cons_zero, List.set_cons_succ]
  refine wpAnyH_take (i := 18) (oi := _) (v := ?_) rfl (by kernel_rfl) (by kernel_rfl) (by kernel_rfl) (fun _ _ _ h => h) (Or.inl ⟨by rfl, ?_⟩) (by assumption) ?_
  rotate_left
  · (intro W hSw; skip; go_simp; first | with_reducible rfl | (rw [if_neg (by omega)] <;> rfl) | skip)
  try simp only [Act.put, List.getElem_toArray, List.getElem_cons_succ, List.getElem_cons_zero, List.setIfInBounds_toArray, List.set_cons_zero, List.set_cons_succ]
  refine wpAnyH_take (i := 19) (oi := _) (v := ?_) rfl (by kernel_rfl) (by kernel_rfl) (by kernel_rfl) (fun _ _ _ h => h) (Or.inl ⟨by rfl, ?_⟩) (by assumption) ?_
  rotate_left
  · (intro W hSw; skip; go_simp; first | with_reducible rfl | (rw [if_neg (by omega)] <;> rfl) | skip)
  try simp only [Act.put, List.getElem_toArray, List.getElem_cons_succ, List.getElem_cons_zero, List.setIfInBounds_toArray, List.set_cons_zero, List.set_cons_succ]
  refine wpAnyH_ready (rs := [23]) (by kernel_rfl) (by simp) ?_
  refine AllReadyH.cons rfl (fun K hK => ?_) AllReadyH.nil
  simp only [List.getElem_toArray, List.getElem_cons_succ, List.getElem_cons_zero]
  rw [if_pos (by rfl)]
  go_simp
  refine (HC3'.out _).mono ?_
  rintro _ wc3 ⟨rfl, hbc3⟩
  go_wp2_with fail
  refine hK.out _ _ (LB.below hHeld hbc3) (fun hHeld => ?_)
  clear hK K
  try simp only [Act.put, List.getElem_toArray, List.getElem_cons_succ, List.getElem_cons_zero, List.setIfInBounds_toArray, List.set_cons_zero, List.set_cons_succ]
  refine wpAnyH_take (i := 24) (oi := _) (v := ?_) rfl (by kernel_rfl) (by kernel_rfl) (by kernel_rfl) (fun _ _ _ h => h) (Or.inl ⟨by rfl, ?_⟩) (by assumption) ?_
  rotate_left
  · (intro W hSw; skip; go_simp; first | with_reducible rfl | (rw [if_neg (by omega)] <;> rfl) | skip)
  try simp only [Act.put, List.getElem_toArray, List.getElem_cons_succ, List.getElem_cons_zero, List.setIfInBounds_toArray, List.set_cons_zero, List.set_cons_succ]
  refine wpAnyH_take (i := 25) (oi := _) (v := ?_) rfl (by kernel_rfl) (by kernel_rfl) (by kernel_rfl) (fun _ _ _ h => h) (Or.inl ⟨by rfl, ?_⟩) (by assumption) ?_
  rotate_left
  · (intro W hSw; skip; go_simp; first | with_reducible rfl | (rw [if_neg (by omega)] <;> rfl) | skip)
  try simp only [Act.put, List.getElem_toArray, List.getElem_cons_succ, List.getElem_cons_zero, List.setIfInBounds_toArray, List.set_cons_zero, List.set_cons_succ]
  refine wpAnyH_done (by kernel_rfl) ?_ _
  have HF := Lib.hid (show P ++ ⟨#[32]⟩ ++ A0 ++ ⟨#[32]⟩ ++ A1 ++ ⟨#[32]⟩ ++ A2 ++ ⟨#[32]⟩ ++ A3 = lineB (⟨3, 0, 0, c, f, 0, (u : Int), d⟩ : St) by rw [cat5, HA.out.1, HA.out.2.1, HA.out.2.2.1, HA.out.2.2.2, ← HP.out, wdB_data]; rfl)
  have HBf := Lib.hid (LB.b hHeld)
  clear hHeld
  go_wp2
  go_ret
  exact ⟨by rw [← HF.out]; rfl, HBf.out⟩

theorem rline_ok (x : St) (h : rightP x) (t0 : 0 ≤ x.t) (t1 : x.t < 18446744073709551616) (w : World) : Calls Tryz.prog 15 #[.agg x.cells] w fun e w' => e = .returned (.string (lineB x)) ∧ Below w.heap.size w w' := by
  obtain ⟨k, sd, n, c, f, s, t, d⟩ := x
  rcases h with ⟨h1, h2, h3, h4, p1, p2, p3, p4, p5⟩ | ⟨h1, h2, h3, p1, p2, p3, p4, p5⟩ | ⟨h1, h2, h3, p1, p2, p3, p4, p5⟩ | ⟨h1, h2, h3, p1, p2, p3, p4, p5⟩ | ⟨h1, h2, h3, h4, p1, p2, p3, p4, p5⟩ | ⟨h1, h2, h3, h4, p1, p2, p3, p4, p5⟩ | ⟨h1, h2, h3, p1, p2, p3, p4, p5⟩ | ⟨h1, h2, h3, p1, p2, p3, p4, p5⟩
  all_goals simp only at *
  · subst h1 h2 p1 p2 p3 p4 p5; exact rline_1 n h3 h4 w
  · subst h1 h3 p1 p2 p3 p4 p5; exact rline_2 sd (by omega) (by omega) w
  · subst h1 h2 h3 p5
    obtain ⟨u, rfl⟩ : ∃ u : Nat, t = (u : Int) := ⟨t.toNat, by omega⟩
    exact rline_3 c f u d p1 p2 (by omega) (by omega) (by omega) p4 w
  · subst h1 h3 p1 p2 p3 p4 p5; exact rline_4 sd (by omega) (by omega) w
  · subst h1 h2 p1 p2 p3 p4 p5; exact rline_5 n h3 h4 w
  · subst h1 p1 p2 p3 p4 p5; exact rline_6 sd n (by omega) (by omega) h3 h4 w
  · subst h1 h2 h3 p1 p2 p3 p4 p5; exact rline_7 w
  · subst h1 h2 h3 p1 p2 p3 p4 p5; exact rline_8 w

end Go.Proofs.YtnjcenbmdcogpaaGreatDoor.Sp
