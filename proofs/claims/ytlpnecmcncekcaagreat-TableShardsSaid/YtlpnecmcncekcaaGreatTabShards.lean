import Derived.Test.YtlpnecmcncekcaaGreatTabR
import Derived.Test.YtlpnecmcncekcaaGreatOpsIn
import Derived.Test.YtlpnecmcncekcaaGreatTableAwake
import Derived.Test.YtlpnecmcncekcaaGreatConfW
import Derived.Test.YtlpnecmcncekcaaGreatFnvRef
import Derived.Deep.CutBlock
/- 'TableShards': an operation touches one shard alone. -/
namespace Go.Proofs.YtlpnecmcncekcaaGreat.Mk
open Go Go.RowKit Go.MuLone Conf

/-- the law's world: the config's box, the table -/
structure SW (W V : World) (cs : Array Value) (y : Lay) (M : Maps) : Prop where
  cb : V.heap[W.heap.size]? = some (.cells cs TCf (0, 0))
  wt : WT V y M
  bel : Below W.heap.size W V
  lo : W.heap.size < y.lo ∧ y.lo ≤ y.hi ∧ y.hi ≤ V.heap.size
section
variable {W V V' : World} {cs : Array Value} {y : Lay} {M M1 : Maps}
theorem SW.below (h : SW W V cs y M) (hy : y.ok) (hb : Below V.heap.size V V') : SW W V' cs y M :=
  ⟨(hb.block _ (Array.getElem?_eq_some_iff.1 h.cb).1).trans h.cb, h.wt.below hy hb, h.bel.trans (hb.mono h.bel.size), ⟨h.lo.1, h.lo.2.1, Nat.le_trans h.lo.2.2 hb.size⟩⟩
theorem SW.drew (h : SW W V cs y M) : SW W V.drew cs y M := ⟨h.cb, h.wt.drew, h.bel.drew, h.lo⟩
theorem SW.call (h : SW W V cs y M) (hy : y.ok) {j : Nat} (hj : j < y.n) (hw : WT V' y M1) (hO : Only2 (y.sh j) (y.mp j) V V') : SW W V' cs y M1 := by
  have r := hy.rs j hj
  have lo := h.lo
  exact ⟨(hO.block _ (Array.getElem?_eq_some_iff.1 h.cb).1 (by omega) (by omega)).trans h.cb, hw, Only2.below h.bel hO (by omega) (by omega) h.bel.size, ⟨lo.1, lo.2.1, Nat.le_trans lo.2.2 hO.size⟩⟩
theorem SW.far (h : SW W V cs y M) (hy : y.ok) (hb : ∀ k, k < y.hi → V'.heap[k]? = V.heap[k]?) (hB : Below W.heap.size W V') (hs : V.heap.size ≤ V'.heap.size) : SW W V' cs y M :=
  ⟨(hb _ (by have := h.lo; omega)).trans h.cb, h.wt.keep hy fun k _ h2 _ => hb k h2, hB, ⟨h.lo.1, h.lo.2.1, Nat.le_trans h.lo.2.2 hs⟩⟩
end
set_option maxRecDepth 20000 in
set_option maxHeartbeats 2000000 in
theorem shards_few (c : Cfg) (h : 20 < c.n) (A : Option Addr) (len cap : Nat) (W : World) :
    Calls Tryz.prog 3 #[.agg c.cells, .slice A len cap] W fun e w' => e = .returned (.bool true) ∧ Below W.heap.size W w' := by
  have HF := Lib.hid (fun V => few_no c h V)
  obtain ⟨cA, cn, cc, f1, f2, f3, f4, f5, f6, f7, f8, f9, f10, f11⟩ := c
  unfold Cfg.cells at *
  dsimp only at *
  obtain ⟨W0, hW0⟩ : ∃ X, X = W.alloc (.cells #[.slice cA cn cc, .int .i64 f1, .int .i64 f2, .int .i64 f3, .int .i64 f4, .int .i64 f5, .int .i64 f6, .int .i64 f7, .int .i64 f8, .int .i64 f9, .int .i64 f10, .int .u64 f11] TCf) := ⟨_, rfl⟩
  have hc0 : W0.heap[W.heap.size]? = some (.cells #[.slice cA cn cc, .int .i64 f1, .int .i64 f2, .int .i64 f3, .int .i64 f4, .int .i64 f5, .int .i64 f6, .int .i64 f7, .int .i64 f8, .int .i64 f9, .int .i64 f10, .int .u64 f11] TCf (0, 0)) := by rw [hW0]; exact heap_alloc_new _ _
  have b0 : Below W.heap.size W W0 := by rw [hW0]; exact (Below.refl _ _).alloc (Nat.le_refl _) _
  have H0 := Lib.hid (And.intro hc0 b0)
  have q0 := cell_of_row W0 W.heap.size 0 _ _ (0, 0) hc0
  have q1 := cell_of_row W0 W.heap.size 1 _ _ (0, 0) hc0
  have q2 := cell_of_row W0 W.heap.size 2 _ _ (0, 0) hc0
  have q3 := cell_of_row W0 W.heap.size 3 _ _ (0, 0) hc0
  have q4 := cell_of_row W0 W.heap.size 4 _ _ (0, 0) hc0
  have q5 := cell_of_row W0 W.heap.size 5 _ _ (0, 0) hc0
  have q6 := cell_of_row W0 W.heap.size 6 _ _ (0, 0) hc0
  have q7 := cell_of_row W0 W.heap.size 7 _ _ (0, 0) hc0
  have q8 := cell_of_row W0 W.heap.size 8 _ _ (0, 0) hc0
  have q9 := cell_of_row W0 W.heap.size 9 _ _ (0, 0) hc0
  have q10 := cell_of_row W0 W.heap.size 10 _ _ (0, 0) hc0
  have q11 := cell_of_row W0 W.heap.size 11 _ _ (0, 0) hc0
  clear hc0 b0
  go_enter Tryz.func3, Tryz.ntmps3
  go_upto_region 1 with fail
  rw [← hW0]
  clear hW0
  go_wp2_with fail
  refine (HF.out _).mono ?_
  rintro _ w1 ⟨rfl, b1⟩
  have hc1 := (b1.block _ (Array.getElem?_eq_some_iff.1 H0.out.1).1).trans H0.out.1
  have H1 := Lib.hid (And.intro hc1 (H0.out.2.trans (b1.mono H0.out.2.size)))
  clear q0 q1 q2 q3 q4 q5 q6 q7 q8 q9 q10 q11 b1 H0 HF
  have q0 := cell_of_row w1 W.heap.size 0 _ _ (0, 0) hc1
  have q1 := cell_of_row w1 W.heap.size 1 _ _ (0, 0) hc1
  have q2 := cell_of_row w1 W.heap.size 2 _ _ (0, 0) hc1
  have q3 := cell_of_row w1 W.heap.size 3 _ _ (0, 0) hc1
  have q4 := cell_of_row w1 W.heap.size 4 _ _ (0, 0) hc1
  have q5 := cell_of_row w1 W.heap.size 5 _ _ (0, 0) hc1
  have q6 := cell_of_row w1 W.heap.size 6 _ _ (0, 0) hc1
  have q7 := cell_of_row w1 W.heap.size 7 _ _ (0, 0) hc1
  have q8 := cell_of_row w1 W.heap.size 8 _ _ (0, 0) hc1
  have q9 := cell_of_row w1 W.heap.size 9 _ _ (0, 0) hc1
  have q10 := cell_of_row w1 W.heap.size 10 _ _ (0, 0) hc1
  have q11 := cell_of_row w1 W.heap.size 11 _ _ (0, 0) hc1
  clear hc1
  go_wp2_with fail
  refine (awake_any _).mono ?_
  rintro _ w9 ⟨rfl, b9⟩
  have hbe := H1.out.2.trans (b9.mono H1.out.2.size)
  clear b9
  go_wp2
  go_ret
  exact ⟨rfl, hbe⟩
set_option maxRecDepth 20000 in
set_option maxHeartbeats 2000000 in
theorem shards_long (c : Cfg) (h : c.n ≤ 20) (A : Option Addr) (len cap : Nat) (hl : 60 < len) (W : World) :
    Calls Tryz.prog 3 #[.agg c.cells, .slice A len cap] W fun e w' => e = .returned (.bool true) ∧ Below W.heap.size W w' := by
  have hp : (60 : Int) < (len : Int) := by omega
  have hp2 : decide ((60 : Int) < (len : Int)) = true := by simp; omega
  have HF := Lib.hid (fun V => few_yes c h V)
  clear h
  obtain ⟨cA, cn, cc, f1, f2, f3, f4, f5, f6, f7, f8, f9, f10, f11⟩ := c
  unfold Cfg.cells at *
  dsimp only at *
  obtain ⟨W0, hW0⟩ : ∃ X, X = W.alloc (.cells #[.slice cA cn cc, .int .i64 f1, .int .i64 f2, .int .i64 f3, .int .i64 f4, .int .i64 f5, .int .i64 f6, .int .i64 f7, .int .i64 f8, .int .i64 f9, .int .i64 f10, .int .u64 f11] TCf) := ⟨_, rfl⟩
  have hc0 : W0.heap[W.heap.size]? = some (.cells #[.slice cA cn cc, .int .i64 f1, .int .i64 f2, .int .i64 f3, .int .i64 f4, .int .i64 f5, .int .i64 f6, .int .i64 f7, .int .i64 f8, .int .i64 f9, .int .i64 f10, .int .u64 f11] TCf (0, 0)) := by rw [hW0]; exact heap_alloc_new _ _
  have b0 : Below W.heap.size W W0 := by rw [hW0]; exact (Below.refl _ _).alloc (Nat.le_refl _) _
  have H0 := Lib.hid (And.intro hc0 b0)
  have q0 := cell_of_row W0 W.heap.size 0 _ _ (0, 0) hc0
  have q1 := cell_of_row W0 W.heap.size 1 _ _ (0, 0) hc0
  have q2 := cell_of_row W0 W.heap.size 2 _ _ (0, 0) hc0
  have q3 := cell_of_row W0 W.heap.size 3 _ _ (0, 0) hc0
  have q4 := cell_of_row W0 W.heap.size 4 _ _ (0, 0) hc0
  have q5 := cell_of_row W0 W.heap.size 5 _ _ (0, 0) hc0
  have q6 := cell_of_row W0 W.heap.size 6 _ _ (0, 0) hc0
  have q7 := cell_of_row W0 W.heap.size 7 _ _ (0, 0) hc0
  have q8 := cell_of_row W0 W.heap.size 8 _ _ (0, 0) hc0
  have q9 := cell_of_row W0 W.heap.size 9 _ _ (0, 0) hc0
  have q10 := cell_of_row W0 W.heap.size 10 _ _ (0, 0) hc0
  have q11 := cell_of_row W0 W.heap.size 11 _ _ (0, 0) hc0
  clear hc0 b0
  go_enter Tryz.func3, Tryz.ntmps3
  go_upto_region 1 with fail
  rw [← hW0]
  clear hW0
  go_wp2_with fail
  refine (HF.out _).mono ?_
  rintro _ w1 ⟨rfl, b1⟩
  have hc1 := (b1.block _ (Array.getElem?_eq_some_iff.1 H0.out.1).1).trans H0.out.1
  have H1 := Lib.hid (And.intro hc1 (H0.out.2.trans (b1.mono H0.out.2.size)))
  clear q0 q1 q2 q3 q4 q5 q6 q7 q8 q9 q10 q11 b1 H0 HF
  have q0 := cell_of_row w1 W.heap.size 0 _ _ (0, 0) hc1
  have q1 := cell_of_row w1 W.heap.size 1 _ _ (0, 0) hc1
  have q2 := cell_of_row w1 W.heap.size 2 _ _ (0, 0) hc1
  have q3 := cell_of_row w1 W.heap.size 3 _ _ (0, 0) hc1
  have q4 := cell_of_row w1 W.heap.size 4 _ _ (0, 0) hc1
  have q5 := cell_of_row w1 W.heap.size 5 _ _ (0, 0) hc1
  have q6 := cell_of_row w1 W.heap.size 6 _ _ (0, 0) hc1
  have q7 := cell_of_row w1 W.heap.size 7 _ _ (0, 0) hc1
  have q8 := cell_of_row w1 W.heap.size 8 _ _ (0, 0) hc1
  have q9 := cell_of_row w1 W.heap.size 9 _ _ (0, 0) hc1
  have q10 := cell_of_row w1 W.heap.size 10 _ _ (0, 0) hc1
  have q11 := cell_of_row w1 W.heap.size 11 _ _ (0, 0) hc1
  clear hc1
  go_wp2_with fail
  refine (awake_any _).mono ?_
  rintro _ w9 ⟨rfl, b9⟩
  have hbe := H1.out.2.trans (b9.mono H1.out.2.size)
  clear b9
  go_wp2
  go_ret
  exact ⟨rfl, hbe⟩
set_option maxRecDepth 20000 in
set_option maxHeartbeats 2000000 in
theorem shards_wrong (c : Cfg) (h : c.n ≤ 20) (hwr : ∃ k, k < 11 ∧ wrong c 11 0 = word k) (A : Option Addr) (len cap : Nat) (hl : len ≤ 60) (W : World) :
    Calls Tryz.prog 3 #[.agg c.cells, .slice A len cap] W fun e w' => e = .returned (.bool true) ∧ Below W.heap.size W w' := by
  have hp : ¬ (60 : Int) < (len : Int) := by omega
  have hp2 : decide ((60 : Int) < (len : Int)) = false := by simp; omega
  obtain ⟨k, hk, hwk⟩ := hwr
  obtain ⟨z, hz⟩ : ∃ z, z = word k := ⟨_, rfl⟩
  have z1 : (z == (⟨#[]⟩ : ByteArray)) = false := by rw [hz]; exact (word_ne k hk).1
  have z2 : ¬ z.toList = [] := by rw [hz]; exact (word_ne k hk).2
  have z3 : z.toList.isEmpty = false := by simpa using z2
  have HWr : Hid (∀ V, Calls Tryz.prog 7 #[.agg c.cells] V fun e w' => e = .returned (.string z) ∧ Below V.heap.size V w') := Lib.hid (fun V => by rw [hz, ← hwk]; exact ref_wrong c V)
  have HF := Lib.hid (fun V => few_yes c h V)
  clear hz hwk hk h
  obtain ⟨cA, cn, cc, f1, f2, f3, f4, f5, f6, f7, f8, f9, f10, f11⟩ := c
  unfold Cfg.cells at *
  dsimp only at *
  obtain ⟨W0, hW0⟩ : ∃ X, X = W.alloc (.cells #[.slice cA cn cc, .int .i64 f1, .int .i64 f2, .int .i64 f3, .int .i64 f4, .int .i64 f5, .int .i64 f6, .int .i64 f7, .int .i64 f8, .int .i64 f9, .int .i64 f10, .int .u64 f11] TCf) := ⟨_, rfl⟩
  have hc0 : W0.heap[W.heap.size]? = some (.cells #[.slice cA cn cc, .int .i64 f1, .int .i64 f2, .int .i64 f3, .int .i64 f4, .int .i64 f5, .int .i64 f6, .int .i64 f7, .int .i64 f8, .int .i64 f9, .int .i64 f10, .int .u64 f11] TCf (0, 0)) := by rw [hW0]; exact heap_alloc_new _ _
  have b0 : Below W.heap.size W W0 := by rw [hW0]; exact (Below.refl _ _).alloc (Nat.le_refl _) _
  have H0 := Lib.hid (And.intro hc0 b0)
  have q0 := cell_of_row W0 W.heap.size 0 _ _ (0, 0) hc0
  have q1 := cell_of_row W0 W.heap.size 1 _ _ (0, 0) hc0
  have q2 := cell_of_row W0 W.heap.size 2 _ _ (0, 0) hc0
  have q3 := cell_of_row W0 W.heap.size 3 _ _ (0, 0) hc0
  have q4 := cell_of_row W0 W.heap.size 4 _ _ (0, 0) hc0
  have q5 := cell_of_row W0 W.heap.size 5 _ _ (0, 0) hc0
  have q6 := cell_of_row W0 W.heap.size 6 _ _ (0, 0) hc0
  have q7 := cell_of_row W0 W.heap.size 7 _ _ (0, 0) hc0
  have q8 := cell_of_row W0 W.heap.size 8 _ _ (0, 0) hc0
  have q9 := cell_of_row W0 W.heap.size 9 _ _ (0, 0) hc0
  have q10 := cell_of_row W0 W.heap.size 10 _ _ (0, 0) hc0
  have q11 := cell_of_row W0 W.heap.size 11 _ _ (0, 0) hc0
  clear hc0 b0
  go_enter Tryz.func3, Tryz.ntmps3
  go_upto_region 1 with fail
  rw [← hW0]
  clear hW0
  go_wp2_with fail
  refine (HF.out _).mono ?_
  rintro _ w1 ⟨rfl, b1⟩
  have hc1 := (b1.block _ (Array.getElem?_eq_some_iff.1 H0.out.1).1).trans H0.out.1
  have H1 := Lib.hid (And.intro hc1 (H0.out.2.trans (b1.mono H0.out.2.size)))
  clear q0 q1 q2 q3 q4 q5 q6 q7 q8 q9 q10 q11 b1 H0 HF
  have q0 := cell_of_row w1 W.heap.size 0 _ _ (0, 0) hc1
  have q1 := cell_of_row w1 W.heap.size 1 _ _ (0, 0) hc1
  have q2 := cell_of_row w1 W.heap.size 2 _ _ (0, 0) hc1
  have q3 := cell_of_row w1 W.heap.size 3 _ _ (0, 0) hc1
  have q4 := cell_of_row w1 W.heap.size 4 _ _ (0, 0) hc1
  have q5 := cell_of_row w1 W.heap.size 5 _ _ (0, 0) hc1
  have q6 := cell_of_row w1 W.heap.size 6 _ _ (0, 0) hc1
  have q7 := cell_of_row w1 W.heap.size 7 _ _ (0, 0) hc1
  have q8 := cell_of_row w1 W.heap.size 8 _ _ (0, 0) hc1
  have q9 := cell_of_row w1 W.heap.size 9 _ _ (0, 0) hc1
  have q10 := cell_of_row w1 W.heap.size 10 _ _ (0, 0) hc1
  have q11 := cell_of_row w1 W.heap.size 11 _ _ (0, 0) hc1
  clear hc1
  go_wp2_with fail
  refine (HWr.out _).mono ?_
  rintro _ w2 ⟨rfl, b2⟩
  have hc2 := (b2.block _ (Array.getElem?_eq_some_iff.1 H1.out.1).1).trans H1.out.1
  have H2 := Lib.hid (And.intro hc2 (H1.out.2.trans (b2.mono H1.out.2.size)))
  clear q0 q1 q2 q3 q4 q5 q6 q7 q8 q9 q10 q11 b2 H1 HWr
  go_wp2_with fail
  refine (awake_any _).mono ?_
  rintro _ w9 ⟨rfl, b9⟩
  have hbe := H2.out.2.trans (b9.mono H2.out.2.size)
  clear b9
  go_wp2
  go_ret
  exact ⟨rfl, hbe⟩
set_option maxRecDepth 20000 in
set_option maxHeartbeats 16000000 in
theorem shards_main (c : Cfg) (h : c.n ≤ 20) (hcode : code c 11 0 = 0) (hwr : wrong c 11 0 = ⟨#[]⟩) (A : Option Addr) (len cap : Nat) (qs : List Op9) (W : World) (hq : RdO W A len qs) (hl : len ≤ 60) :
    Calls Tryz.prog 3 #[.agg c.cells, .slice A len cap] W fun e w' => e = .returned (.bool true) ∧ Below W.heap.size W w' := by
  have HQ := Lib.hid hq
  have hp : ¬ (60 : Int) < (len : Int) := by omega
  have hp2 : decide ((60 : Int) < (len : Int)) = false := by simp; omega
  have HWr : Hid (∀ V, Calls Tryz.prog 7 #[.agg c.cells] V fun e w' => e = .returned (.string ⟨#[]⟩) ∧ Below V.heap.size V w') := Lib.hid (fun V => by rw [← hwr]; exact ref_wrong c V)
  have HF := Lib.hid (fun V => few_yes c h V)
  have hh := code_has c hcode
  obtain ⟨n, hn, hn0, hn8⟩ : ∃ n : Nat, c.f2 = (n : Int) ∧ 0 < n ∧ n ≤ 8 := ⟨c.f2.toNat, by omega, by omega, by omega⟩
  obtain ⟨room, hroom⟩ : ∃ r, r = c.f3 := ⟨_, rfl⟩
  have HT : Hid (∀ V, Calls Tryz.prog 9 #[.agg c.cells] V fun e w' => ∃ T v ss, e = .returned (.tuple #[.pointer (some ⟨T, 0, none⟩), .int .i64 0]) ∧ ss.length = n ∧ TR room V w' T v ss c) :=
    Lib.hid fun V => tnew_r room (by omega) (by omega) c n hn0 hn8 hcode hn hroom.symm V
  have HR := Lib.hid (show 0 ≤ room ∧ room ≤ 64 by omega)
  have HNn := Lib.hid (And.intro hn0 hn8)
  clear hcode hwr h hq hh hn0 hn8 hroom
  obtain ⟨cA, cn, cc, f1, f2, f3, f4, f5, f6, f7, f8, f9, f10, f11⟩ := c
  unfold Cfg.cells at *
  dsimp only at *
  subst hn
  obtain ⟨W0, hW0⟩ : ∃ X, X = W.alloc (.cells #[.slice cA cn cc, .int .i64 f1, .int .i64 (n : Int), .int .i64 f3, .int .i64 f4, .int .i64 f5, .int .i64 f6, .int .i64 f7, .int .i64 f8, .int .i64 f9, .int .i64 f10, .int .u64 f11] TCf) := ⟨_, rfl⟩
  have hc0 : W0.heap[W.heap.size]? = some (.cells #[.slice cA cn cc, .int .i64 f1, .int .i64 (n : Int), .int .i64 f3, .int .i64 f4, .int .i64 f5, .int .i64 f6, .int .i64 f7, .int .i64 f8, .int .i64 f9, .int .i64 f10, .int .u64 f11] TCf (0, 0)) := by rw [hW0]; exact heap_alloc_new _ _
  have b0 : Below W.heap.size W W0 := by rw [hW0]; exact (Below.refl _ _).alloc (Nat.le_refl _) _
  have H0 := Lib.hid (And.intro hc0 b0)
  have q0 := cell_of_row W0 W.heap.size 0 _ _ (0, 0) hc0
  have q1 := cell_of_row W0 W.heap.size 1 _ _ (0, 0) hc0
  have q2 := cell_of_row W0 W.heap.size 2 _ _ (0, 0) hc0
  have q3 := cell_of_row W0 W.heap.size 3 _ _ (0, 0) hc0
  have q4 := cell_of_row W0 W.heap.size 4 _ _ (0, 0) hc0
  have q5 := cell_of_row W0 W.heap.size 5 _ _ (0, 0) hc0
  have q6 := cell_of_row W0 W.heap.size 6 _ _ (0, 0) hc0
  have q7 := cell_of_row W0 W.heap.size 7 _ _ (0, 0) hc0
  have q8 := cell_of_row W0 W.heap.size 8 _ _ (0, 0) hc0
  have q9 := cell_of_row W0 W.heap.size 9 _ _ (0, 0) hc0
  have q10 := cell_of_row W0 W.heap.size 10 _ _ (0, 0) hc0
  have q11 := cell_of_row W0 W.heap.size 11 _ _ (0, 0) hc0
  clear hc0 b0
  go_enter Tryz.func3, Tryz.ntmps3
  go_upto_region 1 with fail
  rw [← hW0]
  clear hW0
  go_wp2_with fail
  refine (HF.out _).mono ?_
  rintro _ w1 ⟨rfl, b1⟩
  have hc1 := (b1.block _ (Array.getElem?_eq_some_iff.1 H0.out.1).1).trans H0.out.1
  have H1 := Lib.hid (And.intro hc1 (H0.out.2.trans (b1.mono H0.out.2.size)))
  clear q0 q1 q2 q3 q4 q5 q6 q7 q8 q9 q10 q11 b1 H0 HF
  have q0 := cell_of_row w1 W.heap.size 0 _ _ (0, 0) hc1
  have q1 := cell_of_row w1 W.heap.size 1 _ _ (0, 0) hc1
  have q2 := cell_of_row w1 W.heap.size 2 _ _ (0, 0) hc1
  have q3 := cell_of_row w1 W.heap.size 3 _ _ (0, 0) hc1
  have q4 := cell_of_row w1 W.heap.size 4 _ _ (0, 0) hc1
  have q5 := cell_of_row w1 W.heap.size 5 _ _ (0, 0) hc1
  have q6 := cell_of_row w1 W.heap.size 6 _ _ (0, 0) hc1
  have q7 := cell_of_row w1 W.heap.size 7 _ _ (0, 0) hc1
  have q8 := cell_of_row w1 W.heap.size 8 _ _ (0, 0) hc1
  have q9 := cell_of_row w1 W.heap.size 9 _ _ (0, 0) hc1
  have q10 := cell_of_row w1 W.heap.size 10 _ _ (0, 0) hc1
  have q11 := cell_of_row w1 W.heap.size 11 _ _ (0, 0) hc1
  clear hc1
  go_wp2_with fail
  refine (HWr.out _).mono ?_
  rintro _ w2 ⟨rfl, b2⟩
  have hc2 := (b2.block _ (Array.getElem?_eq_some_iff.1 H1.out.1).1).trans H1.out.1
  have H2 := Lib.hid (And.intro hc2 (H1.out.2.trans (b2.mono H1.out.2.size)))
  clear q0 q1 q2 q3 q4 q5 q6 q7 q8 q9 q10 q11 b2 H1 HWr
  have q0 := cell_of_row w2 W.heap.size 0 _ _ (0, 0) hc2
  have q1 := cell_of_row w2 W.heap.size 1 _ _ (0, 0) hc2
  have q2 := cell_of_row w2 W.heap.size 2 _ _ (0, 0) hc2
  have q3 := cell_of_row w2 W.heap.size 3 _ _ (0, 0) hc2
  have q4 := cell_of_row w2 W.heap.size 4 _ _ (0, 0) hc2
  have q5 := cell_of_row w2 W.heap.size 5 _ _ (0, 0) hc2
  have q6 := cell_of_row w2 W.heap.size 6 _ _ (0, 0) hc2
  have q7 := cell_of_row w2 W.heap.size 7 _ _ (0, 0) hc2
  have q8 := cell_of_row w2 W.heap.size 8 _ _ (0, 0) hc2
  have q9 := cell_of_row w2 W.heap.size 9 _ _ (0, 0) hc2
  have q10 := cell_of_row w2 W.heap.size 10 _ _ (0, 0) hc2
  have q11 := cell_of_row w2 W.heap.size 11 _ _ (0, 0) hc2
  clear hc2
  go_wp2_with fail
  refine (HT.out _).mono ?_
  rintro _ w3 ⟨T, v, ss, rfl, hss, hTB⟩
  obtain ⟨y, hyT, hyn, hyr, hylo, hyhi, hyok, hywt, hymo, hysz⟩ := wt_of hTB hss HNn.out.1 HNn.out.2 HR.out.1 HR.out.2
  have hsw : SW W w3 #[.slice cA cn cc, .int .i64 f1, .int .i64 (n : Int), .int .i64 f3, .int .i64 f4, .int .i64 f5, .int .i64 f6, .int .i64 f7, .int .i64 f8, .int .i64 f9, .int .i64 f10, .int .u64 f11] y (fun _ => ([], 0)) := ⟨(hTB.bel.block _ (Array.getElem?_eq_some_iff.1 H2.out.1).1).trans H2.out.1, hywt, H2.out.2.trans (hTB.bel.mono H2.out.2.size), ⟨by have := H2.out.2.size; omega, by omega, by omega⟩⟩
  have HY := Lib.hid hyok
  have HM0 := Lib.hid hymo
  have HS := Lib.hid hsw
  clear q0 q1 q2 q3 q4 q5 q6 q7 q8 q9 q10 q11 hsw hTB hss hyr hylo hyhi hyok hywt hymo hysz HT H2 HNn HR
  subst hyT
  subst hyn
  have hn8 := HY.out.n8
  obtain ⟨i0, hinf, hz0, hz1, hz2⟩ := info_partsE infoLn
  go_wp2_with fail
  go_loopw [7] (fun vi wr => ∃ (i : Nat) (M : Maps), vi = .int .i64 (i : Int) ∧ i ≤ len ∧ SW W wr #[.slice cA cn cc, .int .i64 f1, .int .i64 (y.n : Int), .int .i64 f3, .int .i64 f4, .int .i64 f5, .int .i64 f6, .int .i64 f7, .int .i64 f8, .int .i64 f9, .int .i64 f10, .int .u64 f11] y M ∧ Hid (MapsOk y M)) (fun vi _ => len - (intOf vi).toNat)
  case atStart => exact ⟨0, _, rfl, Nat.zero_le _, HS.out, HM0⟩
  case round =>
    clear HS HM0
    obtain ⟨i, M, rfl, hi, hS, HM⟩ := hrel
    have HS := Lib.hid hS
    clear hS
    by_cases hlt : i < len
    · have hi0 : (0 : Int) ≤ (i : Int) := by omega
      have hi1 : (i : Int) < (len : Int) := by omega
      go_wp2_with fail
      go_loopw [8, 9] (fun sv vi wx => ∃ (k : Nat) (L : List (Value × List En)) (As : Option Addr) (ns cps : Nat), sv = .slice As ns cps ∧ vi = .int .i64 (k : Int) ∧ k ≤ y.n ∧ SW W wx #[.slice cA cn cc, .int .i64 f1, .int .i64 (y.n : Int), .int .i64 f3, .int .i64 f4, .int .i64 f5, .int .i64 f6, .int .i64 f7, .int .i64 f8, .int .i64 f9, .int .i64 f10, .int .u64 f11] y M ∧ WR wx y.hi (.slice As ns cps) L ∧ Hid (L.length = k ∧ ∀ j (h : j < L.length), L[j].2.Perm (ens (M j).1) ∧ L[j].2.Pairwise (fun a b => ltE b a = false))) (fun _ vi _ => y.n - (intOf vi).toNat)
      case atStart => exact ⟨0, [], none, 0, 0, rfl, rfl, Nat.zero_le _, HS.out, WR.nil, Lib.hid ⟨rfl, fun j h => by cases h⟩⟩
      case round =>
        clear HS
        obtain ⟨k, L, As, ns, cps, rfl, rfl, hk, hS, hR, HL⟩ := hrel
        have HS := Lib.hid hS
        have HR := Lib.hid hR
        have c2 := cell_of_row _ W.heap.size 2 _ _ (0, 0) hS.cb
        clear hS hR
        by_cases hkn : k < y.n
        · have hkn2 : (k : Int) < (y.n : Int) := by omega
          go_wp2_with fail
          refine (tsnap HS.out.wt HY.out HM.out k hkn).mono ?_
          rintro _ w5 ⟨s, ls, rfl, hre, hpm, hpw, hwt, hO⟩
          obtain ⟨sB, sc, hsf⟩ := hre.form
          subst hsf
          have lo := HS.out.lo
          have r := HY.out.rs k hkn
          have hS5 := HS.out.call HY.out hkn hwt hO
          have hR5 := HR.out.only hO (by omega) (by omega)
          have hne : ∀ g, (Value.slice sB ls.length sc).ownBlock = some g → some g ≠ (Value.slice As ns cps).ownBlock := fun g e e2 => by
            have h1 := (hre.lt g e).1
            have h2 := HR.out.ownLt g e2.symm
            omega
          have hre2 : RowE y.hi w5 (Value.slice sB ls.length sc) ls := hre.mono lo.2.2
          have bl := (Below.refl _ w5).alloc (Nat.le_refl _) (.cells #[(Value.slice sB ls.length sc)] TLn)
          have HS6 := Lib.hid (hS5.below HY.out bl)
          have HR6 := Lib.hid (hR5.below bl)
          have HE6 := Lib.hid (And.intro (hre2.below bl) (And.intro hne (And.intro hpm hpw)))
          have HC := Lib.hid (cell_one_new w5 (Value.slice sB ls.length sc) TLn)
          have h1s : (Value.slice sB ls.length sc).oneCell' = true := rfl
          have H1 := Lib.hid (one_one h1s)
          have HLn : Hid (L.length ≤ 8) := by
            have h1 := HL.out.1
            show L.length ≤ 8
            omega
          have HLe := Lib.hid HLn.out
          have hsz6 : Hid (y.hi ≤ (w5.alloc (.cells #[(Value.slice sB ls.length sc)] TLn)).heap.size) := HS6.out.lo.2.2
          clear hre hpm hpw hwt hO lo r hS5 hR5 hne hre2 bl h1s c2 HS HR
          go_wp2_with (at_builtin; refine wpList_append_lies _ rfl _ _ 34 rfl y.hi TLn i0 (.slice none 0 0) 1 24 Tryz.underlying34 hinf hz0 hz1 hz2 rfl (by decide) _ _ _ rfl HR6.out.row ⟨w5.heap.size, 0, none⟩ 1 1 [(Value.slice sB ls.length sc)] rfl rfl HC.out H1.out (by decide) (by have := HLn.out; unfold maxLen; omega) (by have := HLn.out; omega) hsz6.out _ rfl ?_)
          intro g1 cap1 w6 hown hg hat _
          have hW6 := HR6.out.push HE6.out.1 HE6.out.2.1 hown hg (hat.imp id fun e => e.trans (by simp))
          have hS6 : SW W w6 #[.slice cA cn cc, .int .i64 f1, .int .i64 (y.n : Int), .int .i64 f3, .int .i64 f4, .int .i64 f5, .int .i64 f6, .int .i64 f7, .int .i64 f8, .int .i64 f9, .int .i64 f10, .int .u64 f11] y M := by
            have lo := HS6.out.lo
            have hfar : ∀ k, k < y.hi → some k ≠ (Value.slice As ns cps).ownBlock := fun k hk e => by
              have := own_ge HR6.out.row k e.symm
              omega
            refine HS6.out.far HY.out (fun k hk => hg.block k (Nat.lt_of_lt_of_le hk lo.2.2) (hfar k hk)) ?_ hg.size
            exact HS6.out.bel.grown hg HS6.out.bel.size fun k hk => by
              have := own_ge HR6.out.row k hk
              omega
          have HS7 := Lib.hid (And.intro hS6 hW6)
          clear hown hg hat hW6 hS6 HS6 HR6 HC H1
          go_wp2
          go_roundw
          case rel =>
            refine ⟨k + 1, _, _, _, _, rfl, by go_num, hkn, HS7.out.1, HS7.out.2, Lib.hid ⟨by rw [List.length_append, HL.out.1]; rfl, fun j h => ?_⟩⟩
            by_cases hj : j < L.length
            · rw [List.getElem_append_left hj]
              exact HL.out.2 j hj
            · have hjk : j = L.length := by
                rw [List.length_append, List.length_singleton] at h
                omega
              subst hjk
              rw [List.getElem_append_right (Nat.le_refl _)]
              simp only [Nat.sub_self, List.getElem_cons_zero]
              have := HE6.out.2.2
              rw [← HL.out.1] at this
              exact this
          case measure => simp [intOf]; omega
        · obtain rfl : k = y.n := by omega
          obtain ⟨b9, off, hA, hbl, hcs⟩ := HQ.out.cells (by omega)
          have hat := hcs i (by have := HQ.out.many; omega)
          have hok := HQ.out.keys _ (List.getElem_mem (h := (by have := HQ.out.many; omega : i < qs.length)))
          generalize qs[i]'(by have := HQ.out.many; omega) = q at hat hok
          subst hA
          clear hcs
          obtain ⟨kd, who, ⟨kc, kf, ks⟩, sd, ac, ep, nn⟩ := q
          have HSA : Hid (∀ V, Below W.heap.size W V → OpAt V b9 off i (Op9.mk kd who ⟨kc, kf, ks⟩ sd ac ep nn)) := fun V hb => hat.keep (hb.block b9 hbl)
          have hD := tdo (Op9.mk kd who ⟨kc, kf, ks⟩ sd ac ep nn) hok HS.out.wt HY.out
          have hmo := tmaps_ok (Op9.mk kd who ⟨kc, kf, ks⟩ sd ac ep nn) HM.out HY.out
          obtain ⟨j, hj⟩ : ∃ j, j = own y.n (K3.mk kc kf ks) := ⟨_, rfl⟩
          have hjn : j < y.n := by rw [hj]; exact own_lt HY.out.n0 (K3.mk kc kf ks)
          have hoff : ∀ x, x ≠ j → tMaps (Op9.mk kd who ⟨kc, kf, ks⟩ sd ac ep nn) y.n y.room M x = M x := fun x hx => upd_off (by rw [← show j = own y.n (K3.mk kc kf ks) from hj]; exact hx)
          have hkey : Fnv.keyH kc kf ks % (y.n : Int) = (j : Int) := by rw [hj]; exact own_eq HY.out.n0 (K3.mk kc kf ks)
          have hsh := fun V => hkey ▸ Fnv.ref_shard_any kc kf ks (y.n : Int) hok.1 hok.2 (by have := HY.out.n0; omega) (by omega) V
          have HSh := Lib.hid hsh
          rw [← show j = own y.n (K3.mk kc kf ks) from hj] at hD
          generalize tMaps (Op9.mk kd who ⟨kc, kf, ks⟩ sd ac ep nn) y.n y.room M = M1 at hD hmo hoff
          generalize tAns (Op9.mk kd who ⟨kc, kf, ks⟩ sd ac ep nn) y.n y.room M = ra at hD
          unfold Op9.val opV retV at hD
          dsimp only at hD
          have HD := Lib.hid hD
          have HO := Lib.hid (And.intro hmo (And.intro hoff hjn))
          have hsa := HSA.out _ HS.out.bel
          have q0 : wr.cell? ⟨b9, off + i * 9, none⟩ = some (.int .i64 kd) := hsa 0 (by decide)
          have q1 : wr.cell? ⟨b9, off + i * 9 + 1, none⟩ = some (.int .i64 who) := hsa 1 (by decide)
          have q2 : wr.cell? ⟨b9, off + i * 9 + 2, none⟩ = some (.int .i64 kc) := hsa 2 (by decide)
          have q3 : wr.cell? ⟨b9, off + i * 9 + 3, none⟩ = some (.int .i64 kf) := hsa 3 (by decide)
          have q4 : wr.cell? ⟨b9, off + i * 9 + 4, none⟩ = some (.int .u64 ks) := hsa 4 (by decide)
          have q5 : wr.cell? ⟨b9, off + i * 9 + 5, none⟩ = some (.int .i64 sd) := hsa 5 (by decide)
          have q6 : wr.cell? ⟨b9, off + i * 9 + 6, none⟩ = some (.int .i64 ac) := hsa 6 (by decide)
          have q7 : wr.cell? ⟨b9, off + i * 9 + 7, none⟩ = some (.int .u64 ep) := hsa 7 (by decide)
          have q8 : wr.cell? ⟨b9, off + i * 9 + 8, none⟩ = some (.int .u64 nn) := hsa 8 (by decide)
          clear hD hmo hoff hkey hsh hok hat hj hsa
          go_upto_region 14 with fail
          go_wp2_with fail
          refine HD.out.mono ?_
          rintro _ w6 ⟨rfl, hwt, hO⟩
          have lo := HS.out.lo
          have r := HY.out.rs j HO.out.2.2
          have HS6 := Lib.hid (HS.out.call HY.out HO.out.2.2 hwt hO)
          have HR6 := Lib.hid (HR.out.only hO (by omega) (by omega))
          clear hwt hO lo r HD HS HR c2 q0 q1 q2 q3 q4 q5 q6 q7 q8
          go_upto_region 15 with fail
          refine wp_region_held_drew (S := (fun V => OpAt V b9 off i (Op9.mk kd who ⟨kc, kf, ks⟩ sd ac ep nn) ∧ V.heap[W.heap.size]? = some (.cells #[.slice cA cn cc, .int .i64 f1, .int .i64 (y.n : Int), .int .i64 f3, .int .i64 f4, .int .i64 f5, .int .i64 f6, .int .i64 f7, .int .i64 f8, .int .i64 f9, .int .i64 f10, .int .u64 f11] TCf (0, 0)))) (by kernel_rfl) ⟨HSA.out _ HS6.out.drew.bel, HS6.out.cb⟩ (fun hHeld => ?_)
          refine wpAnyH_take (i := 0) (oi := _) (v := ?_) rfl (by kernel_rfl) (by kernel_rfl) (by kernel_rfl) (fun _ _ _ h => h) (Or.inl ⟨by rfl, ?_⟩) (by assumption) ?_
          rotate_left
          · (intro V hSw; clear hSw; go_simp; try with_reducible rfl)
          try simp only [Act.put, List.getElem_toArray, List.getElem_cons_zero, List.setIfInBounds_toArray, List.set_cons_zero, List.set_cons_succ]
          refine wpAnyH_take (i := 1) (oi := _) (v := ?_) rfl (by kernel_rfl) (by kernel_rfl) (by kernel_rfl) (fun _ _ _ h => h) (Or.inl ⟨by rfl, ?_⟩) (by assumption) ?_
          rotate_left
          · (intro V hSw; clear hSw; go_simp; try with_reducible rfl)
          try simp only [Act.put, List.getElem_toArray, List.getElem_cons_succ, List.getElem_cons_zero, List.setIfInBounds_toArray, List.set_cons_zero, List.set_cons_succ]
          refine wpAnyH_take (i := 2) (oi := _) (v := ?_) rfl (by kernel_rfl) (by kernel_rfl) (by kernel_rfl) (fun _ _ _ h => h) (Or.inl ⟨by rfl, ?_⟩) (by assumption) ?_
          rotate_left
          · (intro V hSw; clear hSw; go_simp; try with_reducible rfl)
          try simp only [Act.put, List.getElem_toArray, List.getElem_cons_succ, List.getElem_cons_zero, List.setIfInBounds_toArray, List.set_cons_zero, List.set_cons_succ]
          refine wpAnyH_take (i := 3) (oi := _) (v := ?_) rfl (by kernel_rfl) (by kernel_rfl) (by kernel_rfl) (fun _ _ _ h => h) (Or.inl ⟨by rfl, ?_⟩) (by assumption) ?_
          rotate_left
          · (intro V hSw; clear hSw; go_simp; try with_reducible rfl)
          try simp only [Act.put, List.getElem_toArray, List.getElem_cons_succ, List.getElem_cons_zero, List.setIfInBounds_toArray, List.set_cons_zero, List.set_cons_succ]
          refine wpAnyH_take (i := 4) (oi := _) (v := ?_) rfl (by kernel_rfl) (by kernel_rfl) (by kernel_rfl) (fun _ _ _ h => h) (Or.inl ⟨by rfl, ?_⟩) (by assumption) ?_
          rotate_left
          · (intro V hSw; have q0 : V.cell? ⟨b9, off + i * 9, none⟩ = some (.int .i64 kd) := hSw.1 0 (by decide); have q1 : V.cell? ⟨b9, off + i * 9 + 1, none⟩ = some (.int .i64 who) := hSw.1 1 (by decide); have q2 : V.cell? ⟨b9, off + i * 9 + 2, none⟩ = some (.int .i64 kc) := hSw.1 2 (by decide); have q3 : V.cell? ⟨b9, off + i * 9 + 3, none⟩ = some (.int .i64 kf) := hSw.1 3 (by decide); have q4 : V.cell? ⟨b9, off + i * 9 + 4, none⟩ = some (.int .u64 ks) := hSw.1 4 (by decide); have q5 : V.cell? ⟨b9, off + i * 9 + 5, none⟩ = some (.int .i64 sd) := hSw.1 5 (by decide); have q6 : V.cell? ⟨b9, off + i * 9 + 6, none⟩ = some (.int .i64 ac) := hSw.1 6 (by decide); have q7 : V.cell? ⟨b9, off + i * 9 + 7, none⟩ = some (.int .u64 ep) := hSw.1 7 (by decide); have q8 : V.cell? ⟨b9, off + i * 9 + 8, none⟩ = some (.int .u64 nn) := hSw.1 8 (by decide); have qc := cell_of_row V W.heap.size 2 _ _ (0, 0) hSw.2; clear hSw; go_simp; try with_reducible rfl)
          try simp only [Act.put, List.getElem_toArray, List.getElem_cons_succ, List.getElem_cons_zero, List.setIfInBounds_toArray, List.set_cons_zero, List.set_cons_succ]
          refine wpAnyH_take (i := 5) (oi := _) (v := ?_) rfl (by kernel_rfl) (by kernel_rfl) (by kernel_rfl) (fun _ _ _ h => h) (Or.inl ⟨by rfl, ?_⟩) (by assumption) ?_
          rotate_left
          · (intro V hSw; clear hSw; go_simp; try with_reducible rfl)
          try simp only [Act.put, List.getElem_toArray, List.getElem_cons_succ, List.getElem_cons_zero, List.setIfInBounds_toArray, List.set_cons_zero, List.set_cons_succ]
          refine wpAnyH_take (i := 6) (oi := _) (v := ?_) rfl (by kernel_rfl) (by kernel_rfl) (by kernel_rfl) (fun _ _ _ h => h) (Or.inl ⟨by rfl, ?_⟩) (by assumption) ?_
          rotate_left
          · (intro V hSw; have q0 : V.cell? ⟨b9, off + i * 9, none⟩ = some (.int .i64 kd) := hSw.1 0 (by decide); have q1 : V.cell? ⟨b9, off + i * 9 + 1, none⟩ = some (.int .i64 who) := hSw.1 1 (by decide); have q2 : V.cell? ⟨b9, off + i * 9 + 2, none⟩ = some (.int .i64 kc) := hSw.1 2 (by decide); have q3 : V.cell? ⟨b9, off + i * 9 + 3, none⟩ = some (.int .i64 kf) := hSw.1 3 (by decide); have q4 : V.cell? ⟨b9, off + i * 9 + 4, none⟩ = some (.int .u64 ks) := hSw.1 4 (by decide); have q5 : V.cell? ⟨b9, off + i * 9 + 5, none⟩ = some (.int .i64 sd) := hSw.1 5 (by decide); have q6 : V.cell? ⟨b9, off + i * 9 + 6, none⟩ = some (.int .i64 ac) := hSw.1 6 (by decide); have q7 : V.cell? ⟨b9, off + i * 9 + 7, none⟩ = some (.int .u64 ep) := hSw.1 7 (by decide); have q8 : V.cell? ⟨b9, off + i * 9 + 8, none⟩ = some (.int .u64 nn) := hSw.1 8 (by decide); have qc := cell_of_row V W.heap.size 2 _ _ (0, 0) hSw.2; clear hSw; go_simp; try with_reducible rfl)
          try simp only [Act.put, List.getElem_toArray, List.getElem_cons_succ, List.getElem_cons_zero, List.setIfInBounds_toArray, List.set_cons_zero, List.set_cons_succ]
          refine wpAnyH_ready (rs := [7]) (by kernel_rfl) (by simp) ?_
          refine AllReadyH.cons rfl (fun K hK => ?_) AllReadyH.nil
          simp only [List.getElem_toArray, List.getElem_cons_succ, List.getElem_cons_zero]
          rw [if_pos (by rfl)]
          go_simp
          refine (HSh.out _).mono ?_
          rintro _ w7 ⟨rfl, b7⟩
          have HS7 := Lib.hid (HS6.out.drew.below HY.out b7)
          have HR7 := Lib.hid (HR6.out.drew.below b7)
          clear b7 HS6 HR6
          go_wp2_with fail
          refine hK.out _ _ ⟨HSA.out _ HS7.out.bel, HS7.out.cb⟩ (fun hHeld => ?_)
          clear hK K
          try simp only [Act.put, List.getElem_toArray, List.getElem_cons_succ, List.getElem_cons_zero, List.setIfInBounds_toArray, List.set_cons_zero, List.set_cons_succ]
          refine wpAnyH_take (i := 8) (oi := _) (v := ?_) rfl (by kernel_rfl) (by kernel_rfl) (by kernel_rfl) (fun _ _ _ h => h) (Or.inl ⟨by rfl, ?_⟩) (by assumption) ?_
          rotate_left
          · (intro V hSw; clear hSw; go_simp; try with_reducible rfl)
          try simp only [Act.put, List.getElem_toArray, List.getElem_cons_succ, List.getElem_cons_zero, List.setIfInBounds_toArray, List.set_cons_zero, List.set_cons_succ]
          refine wpAnyH_done (by kernel_rfl) ?_ _
          clear hHeld HSh
          go_wp2_with fail
          go_loopw [11] (fun vi wz => ∃ (k : Nat), vi = .int .i64 (k : Int) ∧ k ≤ y.n ∧ SW W wz #[.slice cA cn cc, .int .i64 f1, .int .i64 (y.n : Int), .int .i64 f3, .int .i64 f4, .int .i64 f5, .int .i64 f6, .int .i64 f7, .int .i64 f8, .int .i64 f9, .int .i64 f10, .int .u64 f11] y M1 ∧ WR wz y.hi (.slice As ns cps) L) (fun vi _ => y.n - (intOf vi).toNat)
          case atStart => exact ⟨0, rfl, Nat.zero_le _, HS7.out, HR7.out⟩
          case round =>
            clear HS7 HR7
            obtain ⟨k, rfl, hk, hS, hR⟩ := hrel
            have HS := Lib.hid hS
            have HR := Lib.hid hR
            have c2 := cell_of_row _ W.heap.size 2 _ _ (0, 0) hS.cb
            clear hS hR
            by_cases hkn : k < y.n
            · have hkn2 : (k : Int) < (y.n : Int) := by omega
              have hk0 : (0 : Int) ≤ (k : Int) := by omega
              obtain ⟨g, cap9, hsv, hgb, hgl, hgc, hre⟩ := HR.out.at k (by have := HL.out.1; omega)
              have hLn := HL.out.1
              rw [hLn] at hsv
              injection hsv with hv1 hv2 hv3
              subst hv1 hv2 hv3
              have hLk := HL.out.2 k (by omega)
              obtain ⟨s, ls, hs1, hs2⟩ : ∃ s ls, s = (L[k]'(by omega)).1 ∧ ls = (L[k]'(by omega)).2 := ⟨_, _, rfl, rfl⟩
              rw [← hs1] at hgc hre
              rw [← hs2] at hre hLk
              clear hs1 hs2 hLn
              have HG := Lib.hid (And.intro (And.intro hgb hgl) (And.intro hgc (And.intro hre hLk)))
              clear hgb hgl hgc hre hLk
              by_cases hkj : k = j
              · subst hkj
                go_upto_region 19 with fail
                refine wp_region_held_drew (S := (fun V => V.cell? ⟨g, k, none⟩ = some s)) (by kernel_rfl) HG.out.2.1 (fun hHeld => ?_)
                refine wpAnyH_take (i := 0) (oi := _) (v := ?_) rfl (by kernel_rfl) (by kernel_rfl) (by kernel_rfl) (fun _ _ _ h => h) (Or.inl ⟨by rfl, ?_⟩) (by assumption) ?_
                rotate_left
                · (intro V hSw; clear hSw; go_simp; try with_reducible rfl)
                try simp only [Act.put, List.getElem_toArray, List.getElem_cons_zero, List.setIfInBounds_toArray, List.set_cons_zero, List.set_cons_succ]
                refine wpAnyH_take (i := 1) (oi := _) (v := ?_) rfl (by kernel_rfl) (by kernel_rfl) (by kernel_rfl) (fun _ _ _ h => h) (Or.inl ⟨by rfl, ?_⟩) (by assumption) ?_
                rotate_left
                · (intro V hSw; clear hSw; go_simp; try with_reducible rfl)
                try simp only [Act.put, List.getElem_toArray, List.getElem_cons_succ, List.getElem_cons_zero, List.setIfInBounds_toArray, List.set_cons_zero, List.set_cons_succ]
                refine wpAnyH_take (i := 2) (oi := _) (v := ?_) rfl (by kernel_rfl) (by kernel_rfl) (by kernel_rfl) (fun _ _ _ h => h) (Or.inl ⟨by rfl, ?_⟩) (by assumption) ?_
                rotate_left
                · (intro V hSw; clear hSw; go_simp; try with_reducible rfl)
                try simp only [Act.put, List.getElem_toArray, List.getElem_cons_succ, List.getElem_cons_zero, List.setIfInBounds_toArray, List.set_cons_zero, List.set_cons_succ]
                refine wpAnyH_take (i := 3) (oi := _) (v := ?_) rfl (by kernel_rfl) (by kernel_rfl) (by kernel_rfl) (fun _ _ _ h => h) (Or.inl ⟨by rfl, ?_⟩) (by assumption) ?_
                rotate_left
                · (intro V hSw; clear hSw; go_simp; try with_reducible rfl)
                try simp only [Act.put, List.getElem_toArray, List.getElem_cons_succ, List.getElem_cons_zero, List.setIfInBounds_toArray, List.set_cons_zero, List.set_cons_succ]
                refine wpAnyH_take (i := 4) (oi := _) (v := undef) rfl (by kernel_rfl) (by kernel_rfl) (by kernel_rfl) (fun _ _ _ h => h) (Or.inr ⟨by rfl, rfl⟩) (by assumption) ?_
                try simp only [Act.put, List.getElem_toArray, List.getElem_cons_succ, List.getElem_cons_zero, List.setIfInBounds_toArray, List.set_cons_zero, List.set_cons_succ]
                refine wpAnyH_take (i := 5) (oi := _) (v := undef) rfl (by kernel_rfl) (by kernel_rfl) (by kernel_rfl) (fun _ _ _ h => h) (Or.inr ⟨by rfl, rfl⟩) (by assumption) ?_
                try simp only [Act.put, List.getElem_toArray, List.getElem_cons_succ, List.getElem_cons_zero, List.setIfInBounds_toArray, List.set_cons_zero, List.set_cons_succ]
                refine wpAnyH_take (i := 6) (oi := _) (v := undef) rfl (by kernel_rfl) (by kernel_rfl) (by kernel_rfl) (fun _ _ _ h => h) (Or.inr ⟨by rfl, rfl⟩) (by assumption) ?_
                try simp only [Act.put, List.getElem_toArray, List.getElem_cons_succ, List.getElem_cons_zero, List.setIfInBounds_toArray, List.set_cons_zero, List.set_cons_succ]
                refine wpAnyH_take (i := 7) (oi := _) (v := undef) rfl (by kernel_rfl) (by kernel_rfl) (by kernel_rfl) (fun _ _ _ h => h) (Or.inr ⟨by rfl, rfl⟩) (by assumption) ?_
                try simp only [Act.put, List.getElem_toArray, List.getElem_cons_succ, List.getElem_cons_zero, List.setIfInBounds_toArray, List.set_cons_zero, List.set_cons_succ]
                refine wpAnyH_take (i := 8) (oi := _) (v := undef) rfl (by kernel_rfl) (by kernel_rfl) (by kernel_rfl) (fun _ _ _ h => h) (Or.inr ⟨by rfl, rfl⟩) (by assumption) ?_
                try simp only [Act.put, List.getElem_toArray, List.getElem_cons_succ, List.getElem_cons_zero, List.setIfInBounds_toArray, List.set_cons_zero, List.set_cons_succ]
                refine wpAnyH_take (i := 9) (oi := _) (v := undef) rfl (by kernel_rfl) (by kernel_rfl) (by kernel_rfl) (fun _ _ _ h => h) (Or.inr ⟨by rfl, rfl⟩) (by assumption) ?_
                try simp only [Act.put, List.getElem_toArray, List.getElem_cons_succ, List.getElem_cons_zero, List.setIfInBounds_toArray, List.set_cons_zero, List.set_cons_succ]
                refine wpAnyH_take (i := 10) (oi := _) (v := undef) rfl (by kernel_rfl) (by kernel_rfl) (by kernel_rfl) (fun _ _ _ h => h) (Or.inr ⟨by rfl, rfl⟩) (by assumption) ?_
                try simp only [Act.put, List.getElem_toArray, List.getElem_cons_succ, List.getElem_cons_zero, List.setIfInBounds_toArray, List.set_cons_zero, List.set_cons_succ]
                refine wpAnyH_take (i := 11) (oi := _) (v := undef) rfl (by kernel_rfl) (by kernel_rfl) (by kernel_rfl) (fun _ _ _ h => h) (Or.inr ⟨by rfl, rfl⟩) (by assumption) ?_
                try simp only [Act.put, List.getElem_toArray, List.getElem_cons_succ, List.getElem_cons_zero, List.setIfInBounds_toArray, List.set_cons_zero, List.set_cons_succ]
                refine wpAnyH_take (i := 12) (oi := _) (v := undef) rfl (by kernel_rfl) (by kernel_rfl) (by kernel_rfl) (fun _ _ _ h => h) (Or.inr ⟨by rfl, rfl⟩) (by assumption) ?_
                try simp only [Act.put, List.getElem_toArray, List.getElem_cons_succ, List.getElem_cons_zero, List.setIfInBounds_toArray, List.set_cons_zero, List.set_cons_succ]
                refine wpAnyH_take (i := 13) (oi := _) (v := ?_) rfl (by kernel_rfl) (by kernel_rfl) (by kernel_rfl) (fun _ _ _ h => h) (Or.inl ⟨by rfl, ?_⟩) (by assumption) ?_
                rotate_left
                · (intro V hSw; clear hSw; go_simp; try with_reducible rfl)
                try simp only [Act.put, List.getElem_toArray, List.getElem_cons_succ, List.getElem_cons_zero, List.setIfInBounds_toArray, List.set_cons_zero, List.set_cons_succ]
                refine wpAnyH_done (by kernel_rfl) ?_ _
                have HSx := Lib.hid HS.out.drew
                have HRx := Lib.hid HR.out.drew
                clear HS HR c2 hHeld HG
                go_wp2
                go_roundw
                case rel => exact ⟨k + 1, by go_num, hkn, HSx.out, HRx.out⟩
                case measure => simp [intOf]; omega
              · have HKJ := Lib.hid hkj
                have hkj2 : ¬ (k : Int) = (j : Int) := by omega
                have hkj3 : ((k : Int) == (j : Int)) = false := by simp; omega
                have hkj4 : decide ((k : Int) = (j : Int)) = false := by simp; omega
                have hkj5 : ((k : Int) != (j : Int)) = true := by simp; omega
                clear hkj
                go_upto_region 19 with fail
                refine wp_region_held_drew (S := (fun V => V.cell? ⟨g, k, none⟩ = some s)) (by kernel_rfl) HG.out.2.1 (fun hHeld => ?_)
                have HSx := Lib.hid HS.out.drew
                have HRx := Lib.hid HR.out.drew
                have HGx : Hid (RowE y.hi wr.drew s ls) := HG.out.2.2.1.keep (Nat.le_refl _) fun _ _ _ => rfl
                generalize wr.drew = v0 at HSx HRx HGx hHeld ⊢
                clear HS HR c2
                refine wpAnyH_take (i := 0) (oi := _) (v := ?_) rfl (by kernel_rfl) (by kernel_rfl) (by kernel_rfl) (fun _ _ _ h => h) (Or.inl ⟨by rfl, ?_⟩) (by assumption) ?_
                rotate_left
                · (intro V hSw; clear hSw; go_simp; try with_reducible rfl)
                try simp only [Act.put, List.getElem_toArray, List.getElem_cons_zero, List.setIfInBounds_toArray, List.set_cons_zero, List.set_cons_succ]
                refine wpAnyH_take (i := 1) (oi := _) (v := ?_) rfl (by kernel_rfl) (by kernel_rfl) (by kernel_rfl) (fun _ _ _ h => h) (Or.inl ⟨by rfl, ?_⟩) (by assumption) ?_
                rotate_left
                · (intro V hSw; clear hSw; go_simp; try with_reducible rfl)
                try simp only [Act.put, List.getElem_toArray, List.getElem_cons_succ, List.getElem_cons_zero, List.setIfInBounds_toArray, List.set_cons_zero, List.set_cons_succ]
                refine wpAnyH_take (i := 2) (oi := _) (v := ?_) rfl (by kernel_rfl) (by kernel_rfl) (by kernel_rfl) (fun _ _ _ h => h) (Or.inl ⟨by rfl, ?_⟩) (by assumption) ?_
                rotate_left
                · (intro V hSw; clear hSw; go_simp; try with_reducible rfl)
                try simp only [Act.put, List.getElem_toArray, List.getElem_cons_succ, List.getElem_cons_zero, List.setIfInBounds_toArray, List.set_cons_zero, List.set_cons_succ]
                refine wpAnyH_take (i := 3) (oi := _) (v := ?_) rfl (by kernel_rfl) (by kernel_rfl) (by kernel_rfl) (fun _ _ _ h => h) (Or.inl ⟨by rfl, ?_⟩) (by assumption) ?_
                rotate_left
                · (intro V hSw; clear hSw; go_simp; try with_reducible rfl)
                try simp only [Act.put, List.getElem_toArray, List.getElem_cons_succ, List.getElem_cons_zero, List.setIfInBounds_toArray, List.set_cons_zero, List.set_cons_succ]
                refine wpAnyH_take (i := 4) (oi := _) (v := ?_) rfl (by kernel_rfl) (by kernel_rfl) (by kernel_rfl) (fun _ _ _ h => h) (Or.inl ⟨by rfl, ?_⟩) (by assumption) ?_
                rotate_left
                · (intro V hSw; clear hSw; go_simp; try with_reducible rfl)
                try simp only [Act.put, List.getElem_toArray, List.getElem_cons_succ, List.getElem_cons_zero, List.setIfInBounds_toArray, List.set_cons_zero, List.set_cons_succ]
                refine wpAnyH_take (i := 5) (oi := _) (v := ?_) rfl (by kernel_rfl) (by kernel_rfl) (by kernel_rfl) (fun _ _ _ h => h) (Or.inl ⟨by rfl, ?_⟩) (by assumption) ?_
                rotate_left
                · (intro V hSw; clear hSw; go_simp; try with_reducible rfl)
                try simp only [Act.put, List.getElem_toArray, List.getElem_cons_succ, List.getElem_cons_zero, List.setIfInBounds_toArray, List.set_cons_zero, List.set_cons_succ]
                refine wpAnyH_take (i := 7) (oi := _) (v := ?_) rfl (by kernel_rfl) (by kernel_rfl) (by kernel_rfl) (fun _ _ _ h => h) (Or.inl ⟨by rfl, ?_⟩) (by assumption) ?_
                rotate_left
                · (intro V hSw; clear hSw; go_simp; try with_reducible rfl)
                try simp only [Act.put, List.getElem_toArray, List.getElem_cons_succ, List.getElem_cons_zero, List.setIfInBounds_toArray, List.set_cons_zero, List.set_cons_succ]
                refine wpAnyH_take (i := 8) (oi := _) (v := ?_) rfl (by kernel_rfl) (by kernel_rfl) (by kernel_rfl) (fun _ _ _ h => h) (Or.inl ⟨by rfl, ?_⟩) (by assumption) ?_
                rotate_left
                · (intro V hSw; clear hSw; go_simp; try with_reducible rfl)
                try simp only [Act.put, List.getElem_toArray, List.getElem_cons_succ, List.getElem_cons_zero, List.setIfInBounds_toArray, List.set_cons_zero, List.set_cons_succ]
                refine wpAnyH_take (i := 9) (oi := _) (v := ?_) rfl (by kernel_rfl) (by kernel_rfl) (by kernel_rfl) (fun _ _ _ h => h) (Or.inl ⟨by rfl, ?_⟩) (by assumption) ?_
                rotate_left
                · (intro V hSw; clear hSw; go_simp; try with_reducible rfl)
                try simp only [Act.put, List.getElem_toArray, List.getElem_cons_succ, List.getElem_cons_zero, List.setIfInBounds_toArray, List.set_cons_zero, List.set_cons_succ]
                refine wpAnyH_take (i := 10) (oi := _) (v := ?_) rfl (by kernel_rfl) (by kernel_rfl) (by kernel_rfl) (fun _ _ _ h => h) (Or.inl ⟨by rfl, ?_⟩) (by assumption) ?_
                rotate_left
                · (intro V hSw; have qg := hSw; clear hSw; go_simp; try with_reducible rfl)
                try simp only [Act.put, List.getElem_toArray, List.getElem_cons_succ, List.getElem_cons_zero, List.setIfInBounds_toArray, List.set_cons_zero, List.set_cons_succ]
                refine wpAnyH_ready (rs := [6]) (by kernel_rfl) (by simp) ?_
                refine AllReadyH.cons rfl (fun K hK => ?_) AllReadyH.nil
                simp only [List.getElem_toArray, List.getElem_cons_succ, List.getElem_cons_zero]
                rw [if_pos (by rfl)]
                go_simp
                refine (tsnap HSx.out.wt HY.out HO.out.1 k hkn).mono ?_
                rintro _ w8 ⟨s2, ls2, rfl, hre, hpm, hpw, hwt, hO2⟩
                have lo := HSx.out.lo
                have r := HY.out.rs k hkn
                have hS8 := HSx.out.call HY.out hkn hwt hO2
                have hR8 := HRx.out.only hO2 (by omega) (by omega)
                have hG8 := HGx.out.only hO2 (by omega) (by omega)
                have hH8 : w8.cell? ⟨g, k, none⟩ = some s := (World.cell?_of_block (a := ⟨g, k, none⟩) (hO2.block g (World.block_lt_of_cell? _ _ hHeld) (by have := HG.out.1; omega) (by have := HG.out.1; omega))).trans hHeld
                have hls : ls2 = ls := shard_sorted (HM.out.ok k hkn) (by rw [← HO.out.2.1 k HKJ.out]; exact hpm) HG.out.2.2.2.1 hpw HG.out.2.2.2.2
                have hlen : ls.length ≤ 1000 := by
                  have h1 := HG.out.2.2.2.1.length_eq
                  have h2 := HM.out.len k hkn
                  have h3 := HY.out.r64
                  simp only [ens, List.length_map] at h1
                  omega
                rw [hls] at hre
                have HS8 := Lib.hid (And.intro hS8 (And.intro hR8 (same_en _ _ s2 s ls w8 hlen hre hG8)))
                clear hre hpm hpw hwt hO2 lo r hS8 hR8 hG8 hls hlen HSx HRx HGx hHeld
                go_wp2_with fail
                refine hK.out _ _ hH8 (fun hHeld => ?_)
                clear hK K hH8
                try simp only [Act.put, List.getElem_toArray, List.getElem_cons_succ, List.getElem_cons_zero, List.setIfInBounds_toArray, List.set_cons_zero, List.set_cons_succ]
                refine wpAnyH_ready (rs := [11]) (by kernel_rfl) (by simp) ?_
                refine AllReadyH.cons rfl (fun K hK => ?_) AllReadyH.nil
                simp only [List.getElem_toArray, List.getElem_cons_succ, List.getElem_cons_zero]
                rw [if_pos (by rfl)]
                go_simp
                refine HS8.out.2.2.mono ?_
                rintro _ w9 ⟨rfl, b9⟩
                have hH9 := (b9.cell (World.block_lt_of_cell? _ _ hHeld)).trans hHeld
                have HSy := Lib.hid (HS8.out.1.below HY.out b9)
                have HRy := Lib.hid (HS8.out.2.1.below b9)
                clear b9 HS8 hHeld
                go_wp2_with fail
                refine hK.out _ _ hH9 (fun hHeld => ?_)
                clear hK K hH9
                try simp only [Act.put, List.getElem_toArray, List.getElem_cons_succ, List.getElem_cons_zero, List.setIfInBounds_toArray, List.set_cons_zero, List.set_cons_succ]
                refine wpAnyH_take (i := 12) (oi := _) (v := ?_) rfl (by kernel_rfl) (by kernel_rfl) (by kernel_rfl) (fun _ _ _ h => h) (Or.inl ⟨by rfl, ?_⟩) (by assumption) ?_
                rotate_left
                · (intro V hSw; clear hSw; go_simp; try with_reducible rfl)
                try simp only [Act.put, List.getElem_toArray, List.getElem_cons_succ, List.getElem_cons_zero, List.setIfInBounds_toArray, List.set_cons_zero, List.set_cons_succ]
                refine wpAnyH_take (i := 13) (oi := _) (v := ?_) rfl (by kernel_rfl) (by kernel_rfl) (by kernel_rfl) (fun _ _ _ h => h) (Or.inl ⟨by rfl, ?_⟩) (by assumption) ?_
                rotate_left
                · (intro V hSw; clear hSw; go_simp; try with_reducible rfl)
                try simp only [Act.put, List.getElem_toArray, List.getElem_cons_succ, List.getElem_cons_zero, List.setIfInBounds_toArray, List.set_cons_zero, List.set_cons_succ]
                refine wpAnyH_done (by kernel_rfl) ?_ _
                clear hHeld HG
                go_wp2
                go_roundw
                case rel => exact ⟨k + 1, by go_num, hkn, HSy.out, HRy.out⟩
                case measure => simp [intOf]; omega
            · obtain rfl : k = y.n := by omega
              have HSe := Lib.hid HS.out
              clear HR HS
              go_wp2
              go_roundw
              case rel => exact ⟨i + 1, M1, by go_num, by omega, HSe.out, Lib.hid HO.out.1⟩
              case measure => simp [intOf]; omega
    · obtain rfl : i = len := by omega
      go_wp2_with fail
      refine (awake_any _).mono ?_
      rintro _ w9 ⟨rfl, b9⟩
      have hbe := HS.out.bel.trans (b9.mono HS.out.bel.size)
      clear b9 HS
      go_wp2
      go_ret
      exact ⟨rfl, hbe⟩
end Go.Proofs.YtlpnecmcncekcaaGreat.Mk
