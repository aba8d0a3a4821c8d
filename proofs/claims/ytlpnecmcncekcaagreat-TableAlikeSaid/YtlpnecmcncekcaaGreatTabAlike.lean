import Derived.Test.YtlpnecmcncekcaaGreatAlikeMath
import Derived.Test.YtlpnecmcncekcaaGreatOpsIn
import Derived.Test.YtlpnecmcncekcaaGreatTableAwake
import Derived.Deep.WholeRow
import Derived.Deep.CutBlock
import Derived.Laws.CopyRow
/- 'TableAlike': how many shards there are does not show. -/
namespace Go.Proofs.YtlpnecmcncekcaaGreat.Mk
open Go Go.RowKit Go.MuLone Conf

theorem hstT (V : World) (b : Nat) (t : TypeId) (cs : Array Value) (C : Array Value) (hcs : cs.size = C.size) (ho : C.all (·.oneCell') = true) (h : V.heap[b]? = some (.cells cs t (0, 0))) :
    (storeCells ⟨b, 0, none⟩ C.toList).run Tryz.prog V = .ok () (V.setRow b C) := by
  have h := run_storeCells_at (P := Tryz.prog) b 0 t C.toList 0 cs V h (by rw [Array.length_toList, hcs]; omega) (fun u hu => (Array.all_eq_true'.1 ho) u (by simpa using hu))
  simp only [Nat.add_zero, List.take_zero, List.nil_append, Nat.zero_add] at h
  rw [h, List.drop_of_length_le (by rw [Array.length_toList, hcs, Array.length_toList]; exact Nat.le_refl _), List.append_nil]
theorem neq_ret (a : Int) (W : World) : (binOp .neq 38 (.agg #[.int .i64 a, .int .u64 0, .int .u64 0, .int .u64 0]) (.agg #[.int .i64 a, .int .u64 0, .int .u64 0, .int .u64 0])).run Tryz.prog W = .ok (.bool false) W := by
  have h : (Op.equal 38 (.agg #[.int .i64 a, .int .u64 0, .int .u64 0, .int .u64 0]) (.agg #[.int .i64 a, .int .u64 0, .int .u64 0, .int .u64 0])).run Tryz.prog W = .ok true W := by
    unfold Op.equal Op.maxDepth
    go_simp
  simp only [binOp, Sem.run_bind, h, Result.andThen_ok]
  rfl
theorem code_r (A1 : Option Addr) (cap0 n : Nat) (h0 : 0 < n) (h8 : n ≤ 8) : code ⟨A1, 1, cap0, 1, (n : Int), 64, 8, 4, 3, 2, 4, 6, 0, 0⟩ 11 0 = 0 := by
  match n, h0, h8 with
  | 1, _, _ => rfl
  | 2, _, _ => rfl
  | 3, _, _ => rfl
  | 4, _, _ => rfl
  | 5, _, _ => rfl
  | 6, _, _ => rfl
  | 7, _, _ => rfl
  | 8, _, _ => rfl
theorem wrap_few (m : Nat) (h : m < 8) : IntKind.i64.wrap (1 + IntKind.i64.wrap (m : Int)) = ((m + 1 : Nat) : Int) := by
  match m, h with
  | 0, _ => rfl
  | 1, _ => rfl
  | 2, _ => rfl
  | 3, _ => rfl
  | 4, _ => rfl
  | 5, _ => rfl
  | 6, _ => rfl
  | 7, _ => rfl
/-- two tables side by side -/
structure AL (W V : World) (y y' : Lay) (M M' : Maps) : Prop where
  a : WT V y M
  b : WT V y' M'
  bel : Below W.heap.size W V
  lo : W.heap.size ≤ y.lo ∧ y.hi ≤ y'.lo ∧ y'.hi ≤ V.heap.size ∧ y'.lo ≤ y'.hi
section
variable {W V V' : World} {y y' : Lay} {M M' M1 : Maps}
theorem AL.below (h : AL W V y y' M M') (hy : y.ok) (hy' : y'.ok) (hb : Below V.heap.size V V') : AL W V' y y' M M' :=
  ⟨h.a.below hy hb, h.b.below hy' hb, h.bel.trans (hb.mono h.bel.size), ⟨h.lo.1, h.lo.2.1, Nat.le_trans h.lo.2.2.1 hb.size, h.lo.2.2.2⟩⟩
theorem AL.drew (h : AL W V y y' M M') : AL W V.drew y y' M M' := ⟨h.a.drew, h.b.drew, h.bel.drew, h.lo⟩
theorem AL.doA (h : AL W V y y' M M') (hy : y.ok) (hy' : y'.ok) {j : Nat} (hj : j < y.n) (hw : WT V' y M1) (hO : Only2 (y.sh j) (y.mp j) V V') : AL W V' y y' M1 M' := by
  have r := hy.rs j hj
  have lo := h.lo
  exact ⟨hw, h.b.keep hy' fun k h1 _ hk => hO.block k hk (by omega) (by omega), Only2.below h.bel hO (by omega) (by omega) h.bel.size, ⟨lo.1, lo.2.1, Nat.le_trans lo.2.2.1 hO.size, lo.2.2.2⟩⟩
theorem AL.doB (h : AL W V y y' M M') (hy : y.ok) (hy' : y'.ok) {j : Nat} (hj : j < y'.n) (hw : WT V' y' M1) (hO : Only2 (y'.sh j) (y'.mp j) V V') : AL W V' y y' M M1 := by
  have r := hy'.rs j hj
  have lo := h.lo
  have rT := hy.rT
  exact ⟨h.a.keep hy fun k _ h1 hk => hO.block k hk (by omega) (by omega), hw, Only2.below h.bel hO (by omega) (by omega) h.bel.size, ⟨lo.1, lo.2.1, Nat.le_trans lo.2.2.1 hO.size, lo.2.2.2⟩⟩
/-- an answer's box -/
structure RB2 (V : World) (y' : Lay) (a : Nat) : Prop where
  box : V.heap[a]? = some (.cells #[.int .i64 0, .int .u64 0, .int .u64 0, .int .u64 0] 38 (0, 0))
  lo : y'.hi ≤ a
theorem RB2.lt {a : Nat} (h : RB2 V y' a) : a < V.heap.size := (Array.getElem?_eq_some_iff.1 h.box).1
theorem RB2.below {a : Nat} (h : RB2 V y' a) (hb : Below V.heap.size V V') : RB2 V' y' a := ⟨(hb.block a h.lt).trans h.box, h.lo⟩
theorem RB2.far {a : Nat} (h : RB2 V y' a) (hf : ∀ k, y'.hi ≤ k → k < V.heap.size → V'.heap[k]? = V.heap[k]?) : RB2 V' y' a := ⟨(hf a h.lo h.lt).trans h.box, h.lo⟩
/-- two boxes filled -/
structure FB (W V : World) (y y' : Lay) (M M' : Maps) (p q : Nat) (ra rb : Int) : Prop where
  p : V.heap[p]? = some (.cells #[.int .i64 ra, .int .u64 0, .int .u64 0, .int .u64 0] 38 (0, 0))
  q : V.heap[q]? = some (.cells #[.int .i64 rb, .int .u64 0, .int .u64 0, .int .u64 0] 38 (0, 0))
  al : AL W V y y' M M'
theorem AL.setNew (h : AL W V y y' M M') (hy : y.ok) (hy' : y'.ok) {n : Nat} (hn : y'.hi ≤ n) (hk : ∀ k, k ≠ n → V'.heap[k]? = V.heap[k]?) (hb : ∀ B a, Below B a V → B ≤ n → Below B a V') (hs : V.heap.size ≤ V'.heap.size) : AL W V' y y' M M' :=
  ⟨h.a.keep hy fun k _ h1 _ => hk k (by have := h.lo; omega), h.b.keep hy' fun k _ h1 _ => hk k (by omega), hb _ _ h.bel (by have := h.lo; have := hy.rT; omega), ⟨h.lo.1, h.lo.2.1, Nat.le_trans h.lo.2.2.1 hs, h.lo.2.2.2⟩⟩
end
set_option maxHeartbeats 1000000 in
theorem alike_long (a b : Int) (A : Option Addr) (len cap : Nat) (h : 100 < len) (W : World) :
    Calls Tryz.prog 4 #[.agg #[.int .u8 a, .int .u8 b], .slice A len cap] W fun e w' => e = .returned (.bool true) ∧ Below W.heap.size W w' := by
  have hp : (100 : Int) < (len : Int) := by omega
  have b1 := (Below.refl W.heap.size W).alloc (Nat.le_refl _) (.cells #[.int .u8 a, .int .u8 b] 47)
  go_enter Tryz.func4, Tryz.ntmps4
  go_wp2_with fail
  refine (awake_any _).mono ?_
  rintro e w1 ⟨rfl, hb⟩
  go_wp2
  go_ret
  exact ⟨rfl, b1.trans (hb.mono b1.size)⟩
set_option maxRecDepth 20000 in
set_option maxHeartbeats 16000000 in
theorem alike_few (a b : Int) (ha0 : 0 ≤ a) (hb0 : 0 ≤ b) (A : Option Addr) (len cap : Nat) (qs : List Op9) (W : World) (hq : RdO W A len qs) (h : len ≤ 100) :
    Calls Tryz.prog 4 #[.agg #[.int .u8 a, .int .u8 b], .slice A len cap] W fun e w' => e = .returned (.bool true) ∧ Below W.heap.size W w' := by
  have HQ := Lib.hid hq
  clear hq
  have hp : (len : Int) ≤ 100 := by omega
  obtain ⟨m, hm8, hm⟩ : ∃ m : Nat, m < 8 ∧ a % 8 = (m : Int) := ⟨(a % 8).toNat, by omega, by omega⟩
  obtain ⟨m', hm8', hm'⟩ : ∃ m : Nat, m < 8 ∧ b % 8 = (m : Int) := ⟨(b % 8).toNat, by omega, by omega⟩
  obtain ⟨W0, hW0⟩ : ∃ X, X = W.alloc (.cells #[.int .u8 a, .int .u8 b] 47) := ⟨_, rfl⟩
  have hk0 : W0.heap[W.heap.size]? = some (.cells #[.int .u8 a, .int .u8 b] 47 (0, 0)) := by rw [hW0]; exact heap_alloc_new _ _
  have b0 : Below W.heap.size W W0 := by rw [hW0]; exact (Below.refl _ _).alloc (Nat.le_refl _) _
  have H0 := Lib.hid (And.intro hk0 b0)
  clear hk0 b0
  go_enter Tryz.func4, Tryz.ntmps4
  go_upto_region 3 with fail
  rw [← hW0]
  clear hW0
  go_wp2_with fail
  refine (plain_mid 1 (by decide) 1 _).mono ?_
  rintro _ w1 ⟨A1, cap1, rfl, -, b1⟩
  go_wp2_with fail
  refine (plain_mid 1 (by decide) 1 _).mono ?_
  rintro _ w4 ⟨A2, cap2, rfl, -, b2⟩
  have hlt0 : W.heap.size < W0.heap.size := (Array.getElem?_eq_some_iff.1 H0.out.1).1
  have hB4 : Below W.heap.size W w4 := (H0.out.2.trans (b1.mono H0.out.2.size)).trans (b2.mono (Nat.le_trans H0.out.2.size b1.size))
  have hk4 : w4.heap[W.heap.size]? = some (.cells #[.int .u8 a, .int .u8 b] 47 (0, 0)) := (b2.block _ (Nat.lt_of_lt_of_le hlt0 b1.size)).trans ((b1.block _ hlt0).trans H0.out.1)
  have hlt4 : W.heap.size < w4.heap.size := Nat.lt_of_lt_of_le hlt0 (Nat.le_trans b1.size b2.size)
  clear b1 b2 hlt0 H0
  obtain ⟨ba, hba⟩ : ∃ X, X = w4.heap.size := ⟨_, rfl⟩
  obtain ⟨w5, hw5⟩ : ∃ X, X = (w4.alloc (.cells #[.slice none 0 0, .int .i64 0, .int .i64 0, .int .i64 0, .int .i64 0, .int .i64 0, .int .i64 0, .int .i64 0, .int .i64 0, .int .i64 0, .int .i64 0, .int .u64 0] TCf)).alloc (.cells #[.slice none 0 0, .int .i64 0, .int .i64 0, .int .i64 0, .int .i64 0, .int .i64 0, .int .i64 0, .int .i64 0, .int .i64 0, .int .i64 0, .int .i64 0, .int .u64 0] TCf) := ⟨_, rfl⟩
  have b5 : Below w4.heap.size w4 w5 := by rw [hw5]; exact ((Below.refl _ _).alloc (Nat.le_refl _) _).alloc (by simp) _
  have x5 : w5.heap[ba]? = some (.cells #[.slice none 0 0, .int .i64 0, .int .i64 0, .int .i64 0, .int .i64 0, .int .i64 0, .int .i64 0, .int .i64 0, .int .i64 0, .int .i64 0, .int .i64 0, .int .u64 0] TCf (0, 0)) := by rw [hw5, hba]; exact (heap_two w4 _ _).1
  have y5 : w5.heap[ba + 1]? = some (.cells #[.slice none 0 0, .int .i64 0, .int .i64 0, .int .i64 0, .int .i64 0, .int .i64 0, .int .i64 0, .int .i64 0, .int .i64 0, .int .i64 0, .int .i64 0, .int .u64 0] TCf (0, 0)) := by rw [hw5, hba]; exact (heap_two w4 _ _).2
  have hst7 := hstT w5 ba TCf #[.slice none 0 0, .int .i64 0, .int .i64 0, .int .i64 0, .int .i64 0, .int .i64 0, .int .i64 0, .int .i64 0, .int .i64 0, .int .i64 0, .int .i64 0, .int .u64 0] (plain A1 1 cap1 1).cells rfl (by simp [plain, Cfg.cells, Value.oneCell']) x5
  have hst8 := hstT (w5.setRow ba (plain A1 1 cap1 1).cells) (ba + 1) TCf #[.slice none 0 0, .int .i64 0, .int .i64 0, .int .i64 0, .int .i64 0, .int .i64 0, .int .i64 0, .int .i64 0, .int .i64 0, .int .i64 0, .int .i64 0, .int .u64 0] (plain A2 1 cap2 1).cells rfl (by simp [plain, Cfg.cells, Value.oneCell']) ((setRow_other w5 ba (ba + 1) _ (by omega)).trans y5)
  obtain ⟨w6, hw6⟩ : ∃ X, X = w5.setRow ba (plain A1 1 cap1 1).cells := ⟨_, rfl⟩
  rw [← hw6] at hst7 hst8
  obtain ⟨w8, hw8⟩ : ∃ X, X = w6.setRow (ba + 1) (plain A2 1 cap2 1).cells := ⟨_, rfl⟩
  rw [← hw8] at hst8
  have hF : w8.heap[ba]? = some (.cells #[.slice A1 1 cap1, .int .i64 1, .int .i64 2, .int .i64 8, .int .i64 8, .int .i64 4, .int .i64 3, .int .i64 2, .int .i64 4, .int .i64 6, .int .i64 0, .int .u64 0] TCf (0, 0)) ∧ w8.heap[ba + 1]? = some (.cells #[.slice A2 1 cap2, .int .i64 1, .int .i64 2, .int .i64 8, .int .i64 8, .int .i64 4, .int .i64 3, .int .i64 2, .int .i64 4, .int .i64 6, .int .i64 0, .int .u64 0] TCf (0, 0)) ∧ w8.heap[W.heap.size]? = some (.cells #[.int .u8 a, .int .u8 b] 47 (0, 0)) ∧ Below W.heap.size W w8 ∧ W.heap.size < ba := by
    have k3 := hB4.trans (b5.mono hB4.size)
    refine ⟨?_, ?_, ?_, ?_, by omega⟩
    · rw [hw8, hw6]
      exact (setRow_other _ (ba + 1) ba _ (by omega)).trans (setRow_heap w5 ba _ _ TCf (0, 0) x5)
    · rw [hw8, hw6]
      exact setRow_heap _ (ba + 1) _ _ TCf (0, 0) ((setRow_other w5 ba (ba + 1) _ (by omega)).trans y5)
    · rw [hw8, hw6]
      exact (setRow_other _ (ba + 1) _ _ (by omega)).trans ((setRow_other w5 ba _ _ (by omega)).trans ((b5.block _ hlt4).trans hk4))
    · rw [hw8, hw6]
      exact ⟨k3.os, k3.tape, k3.output, Nat.le_trans k3.size (by simp [World.setRow]), fun k hk => (setRow_other _ (ba + 1) k _ (by omega)).trans ((setRow_other w5 ba k _ (by omega)).trans (k3.block k hk))⟩
  have HF := Lib.hid hF
  have HB := Lib.hid hba
  clear b5 x5 y5 hF hw6 hw8 hB4 hk4 hlt4
  rw [hba] at hst7 hst8
  rw [hw5] at hst7
  clear hba hw5
  go_upto_region 4 with fail
  rw [← HB.out]
  clear hst7 hst8
  have p3 := cell_of_row w8 ba 3 _ _ (0, 0) HF.out.1
  have f3 : w8.frozen? ⟨ba, 3, none⟩ = false := by simp [World.frozen?, HF.out.1]
  have hb9 : (w8.setCell ⟨ba, 3, none⟩ (.int .i64 64)).heap[ba + 1]? = some (.cells #[.slice A2 1 cap2, .int .i64 1, .int .i64 2, .int .i64 8, .int .i64 8, .int .i64 4, .int .i64 3, .int .i64 2, .int .i64 4, .int .i64 6, .int .i64 0, .int .u64 0] TCf (0, 0)) := (Below.heap_setCell _ _ _ _ (show ba + 1 ≠ ba by omega)).trans HF.out.2.1
  have p4 := cell_of_row (w8.setCell ⟨ba, 3, none⟩ (.int .i64 64)) (ba + 1) 3 _ _ (0, 0) hb9
  have f4 : (w8.setCell ⟨ba, 3, none⟩ (.int .i64 64)).frozen? ⟨ba + 1, 3, none⟩ = false := by simp only [World.frozen?, hb9]; rfl
  clear hb9
  go_upto_region 5 with fail
  have hG : ((w8.setCell ⟨ba, 3, none⟩ (.int .i64 64)).setCell ⟨ba + 1, 3, none⟩ (.int .i64 64)).heap[ba]? = some (.cells #[.slice A1 1 cap1, .int .i64 1, .int .i64 2, .int .i64 64, .int .i64 8, .int .i64 4, .int .i64 3, .int .i64 2, .int .i64 4, .int .i64 6, .int .i64 0, .int .u64 0] TCf (0, 0)) ∧ ((w8.setCell ⟨ba, 3, none⟩ (.int .i64 64)).setCell ⟨ba + 1, 3, none⟩ (.int .i64 64)).heap[ba + 1]? = some (.cells #[.slice A2 1 cap2, .int .i64 1, .int .i64 2, .int .i64 64, .int .i64 8, .int .i64 4, .int .i64 3, .int .i64 2, .int .i64 4, .int .i64 6, .int .i64 0, .int .u64 0] TCf (0, 0)) ∧ ((w8.setCell ⟨ba, 3, none⟩ (.int .i64 64)).setCell ⟨ba + 1, 3, none⟩ (.int .i64 64)).heap[W.heap.size]? = some (.cells #[.int .u8 a, .int .u8 b] 47 (0, 0)) ∧ Below W.heap.size W ((w8.setCell ⟨ba, 3, none⟩ (.int .i64 64)).setCell ⟨ba + 1, 3, none⟩ (.int .i64 64)) ∧ W.heap.size < ba := by
    obtain ⟨h1, h2, h3, h4, h5⟩ := HF.out
    refine ⟨?_, ?_, ?_, ?_, h5⟩
    · exact (Below.heap_setCell _ _ _ _ (show ba ≠ ba + 1 by omega)).trans ((setCell_at _ h1).trans rfl)
    · exact (setCell_at _ ((Below.heap_setCell _ _ _ _ (show ba + 1 ≠ ba by omega)).trans h2)).trans rfl
    · exact (Below.heap_setCell _ _ _ _ (show W.heap.size ≠ ba + 1 by omega)).trans ((Below.heap_setCell _ _ _ _ (show W.heap.size ≠ ba by omega)).trans h3)
    · exact (h4.setCell (by show W.heap.size ≤ ba; omega) _).setCell (by show W.heap.size ≤ ba + 1; omega) _
  generalize (w8.setCell ⟨ba, 3, none⟩ (.int .i64 64)).setCell ⟨ba + 1, 3, none⟩ (.int .i64 64) = w9 at hG ⊢
  have HG := Lib.hid hG
  clear hG p3 p4 f3 f4 HF
  obtain ⟨n, hn⟩ : ∃ n : Nat, n = m + 1 := ⟨_, rfl⟩
  obtain ⟨n', hn'⟩ : ∃ n : Nat, n = m' + 1 := ⟨_, rfl⟩
  have HNn := Lib.hid (show (0 < n ∧ n ≤ 8) ∧ 0 < n' ∧ n' ≤ 8 by omega)
  have HNm : Hid (IntKind.i64.wrap (1 + IntKind.i64.wrap (a.tmod 8)) = (n : Int) ∧ IntKind.i64.wrap (1 + IntKind.i64.wrap (b.tmod 8)) = (n' : Int)) := Lib.hid ⟨by rw [Int.tmod_eq_emod_of_nonneg ha0, hm, wrap_few m hm8, hn], by rw [Int.tmod_eq_emod_of_nonneg hb0, hm', wrap_few m' hm8', hn']⟩
  clear hn hn'
  go_cut [33] from 22 to 33 (fun s9 wx => wx.heap[ba]? = some (.cells #[.slice A1 1 cap1, .int .i64 1, .int .i64 (n : Int), .int .i64 64, .int .i64 8, .int .i64 4, .int .i64 3, .int .i64 2, .int .i64 4, .int .i64 6, .int .i64 0, .int .u64 0] TCf (0, 0)) ∧ wx.heap[ba + 1]? = some (.cells #[.slice A2 1 cap2, .int .i64 1, .int .i64 (n' : Int), .int .i64 64, .int .i64 8, .int .i64 4, .int .i64 3, .int .i64 2, .int .i64 4, .int .i64 6, .int .i64 0, .int .u64 0] TCf (0, 0)) ∧ Below W.heap.size W wx)
  case first =>
    refine wp_region_held_drew (S := (fun V => V.heap[W.heap.size]? = some (.cells #[.int .u8 a, .int .u8 b] 47 (0, 0)))) (by kernel_rfl) HG.out.2.2.1 (fun hHeld => ?_)
    have HV : Hid _ := Lib.hid (show w9.drew.heap[ba]? = some (.cells #[.slice A1 1 cap1, .int .i64 1, .int .i64 2, .int .i64 64, .int .i64 8, .int .i64 4, .int .i64 3, .int .i64 2, .int .i64 4, .int .i64 6, .int .i64 0, .int .u64 0] TCf (0, 0)) ∧ w9.drew.heap[ba + 1]? = some (.cells #[.slice A2 1 cap2, .int .i64 1, .int .i64 2, .int .i64 64, .int .i64 8, .int .i64 4, .int .i64 3, .int .i64 2, .int .i64 4, .int .i64 6, .int .i64 0, .int .u64 0] TCf (0, 0)) ∧ Below W.heap.size W w9.drew ∧ W.heap.size < ba from ⟨HG.out.1, HG.out.2.1, HG.out.2.2.2.1.drew, HG.out.2.2.2.2⟩)
    generalize w9.drew = v0 at HV hHeld ⊢
    refine wpAnyH_take (i := 0) (oi := _) (v := ?_) rfl (by kernel_rfl) (by kernel_rfl) (by kernel_rfl) (fun _ _ _ h => h) (Or.inl ⟨by rfl, ?_⟩) (by assumption) ?_
    rotate_left
    · (intro V hSw; clear hSw; go_simp; try with_reducible rfl)
    try simp only [Act.put, List.getElem_toArray, List.getElem_cons_zero, List.setIfInBounds_toArray, List.set_cons_zero, List.set_cons_succ]
    refine wpAnyH_take (i := 1) (oi := _) (v := ?_) rfl (by kernel_rfl) (by kernel_rfl) (by kernel_rfl) (fun _ _ _ h => h) (Or.inl ⟨by rfl, ?_⟩) (by assumption) ?_
    rotate_left
    · (intro V hSw; have qa := cell_of_row V W.heap.size 0 _ _ (0, 0) hSw; have qb := cell_of_row V W.heap.size 1 _ _ (0, 0) hSw; clear hSw; go_simp; try with_reducible rfl)
    try simp only [Act.put, List.getElem_toArray, List.getElem_cons_succ, List.getElem_cons_zero, List.setIfInBounds_toArray, List.set_cons_zero, List.set_cons_succ]
    refine wpAnyH_take (i := 2) (oi := _) (v := ?_) rfl (by kernel_rfl) (by kernel_rfl) (by kernel_rfl) (fun _ _ _ h => h) (Or.inl ⟨by rfl, ?_⟩) (by assumption) ?_
    rotate_left
    · (intro V hSw; have qa := cell_of_row V W.heap.size 0 _ _ (0, 0) hSw; have qb := cell_of_row V W.heap.size 1 _ _ (0, 0) hSw; clear hSw; go_simp; try with_reducible rfl)
    try simp only [Act.put, List.getElem_toArray, List.getElem_cons_succ, List.getElem_cons_zero, List.setIfInBounds_toArray, List.set_cons_zero, List.set_cons_succ]
    refine wpAnyH_take (i := 3) (oi := _) (v := ?_) rfl (by kernel_rfl) (by kernel_rfl) (by kernel_rfl) (fun _ _ _ h => h) (Or.inl ⟨by rfl, ?_⟩) (by assumption) ?_
    rotate_left
    · (intro V hSw; have qa := cell_of_row V W.heap.size 0 _ _ (0, 0) hSw; have qb := cell_of_row V W.heap.size 1 _ _ (0, 0) hSw; clear hSw; go_simp; try with_reducible rfl)
    try simp only [Act.put, List.getElem_toArray, List.getElem_cons_succ, List.getElem_cons_zero, List.setIfInBounds_toArray, List.set_cons_zero, List.set_cons_succ]
    refine wpAnyH_take (i := 4) (oi := _) (v := ?_) rfl (by kernel_rfl) (by kernel_rfl) (by kernel_rfl) (fun _ _ _ h => h) (Or.inl ⟨by rfl, ?_⟩) (by assumption) ?_
    rotate_left
    · (intro V hSw; have qa := cell_of_row V W.heap.size 0 _ _ (0, 0) hSw; have qb := cell_of_row V W.heap.size 1 _ _ (0, 0) hSw; clear hSw; go_simp; try with_reducible rfl)
    try simp only [Act.put, List.getElem_toArray, List.getElem_cons_succ, List.getElem_cons_zero, List.setIfInBounds_toArray, List.set_cons_zero, List.set_cons_succ]
    refine wpAnyH_take (i := 5) (oi := _) (v := ?_) rfl (by kernel_rfl) (by kernel_rfl) (by kernel_rfl) (fun _ _ _ h => h) (Or.inl ⟨by rfl, ?_⟩) (by assumption) ?_
    rotate_left
    · (intro V hSw; have qa := cell_of_row V W.heap.size 0 _ _ (0, 0) hSw; have qb := cell_of_row V W.heap.size 1 _ _ (0, 0) hSw; clear hSw; go_simp; try with_reducible rfl)
    try simp only [Act.put, List.getElem_toArray, List.getElem_cons_succ, List.getElem_cons_zero, List.setIfInBounds_toArray, List.set_cons_zero, List.set_cons_succ]
    refine wpAnyH_take (i := 6) (oi := _) (v := ?_) rfl (by kernel_rfl) (by kernel_rfl) (by kernel_rfl) (fun _ _ _ h => h) (Or.inl ⟨by rfl, ?_⟩) (by assumption) ?_
    rotate_left
    · (intro V hSw; have qa := cell_of_row V W.heap.size 0 _ _ (0, 0) hSw; have qb := cell_of_row V W.heap.size 1 _ _ (0, 0) hSw; clear hSw; go_simp; try with_reducible rfl)
    try simp only [Act.put, List.getElem_toArray, List.getElem_cons_succ, List.getElem_cons_zero, List.setIfInBounds_toArray, List.set_cons_zero, List.set_cons_succ]
    refine wpAnyH_take (i := 7) (oi := _) (v := ?_) rfl (by kernel_rfl) (by kernel_rfl) (by kernel_rfl) (fun _ _ _ h => h) (Or.inl ⟨by rfl, ?_⟩) (by assumption) ?_
    rotate_left
    · (intro V hSw; have qa := cell_of_row V W.heap.size 0 _ _ (0, 0) hSw; have qb := cell_of_row V W.heap.size 1 _ _ (0, 0) hSw; clear hSw; go_simp; try with_reducible rfl)
    try simp only [Act.put, List.getElem_toArray, List.getElem_cons_succ, List.getElem_cons_zero, List.setIfInBounds_toArray, List.set_cons_zero, List.set_cons_succ]
    refine wpAnyH_take (i := 8) (oi := _) (v := ?_) rfl (by kernel_rfl) (by kernel_rfl) (by kernel_rfl) (fun _ _ _ h => h) (Or.inl ⟨by rfl, ?_⟩) (by assumption) ?_
    rotate_left
    · (intro V hSw; have qa := cell_of_row V W.heap.size 0 _ _ (0, 0) hSw; have qb := cell_of_row V W.heap.size 1 _ _ (0, 0) hSw; clear hSw; go_simp; try with_reducible rfl)
    try simp only [Act.put, List.getElem_toArray, List.getElem_cons_succ, List.getElem_cons_zero, List.setIfInBounds_toArray, List.set_cons_zero, List.set_cons_succ]
    refine wpAnyH_take (i := 9) (oi := _) (v := ?_) rfl (by kernel_rfl) (by kernel_rfl) (by kernel_rfl) (fun _ _ _ h => h) (Or.inl ⟨by rfl, ?_⟩) (by assumption) ?_
    rotate_left
    · (intro V hSw; have qa := cell_of_row V W.heap.size 0 _ _ (0, 0) hSw; have qb := cell_of_row V W.heap.size 1 _ _ (0, 0) hSw; clear hSw; go_simp; try with_reducible rfl)
    try simp only [Act.put, List.getElem_toArray, List.getElem_cons_succ, List.getElem_cons_zero, List.setIfInBounds_toArray, List.set_cons_zero, List.set_cons_succ]
    refine wpAnyH_take (i := 10) (oi := _) (v := ?_) rfl (by kernel_rfl) (by kernel_rfl) (by kernel_rfl) (fun _ _ _ h => h) (Or.inl ⟨by rfl, ?_⟩) (by assumption) ?_
    rotate_left
    · (intro V hSw; have qa := cell_of_row V W.heap.size 0 _ _ (0, 0) hSw; have qb := cell_of_row V W.heap.size 1 _ _ (0, 0) hSw; clear hSw; go_simp; try with_reducible rfl)
    try simp only [Act.put, List.getElem_toArray, List.getElem_cons_succ, List.getElem_cons_zero, List.setIfInBounds_toArray, List.set_cons_zero, List.set_cons_succ]
    refine wpAnyH_ready (rs := [11]) (by kernel_rfl) (by simp) ?_
    refine AllReadyH.cons rfl (fun K hK => ?_) AllReadyH.nil
    have pz := cell_of_row v0 (ba) 2 _ _ (0, 0) HV.out.1
    have fz : v0.frozen? ⟨ba, 2, none⟩ = false := by simp [World.frozen?, HV.out.1]
    simp only [List.getElem_toArray, List.getElem_cons_succ, List.getElem_cons_zero]
    rw [if_pos (by rfl)]
    go_simp
    have HV2 : Hid ((v0.setCell ⟨ba, 2, none⟩ (.int .i64 (IntKind.i64.wrap (1 + IntKind.i64.wrap (a.tmod 8))))).heap[ba]? = some (.cells #[.slice A1 1 cap1, .int .i64 1, .int .i64 (n : Int), .int .i64 64, .int .i64 8, .int .i64 4, .int .i64 3, .int .i64 2, .int .i64 4, .int .i64 6, .int .i64 0, .int .u64 0] TCf (0, 0)) ∧ (v0.setCell ⟨ba, 2, none⟩ (.int .i64 (IntKind.i64.wrap (1 + IntKind.i64.wrap (a.tmod 8))))).heap[ba + 1]? = some (.cells #[.slice A2 1 cap2, .int .i64 1, .int .i64 2, .int .i64 64, .int .i64 8, .int .i64 4, .int .i64 3, .int .i64 2, .int .i64 4, .int .i64 6, .int .i64 0, .int .u64 0] TCf (0, 0)) ∧ Below W.heap.size W (v0.setCell ⟨ba, 2, none⟩ (.int .i64 (IntKind.i64.wrap (1 + IntKind.i64.wrap (a.tmod 8))))) ∧ W.heap.size < ba) := Lib.hid ⟨(by rw [HNm.out.1]; exact (setCell_at _ HV.out.1).trans rfl), ((Below.heap_setCell _ _ _ _ (show ba + 1 ≠ ba by omega)).trans HV.out.2.1), HV.out.2.2.1.setCell (by have := HV.out.2.2.2; show W.heap.size ≤ ba; omega) _, HV.out.2.2.2⟩
    refine hK.out _ _ ((Below.heap_setCell _ ⟨ba, 2, none⟩ _ _ (show W.heap.size ≠ ba by have := HV.out.2.2.2; omega)).trans hHeld) (fun hHeld => ?_)
    clear hK K pz fz
    try simp only [Act.put, List.getElem_toArray, List.getElem_cons_succ, List.getElem_cons_zero, List.setIfInBounds_toArray, List.set_cons_zero, List.set_cons_succ]
    generalize (v0.setCell ⟨ba, 2, none⟩ (.int .i64 (IntKind.i64.wrap (1 + IntKind.i64.wrap (a.tmod 8))))) = v1 at HV2 hHeld ⊢
    refine wpAnyH_take (i := 12) (oi := _) (v := ?_) rfl (by kernel_rfl) (by kernel_rfl) (by kernel_rfl) (fun _ _ _ h => h) (Or.inl ⟨by rfl, ?_⟩) (by assumption) ?_
    rotate_left
    · (intro V hSw; clear hSw; go_simp; try with_reducible rfl)
    try simp only [Act.put, List.getElem_toArray, List.getElem_cons_succ, List.getElem_cons_zero, List.setIfInBounds_toArray, List.set_cons_zero, List.set_cons_succ]
    refine wpAnyH_ready (rs := [13]) (by kernel_rfl) (by simp) ?_
    refine AllReadyH.cons rfl (fun K hK => ?_) AllReadyH.nil
    have pz := cell_of_row v1 (ba + 1) 2 _ _ (0, 0) HV2.out.2.1
    have fz : v1.frozen? ⟨ba + 1, 2, none⟩ = false := by simp [World.frozen?, HV2.out.2.1]
    simp only [List.getElem_toArray, List.getElem_cons_succ, List.getElem_cons_zero]
    rw [if_pos (by rfl)]
    go_simp
    have HV4 : Hid ((v1.setCell ⟨ba + 1, 2, none⟩ (.int .i64 (IntKind.i64.wrap (1 + IntKind.i64.wrap (b.tmod 8))))).heap[ba]? = some (.cells #[.slice A1 1 cap1, .int .i64 1, .int .i64 (n : Int), .int .i64 64, .int .i64 8, .int .i64 4, .int .i64 3, .int .i64 2, .int .i64 4, .int .i64 6, .int .i64 0, .int .u64 0] TCf (0, 0)) ∧ (v1.setCell ⟨ba + 1, 2, none⟩ (.int .i64 (IntKind.i64.wrap (1 + IntKind.i64.wrap (b.tmod 8))))).heap[ba + 1]? = some (.cells #[.slice A2 1 cap2, .int .i64 1, .int .i64 (n' : Int), .int .i64 64, .int .i64 8, .int .i64 4, .int .i64 3, .int .i64 2, .int .i64 4, .int .i64 6, .int .i64 0, .int .u64 0] TCf (0, 0)) ∧ Below W.heap.size W (v1.setCell ⟨ba + 1, 2, none⟩ (.int .i64 (IntKind.i64.wrap (1 + IntKind.i64.wrap (b.tmod 8))))) ∧ W.heap.size < ba) := Lib.hid ⟨((Below.heap_setCell _ _ _ _ (show ba ≠ ba + 1 by omega)).trans HV2.out.1), (by rw [HNm.out.2]; exact (setCell_at _ HV2.out.2.1).trans rfl), HV2.out.2.2.1.setCell (by have := HV2.out.2.2.2; show W.heap.size ≤ ba + 1; omega) _, HV2.out.2.2.2⟩
    refine hK.out _ _ ((Below.heap_setCell _ ⟨ba + 1, 2, none⟩ _ _ (show W.heap.size ≠ ba + 1 by have := HV.out.2.2.2; omega)).trans hHeld) (fun hHeld => ?_)
    clear hK K pz fz
    try simp only [Act.put, List.getElem_toArray, List.getElem_cons_succ, List.getElem_cons_zero, List.setIfInBounds_toArray, List.set_cons_zero, List.set_cons_succ]
    generalize (v1.setCell ⟨ba + 1, 2, none⟩ (.int .i64 (IntKind.i64.wrap (1 + IntKind.i64.wrap (b.tmod 8))))) = v3 at HV4 hHeld ⊢
    refine wpAnyH_done (by kernel_rfl) ?_ _
    go_wp2
    go_meet
    exact ⟨HV4.out.1, HV4.out.2.1, HV4.out.2.2.1⟩
  case rest =>
  obtain ⟨hc1, hc2, hb3⟩ := hcut
  clear HG
  have HT : Hid (∀ V, Calls Tryz.prog 9 #[.agg #[.slice A1 1 cap1, .int .i64 1, .int .i64 (n : Int), .int .i64 64, .int .i64 8, .int .i64 4, .int .i64 3, .int .i64 2, .int .i64 4, .int .i64 6, .int .i64 0, .int .u64 0]] V fun e w' => ∃ T v ss, e = .returned (.tuple #[.pointer (some ⟨T, 0, none⟩), .int .i64 0]) ∧ ss.length = n ∧ TR 64 V w' T v ss ⟨A1, 1, cap1, 1, (n : Int), 64, 8, 4, 3, 2, 4, 6, 0, 0⟩) :=
    Lib.hid fun V => tnew_r 64 (by decide) (by decide) ⟨A1, 1, cap1, 1, (n : Int), 64, 8, 4, 3, 2, 4, 6, 0, 0⟩ n HNn.out.1.1 HNn.out.1.2 (code_r A1 cap1 n HNn.out.1.1 HNn.out.1.2) rfl rfl V
  have HT' : Hid (∀ V, Calls Tryz.prog 9 #[.agg #[.slice A2 1 cap2, .int .i64 1, .int .i64 (n' : Int), .int .i64 64, .int .i64 8, .int .i64 4, .int .i64 3, .int .i64 2, .int .i64 4, .int .i64 6, .int .i64 0, .int .u64 0]] V fun e w' => ∃ T v ss, e = .returned (.tuple #[.pointer (some ⟨T, 0, none⟩), .int .i64 0]) ∧ ss.length = n' ∧ TR 64 V w' T v ss ⟨A2, 1, cap2, 1, (n' : Int), 64, 8, 4, 3, 2, 4, 6, 0, 0⟩) :=
    Lib.hid fun V => tnew_r 64 (by decide) (by decide) ⟨A2, 1, cap2, 1, (n' : Int), 64, 8, 4, 3, 2, 4, 6, 0, 0⟩ n' HNn.out.2.1 HNn.out.2.2 (code_r A2 cap2 n' HNn.out.2.1 HNn.out.2.2) rfl rfl V
  have H3 := Lib.hid (And.intro hc2 hb3)
  have q0 := cell_of_row wc ba 0 _ _ (0, 0) hc1
  have q1 := cell_of_row wc ba 1 _ _ (0, 0) hc1
  have q2 := cell_of_row wc ba 2 _ _ (0, 0) hc1
  have q3 := cell_of_row wc ba 3 _ _ (0, 0) hc1
  have q4 := cell_of_row wc ba 4 _ _ (0, 0) hc1
  have q5 := cell_of_row wc ba 5 _ _ (0, 0) hc1
  have q6 := cell_of_row wc ba 6 _ _ (0, 0) hc1
  have q7 := cell_of_row wc ba 7 _ _ (0, 0) hc1
  have q8 := cell_of_row wc ba 8 _ _ (0, 0) hc1
  have q9 := cell_of_row wc ba 9 _ _ (0, 0) hc1
  have q10 := cell_of_row wc ba 10 _ _ (0, 0) hc1
  have q11 := cell_of_row wc ba 11 _ _ (0, 0) hc1
  clear hc1 hc2 hb3 hm hm' hm8 hm8' ha0 hb0
  go_wp2_with fail
  refine (HT.out _).mono ?_
  rintro _ w10 ⟨T, v, ss, rfl, hss, hTB⟩
  obtain ⟨y, hyT, hyn, hyr, hylo, hyhi, hyok, hywt, hymo, hysz⟩ := wt_of hTB hss HNn.out.1.1 HNn.out.1.2 (by decide) (by decide)
  have H10 := Lib.hid (And.intro ((hTB.bel.block _ (Array.getElem?_eq_some_iff.1 H3.out.1).1).trans H3.out.1) (And.intro (H3.out.2.trans (hTB.bel.mono H3.out.2.size)) (And.intro (And.intro hyok hymo) (And.intro hywt (show W.heap.size ≤ y.lo ∧ y.hi = w10.heap.size ∧ y.n = n ∧ y.room = 64 from ⟨by have := H3.out.2.size; omega, hyhi, hyn, hyr⟩)))))
  clear hTB hss hyn hyr hylo hyhi hyok hywt hymo hysz q0 q1 q2 q3 q4 q5 q6 q7 q8 q9 q10 q11 HT H3
  subst hyT
  have q0 := cell_of_row w10 (ba + 1) 0 _ _ (0, 0) H10.out.1
  have q1 := cell_of_row w10 (ba + 1) 1 _ _ (0, 0) H10.out.1
  have q2 := cell_of_row w10 (ba + 1) 2 _ _ (0, 0) H10.out.1
  have q3 := cell_of_row w10 (ba + 1) 3 _ _ (0, 0) H10.out.1
  have q4 := cell_of_row w10 (ba + 1) 4 _ _ (0, 0) H10.out.1
  have q5 := cell_of_row w10 (ba + 1) 5 _ _ (0, 0) H10.out.1
  have q6 := cell_of_row w10 (ba + 1) 6 _ _ (0, 0) H10.out.1
  have q7 := cell_of_row w10 (ba + 1) 7 _ _ (0, 0) H10.out.1
  have q8 := cell_of_row w10 (ba + 1) 8 _ _ (0, 0) H10.out.1
  have q9 := cell_of_row w10 (ba + 1) 9 _ _ (0, 0) H10.out.1
  have q10 := cell_of_row w10 (ba + 1) 10 _ _ (0, 0) H10.out.1
  have q11 := cell_of_row w10 (ba + 1) 11 _ _ (0, 0) H10.out.1
  go_wp2_with fail
  refine (HT'.out _).mono ?_
  rintro _ w11 ⟨T', v', ss', rfl, hss, hTB⟩
  obtain ⟨y', hyT, hyn, hyr, hylo, hyhi, hyok, hywt, hymo, hysz⟩ := wt_of hTB hss HNn.out.2.1 HNn.out.2.2 (by decide) (by decide)
  have hal : AL W w11 y y' (fun _ => ([], 0)) (fun _ => ([], 0)) := ⟨H10.out.2.2.2.1.below H10.out.2.2.1.1 hTB.bel, hywt, H10.out.2.1.trans (hTB.bel.mono H10.out.2.1.size), ⟨H10.out.2.2.2.2.1, by have := H10.out.2.2.2.2.2.1; omega, by omega, by omega⟩⟩
  have HY := Lib.hid (And.intro H10.out.2.2.1.1 (And.intro hyok (show y.room = y'.room from H10.out.2.2.2.2.2.2.2.trans hyr.symm)))
  have HM : Hid (MapsOk y (fun _ => ([], 0)) ∧ MapsOk y' (fun _ => ([], 0)) ∧ Ali y.n (fun _ => ([], 0)) y'.n (fun _ => ([], 0))) := Lib.hid ⟨H10.out.2.2.1.2, hymo, fun k => rfl⟩
  have HA := Lib.hid hal
  clear hal hTB hss hyn hyr hylo hyhi hyok hywt hymo hysz q0 q1 q2 q3 q4 q5 q6 q7 q8 q9 q10 q11 HT' H10 HNn HNm HB
  subst hyT
  go_wp2_with fail
  go_loopw [11] (fun vi wr => ∃ (i : Nat) (M M' : Maps), vi = .int .i64 (i : Int) ∧ i ≤ len ∧ AL W wr y y' M M' ∧ Hid (MapsOk y M ∧ MapsOk y' M' ∧ Ali y.n M y'.n M')) (fun vi _ => len - (intOf vi).toNat)
  case atStart => exact ⟨0, _, _, rfl, Nat.zero_le _, HA.out, HM⟩
  case round =>
    clear HA HM
    obtain ⟨i, M, M', rfl, hi, hA, HM⟩ := hrel
    have HA := Lib.hid hA
    clear hA
    by_cases hlt : i < len
    · have hi0 : (0 : Int) ≤ (i : Int) := by omega
      have hi1 : (i : Int) < (len : Int) := by omega
      obtain ⟨b9, off, hA, hbl, hcs⟩ := HQ.out.cells (by omega)
      have hat := hcs i (by have := HQ.out.many; omega)
      have hok := HQ.out.keys _ (List.getElem_mem (h := (by have := HQ.out.many; omega : i < qs.length)))
      generalize qs[i]'(by have := HQ.out.many; omega) = q at hat hok
      subst hA
      clear hcs
      obtain ⟨kd, who, ⟨kc, kf, ks⟩, sd, ac, ep, nn⟩ := q
      have HSA : Hid (∀ V, Below W.heap.size W V → OpAt V b9 off i (Op9.mk kd who ⟨kc, kf, ks⟩ sd ac ep nn)) := fun V hb => hat.keep (hb.block b9 hbl)
      have hD1 := fun (V : World) (hV : AL W V y y' M M') => tdo (Op9.mk kd who ⟨kc, kf, ks⟩ sd ac ep nn) hok hV.a HY.out.1
      have hD2 := fun (V : World) (hV : AL W V y y' (tMaps (Op9.mk kd who ⟨kc, kf, ks⟩ sd ac ep nn) y.n y.room M) M') => tdo (Op9.mk kd who ⟨kc, kf, ks⟩ sd ac ep nn) hok hV.b HY.out.2.1
      have hmo := tmaps_ok (Op9.mk kd who ⟨kc, kf, ks⟩ sd ac ep nn) HM.out.1 HY.out.1
      have hmo' := tmaps_ok (Op9.mk kd who ⟨kc, kf, ks⟩ sd ac ep nn) HM.out.2.1 HY.out.2.1
      have hans := ali_ans (Op9.mk kd who ⟨kc, kf, ks⟩ sd ac ep nn) HY.out.2.2 HM.out.2.2
      have hstep := ali_step (Op9.mk kd who ⟨kc, kf, ks⟩ sd ac ep nn) HY.out.1 HY.out.2.1 HM.out.1 HM.out.2.1 HM.out.2.2
      obtain ⟨j, hj⟩ : ∃ j, j = own y.n (K3.mk kc kf ks) := ⟨_, rfl⟩
      obtain ⟨j', hj'⟩ : ∃ j, j = own y'.n (K3.mk kc kf ks) := ⟨_, rfl⟩
      have hjn : j < y.n := by rw [hj]; exact own_lt HY.out.1.n0 _
      have hjn' : j' < y'.n := by rw [hj']; exact own_lt HY.out.2.1.n0 _
      generalize tMaps (Op9.mk kd who ⟨kc, kf, ks⟩ sd ac ep nn) y.n y.room M = M1 at hD1 hD2 hmo hstep
      generalize tMaps (Op9.mk kd who ⟨kc, kf, ks⟩ sd ac ep nn) y'.n y'.room M' = M1' at hD2 hmo' hstep
      generalize tAns (Op9.mk kd who ⟨kc, kf, ks⟩ sd ac ep nn) y.n y.room M = ra at hD1 hans hstep
      generalize tAns (Op9.mk kd who ⟨kc, kf, ks⟩ sd ac ep nn) y'.n y'.room M' = rb at hD2 hans hstep
      have HD1 : Hid (∀ V, AL W V y y' M M' → Calls Tryz.prog 11 #[.pointer (some ⟨y.T, 0, none⟩), .agg #[.int .i64 kd, .int .i64 who, .int .i64 kc, .int .i64 kf, .int .u64 ks, .int .i64 sd, .int .i64 ac, .int .u64 ep, .int .u64 nn]] V fun e w' => e = .returned (.agg #[.int .i64 ra, .int .u64 0, .int .u64 0, .int .u64 0]) ∧ AL W w' y y' M1 M' ∧ ∀ k, y'.hi ≤ k → k < V.heap.size → w'.heap[k]? = V.heap[k]?) := Lib.hid fun V hV => (hD1 V hV).mono fun e w' ⟨h1, h2, h3⟩ => by
        have r := HY.out.1.rs j hjn
        have lo := hV.lo
        rw [← show j = own y.n (K3.mk kc kf ks) from hj] at h3
        exact ⟨h1, hV.doA HY.out.1 HY.out.2.1 hjn h2 h3, fun k h4 h5 => h3.block k h5 (by omega) (by omega)⟩
      have HD2 : Hid (∀ V, AL W V y y' M1 M' → Calls Tryz.prog 11 #[.pointer (some ⟨y'.T, 0, none⟩), .agg #[.int .i64 kd, .int .i64 who, .int .i64 kc, .int .i64 kf, .int .u64 ks, .int .i64 sd, .int .i64 ac, .int .u64 ep, .int .u64 nn]] V fun e w' => e = .returned (.agg #[.int .i64 rb, .int .u64 0, .int .u64 0, .int .u64 0]) ∧ AL W w' y y' M1 M1' ∧ ∀ k, y'.hi ≤ k → k < V.heap.size → w'.heap[k]? = V.heap[k]?) := Lib.hid fun V hV => (hD2 V hV).mono fun e w' ⟨h1, h2, h3⟩ => by
        have r := HY.out.2.1.rs j' hjn'
        have lo := hV.lo
        rw [← show j' = own y'.n (K3.mk kc kf ks) from hj'] at h3
        exact ⟨h1, hV.doB HY.out.1 HY.out.2.1 hjn' h2 h3, fun k h4 h5 => h3.block k h5 (by omega) (by omega)⟩
      have HE : Hid (MapsOk y M1 ∧ MapsOk y' M1' ∧ (ra ≠ 6 → rb ≠ 6 → ra = rb) ∧ (ra = rb → Ali y.n M1 y'.n M1')) := Lib.hid ⟨hmo, hmo', hans, hstep⟩
      clear hD1 hD2 hmo hmo' hans hstep hj hj' hjn hjn' hok hat HM
      go_upto_region 13 with fail
      go_cut [12, 13] from 56 to 67 (fun sp sq wx => ∃ p q : Nat, sp = .pointer (some ⟨p, 0, none⟩) ∧ sq = .pointer (some ⟨q, 0, none⟩) ∧ FB W wx y y' M1 M1' p q ra rb)
      case first =>
        refine wp_region_held_drew (S := (fun V => OpAt V b9 off i (Op9.mk kd who ⟨kc, kf, ks⟩ sd ac ep nn))) (by kernel_rfl) (HSA.out _ HA.out.drew.bel) (fun hHeld => ?_)
        have HV0 := Lib.hid HA.out.drew
        generalize wr.drew = V0 at HV0 hHeld ⊢
        refine wpAnyH_take (i := 0) (oi := _) (v := ?_) rfl (by kernel_rfl) (by kernel_rfl) (by kernel_rfl) (fun _ _ _ h => h) (Or.inl ⟨by rfl, ?_⟩) (by assumption) ?_
        rotate_left
        · (intro V hSw; clear hSw; go_simp; try with_reducible rfl)
        try simp only [Act.put, List.getElem_toArray, List.getElem_cons_zero, List.setIfInBounds_toArray, List.set_cons_zero, List.set_cons_succ]
        refine wpAnyH_take (i := 1) (oi := _) (v := ?_) rfl (by kernel_rfl) (by kernel_rfl) (by kernel_rfl) (fun _ _ _ h => h) (Or.inl ⟨by rfl, ?_⟩) (by assumption) ?_
        rotate_left
        · (intro V hSw; clear hSw; go_simp; try with_reducible rfl)
        try simp only [Act.put, List.getElem_toArray, List.getElem_cons_succ, List.getElem_cons_zero, List.setIfInBounds_toArray, List.set_cons_zero, List.set_cons_succ]
        refine wpAnyH_take (i := 2) (oi := _) (v := ?_) rfl (by kernel_rfl) (by kernel_rfl) (by kernel_rfl) (fun _ _ _ h => h) (Or.inl ⟨by rfl, ?_⟩) (by assumption) ?_
        rotate_left
        · (intro V hSw; clear hSw; go_simp; try with_reducible rfl)
        try simp only [Act.put, List.getElem_toArray, List.getElem_cons_succ, List.getElem_cons_zero, List.setIfInBounds_toArray, List.set_cons_zero, List.set_cons_succ]
        refine wpAnyH_take (i := 3) (oi := _) (v := ?_) rfl (by kernel_rfl) (by kernel_rfl) (by kernel_rfl) (fun _ _ _ h => h) (Or.inl ⟨by rfl, ?_⟩) (by assumption) ?_
        rotate_left
        · (intro V hSw; clear hSw; go_simp; try with_reducible rfl)
        try simp only [Act.put, List.getElem_toArray, List.getElem_cons_succ, List.getElem_cons_zero, List.setIfInBounds_toArray, List.set_cons_zero, List.set_cons_succ]
        refine wpAnyH_take (i := 4) (oi := _) (v := ?_) rfl (by kernel_rfl) (by kernel_rfl) (by kernel_rfl) (fun _ _ _ h => h) (Or.inl ⟨by rfl, ?_⟩) (by assumption) ?_
        rotate_left
        · (intro V hSw; have q0 : V.cell? ⟨b9, off + i * 9, none⟩ = some (.int .i64 kd) := hSw 0 (by decide); have q1 : V.cell? ⟨b9, off + i * 9 + 1, none⟩ = some (.int .i64 who) := hSw 1 (by decide); have q2 : V.cell? ⟨b9, off + i * 9 + 2, none⟩ = some (.int .i64 kc) := hSw 2 (by decide); have q3 : V.cell? ⟨b9, off + i * 9 + 3, none⟩ = some (.int .i64 kf) := hSw 3 (by decide); have q4 : V.cell? ⟨b9, off + i * 9 + 4, none⟩ = some (.int .u64 ks) := hSw 4 (by decide); have q5 : V.cell? ⟨b9, off + i * 9 + 5, none⟩ = some (.int .i64 sd) := hSw 5 (by decide); have q6 : V.cell? ⟨b9, off + i * 9 + 6, none⟩ = some (.int .i64 ac) := hSw 6 (by decide); have q7 : V.cell? ⟨b9, off + i * 9 + 7, none⟩ = some (.int .u64 ep) := hSw 7 (by decide); have q8 : V.cell? ⟨b9, off + i * 9 + 8, none⟩ = some (.int .u64 nn) := hSw 8 (by decide); clear hSw; go_simp; try with_reducible rfl)
        try simp only [Act.put, List.getElem_toArray, List.getElem_cons_succ, List.getElem_cons_zero, List.setIfInBounds_toArray, List.set_cons_zero, List.set_cons_succ]
        refine wpAnyH_take (i := 6) (oi := _) (v := ?_) rfl (by kernel_rfl) (by kernel_rfl) (by kernel_rfl) (fun _ _ _ h => h) (Or.inl ⟨by rfl, ?_⟩) (by assumption) ?_
        rotate_left
        · (intro V hSw; clear hSw; go_simp; try with_reducible rfl)
        try simp only [Act.put, List.getElem_toArray, List.getElem_cons_succ, List.getElem_cons_zero, List.setIfInBounds_toArray, List.set_cons_zero, List.set_cons_succ]
        refine wpAnyH_take (i := 7) (oi := _) (v := ?_) rfl (by kernel_rfl) (by kernel_rfl) (by kernel_rfl) (fun _ _ _ h => h) (Or.inl ⟨by rfl, ?_⟩) (by assumption) ?_
        rotate_left
        · (intro V hSw; clear hSw; go_simp; try with_reducible rfl)
        try simp only [Act.put, List.getElem_toArray, List.getElem_cons_succ, List.getElem_cons_zero, List.setIfInBounds_toArray, List.set_cons_zero, List.set_cons_succ]
        refine wpAnyH_take (i := 8) (oi := _) (v := ?_) rfl (by kernel_rfl) (by kernel_rfl) (by kernel_rfl) (fun _ _ _ h => h) (Or.inl ⟨by rfl, ?_⟩) (by assumption) ?_
        rotate_left
        · (intro V hSw; clear hSw; go_simp; try with_reducible rfl)
        try simp only [Act.put, List.getElem_toArray, List.getElem_cons_succ, List.getElem_cons_zero, List.setIfInBounds_toArray, List.set_cons_zero, List.set_cons_succ]
        refine wpAnyH_take (i := 9) (oi := _) (v := ?_) rfl (by kernel_rfl) (by kernel_rfl) (by kernel_rfl) (fun _ _ _ h => h) (Or.inl ⟨by rfl, ?_⟩) (by assumption) ?_
        rotate_left
        · (intro V hSw; clear hSw; go_simp; try with_reducible rfl)
        try simp only [Act.put, List.getElem_toArray, List.getElem_cons_succ, List.getElem_cons_zero, List.setIfInBounds_toArray, List.set_cons_zero, List.set_cons_succ]
        refine wpAnyH_take (i := 10) (oi := _) (v := ?_) rfl (by kernel_rfl) (by kernel_rfl) (by kernel_rfl) (fun _ _ _ h => h) (Or.inl ⟨by rfl, ?_⟩) (by assumption) ?_
        rotate_left
        · (intro V hSw; have q0 : V.cell? ⟨b9, off + i * 9, none⟩ = some (.int .i64 kd) := hSw 0 (by decide); have q1 : V.cell? ⟨b9, off + i * 9 + 1, none⟩ = some (.int .i64 who) := hSw 1 (by decide); have q2 : V.cell? ⟨b9, off + i * 9 + 2, none⟩ = some (.int .i64 kc) := hSw 2 (by decide); have q3 : V.cell? ⟨b9, off + i * 9 + 3, none⟩ = some (.int .i64 kf) := hSw 3 (by decide); have q4 : V.cell? ⟨b9, off + i * 9 + 4, none⟩ = some (.int .u64 ks) := hSw 4 (by decide); have q5 : V.cell? ⟨b9, off + i * 9 + 5, none⟩ = some (.int .i64 sd) := hSw 5 (by decide); have q6 : V.cell? ⟨b9, off + i * 9 + 6, none⟩ = some (.int .i64 ac) := hSw 6 (by decide); have q7 : V.cell? ⟨b9, off + i * 9 + 7, none⟩ = some (.int .u64 ep) := hSw 7 (by decide); have q8 : V.cell? ⟨b9, off + i * 9 + 8, none⟩ = some (.int .u64 nn) := hSw 8 (by decide); clear hSw; go_simp; try with_reducible rfl)
        try simp only [Act.put, List.getElem_toArray, List.getElem_cons_succ, List.getElem_cons_zero, List.setIfInBounds_toArray, List.set_cons_zero, List.set_cons_succ]
        refine wpAnyH_ready (rs := [5, 12, 13]) (by kernel_rfl) (by simp) ?_
        refine AllReadyH.cons rfl (fun K hK => ?_) (AllReadyH.cons rfl (fun K hK => ?_) (AllReadyH.cons rfl (fun K hK => ?_) AllReadyH.nil))
        · simp only [List.getElem_toArray, List.getElem_cons_succ, List.getElem_cons_zero]
          rw [if_pos (by rfl)]
          go_simp
          refine (HD1.out V0 HV0.out).mono ?_
          rintro _ V5 ⟨rfl, hal, hfar⟩
          have HV6 := Lib.hid hal
          clear hal hfar
          go_wp2_with fail
          refine hK.out _ _ (HSA.out _ HV6.out.bel) (fun hHeld => ?_)
          clear hK K
          try simp only [Act.put, List.getElem_toArray, List.getElem_cons_succ, List.getElem_cons_zero, List.setIfInBounds_toArray, List.set_cons_zero, List.set_cons_succ]
          refine wpAnyH_ready (rs := [11, 12, 13]) (by kernel_rfl) (by simp) ?_
          refine AllReadyH.cons rfl (fun K hK => ?_) (AllReadyH.cons rfl (fun K hK => ?_) (AllReadyH.cons rfl (fun K hK => ?_) AllReadyH.nil))
          · simp only [List.getElem_toArray, List.getElem_cons_succ, List.getElem_cons_zero]
            rw [if_pos (by rfl)]
            go_simp
            refine (HD2.out V5 HV6.out).mono ?_
            rintro _ V7 ⟨rfl, hal, hfar⟩
            have HV8 := Lib.hid hal
            clear hal hfar
            go_wp2_with fail
            refine hK.out _ _ (HSA.out _ HV8.out.bel) (fun hHeld => ?_)
            clear hK K
            try simp only [Act.put, List.getElem_toArray, List.getElem_cons_succ, List.getElem_cons_zero, List.setIfInBounds_toArray, List.set_cons_zero, List.set_cons_succ]
            refine wpAnyH_ready (rs := [12, 13]) (by kernel_rfl) (by simp) ?_
            refine AllReadyH.cons rfl (fun K hK => ?_) (AllReadyH.cons rfl (fun K hK => ?_) AllReadyH.nil)
            · simp only [List.getElem_toArray, List.getElem_cons_succ, List.getElem_cons_zero]
              rw [if_pos (by rfl)]
              go_simp
              have bl := (Below.refl _ V7).alloc (Nat.le_refl _) (.cells #[.int .i64 0, .int .u64 0, .int .u64 0, .int .u64 0] 38)
              have HV10 := Lib.hid (HV8.out.below HY.out.1 HY.out.2.1 bl)
              have HA12 : Hid (RB2 (V7.alloc (.cells #[.int .i64 0, .int .u64 0, .int .u64 0, .int .u64 0] 38)) y' V7.heap.size) := Lib.hid ⟨heap_alloc_new _ _, HV8.out.lo.2.2.1⟩
              clear bl
              refine hK.out _ _ (HSA.out _ HV10.out.bel) (fun hHeld => ?_)
              clear hK K
              try simp only [Act.put, List.getElem_toArray, List.getElem_cons_succ, List.getElem_cons_zero, List.setIfInBounds_toArray, List.set_cons_zero, List.set_cons_succ]
              generalize V7.alloc (.cells #[.int .i64 0, .int .u64 0, .int .u64 0, .int .u64 0] 38) = V9 at HV10 HA12 hHeld ⊢
              generalize V7.heap.size = a11 at HA12 ⊢
              refine wpAnyH_ready (rs := [13]) (by kernel_rfl) (by simp) ?_
              refine AllReadyH.cons rfl (fun K hK => ?_) AllReadyH.nil
              · simp only [List.getElem_toArray, List.getElem_cons_succ, List.getElem_cons_zero]
                rw [if_pos (by rfl)]
                go_simp
                have bl := (Below.refl _ V9).alloc (Nat.le_refl _) (.cells #[.int .i64 0, .int .u64 0, .int .u64 0, .int .u64 0] 38)
                have HV14 := Lib.hid (HV10.out.below HY.out.1 HY.out.2.1 bl)
                have HA16 : Hid (RB2 (V9.alloc (.cells #[.int .i64 0, .int .u64 0, .int .u64 0, .int .u64 0] 38)) y' V9.heap.size) := Lib.hid ⟨heap_alloc_new _ _, HV10.out.lo.2.2.1⟩
                have HA17 := Lib.hid (HA12.out.below bl)
                have hne18 : V9.heap.size ≠ a11 := by have := HA12.out.lt; omega
                clear bl
                refine hK.out _ _ (HSA.out _ HV14.out.bel) (fun hHeld => ?_)
                clear hK K
                try simp only [Act.put, List.getElem_toArray, List.getElem_cons_succ, List.getElem_cons_zero, List.setIfInBounds_toArray, List.set_cons_zero, List.set_cons_succ]
                generalize V9.alloc (.cells #[.int .i64 0, .int .u64 0, .int .u64 0, .int .u64 0] 38) = V13 at HV14 HA16 hHeld HA17 ⊢
                generalize V9.heap.size = a15 at HA16 hne18 ⊢
                have ne45 : a11 ≠ a15 := by have := hne18; omega
                have c0 := cell_of_row V13 a11 0 _ _ (0, 0) HA17.out.box
                have c1 := cell_of_row V13 a11 1 _ _ (0, 0) HA17.out.box
                have c2 := cell_of_row V13 a11 2 _ _ (0, 0) HA17.out.box
                have c3 := cell_of_row V13 a11 3 _ _ (0, 0) HA17.out.box
                have f3 : ∀ i, V13.frozen? ⟨a11, i, none⟩ = false := fun i => by simp [World.frozen?, HA17.out.box]
                have hs := row_set4 (.int .i64 ra) (.int .u64 0) (.int .u64 0) (.int .u64 0) rfl HA17.out.box
                have HS := Lib.hid (And.intro hs.1 (And.intro ((hs.2.1 _ (Ne.symm ne45)).trans HA16.out.box) (HV14.out.setNew HY.out.1 HY.out.2.1 HA17.out.lo hs.2.1 hs.2.2 (by simp))))
                have lo5 := HA16.out.lo
                clear hs
                refine wpAnyH_ready (rs := [14]) (by kernel_rfl) (by simp) ?_
                refine AllReadyH.cons rfl (fun K hK => ?_) AllReadyH.nil
                simp only [List.getElem_toArray, List.getElem_cons_succ, List.getElem_cons_zero]
                rw [if_pos (by rfl)]
                go_simp
                refine hK.out _ _ (HSA.out _ HS.out.2.2.bel) (fun hHeld => ?_)
                clear hK K
                try simp only [Act.put, List.getElem_toArray, List.getElem_cons_succ, List.getElem_cons_zero, List.setIfInBounds_toArray, List.set_cons_zero, List.set_cons_succ]
                generalize ((((V13.setCell ⟨a11, 0, none⟩ (.int .i64 ra)).setCell ⟨a11, 1, none⟩ (.int .u64 0)).setCell ⟨a11, 2, none⟩ (.int .u64 0)).setCell ⟨a11, 3, none⟩ (.int .u64 0)) = V8 at HS hHeld ⊢
                clear c0 c1 c2 c3 f3 HV14 HA17 HA16
                have c0 := cell_of_row V8 a15 0 _ _ (0, 0) HS.out.2.1
                have c1 := cell_of_row V8 a15 1 _ _ (0, 0) HS.out.2.1
                have c2 := cell_of_row V8 a15 2 _ _ (0, 0) HS.out.2.1
                have c3 := cell_of_row V8 a15 3 _ _ (0, 0) HS.out.2.1
                have f3 : ∀ i, V8.frozen? ⟨a15, i, none⟩ = false := fun i => by simp [World.frozen?, HS.out.2.1]
                have hs := row_set4 (.int .i64 rb) (.int .u64 0) (.int .u64 0) (.int .u64 0) rfl HS.out.2.1
                have HT : Hid (FB W ((((V8.setCell ⟨a15, 0, none⟩ (.int .i64 rb)).setCell ⟨a15, 1, none⟩ (.int .u64 0)).setCell ⟨a15, 2, none⟩ (.int .u64 0)).setCell ⟨a15, 3, none⟩ (.int .u64 0)) y y' M1 M1' a11 a15 ra rb) := Lib.hid ⟨(hs.2.1 _ ne45).trans HS.out.1, hs.1, HS.out.2.2.setNew HY.out.1 HY.out.2.1 lo5 hs.2.1 hs.2.2 (by simp)⟩
                clear hs
                refine wpAnyH_ready (rs := [15]) (by kernel_rfl) (by simp) ?_
                refine AllReadyH.cons rfl (fun K hK => ?_) AllReadyH.nil
                simp only [List.getElem_toArray, List.getElem_cons_succ, List.getElem_cons_zero]
                rw [if_pos (by rfl)]
                go_simp
                refine hK.out _ _ (HSA.out _ HT.out.al.bel) (fun hHeld => ?_)
                clear hK K
                try simp only [Act.put, List.getElem_toArray, List.getElem_cons_succ, List.getElem_cons_zero, List.setIfInBounds_toArray, List.set_cons_zero, List.set_cons_succ]
                generalize ((((V8.setCell ⟨a15, 0, none⟩ (.int .i64 rb)).setCell ⟨a15, 1, none⟩ (.int .u64 0)).setCell ⟨a15, 2, none⟩ (.int .u64 0)).setCell ⟨a15, 3, none⟩ (.int .u64 0)) = V9 at HT hHeld ⊢
                clear c0 c1 c2 c3 f3 HS
                refine wpAnyH_done (by kernel_rfl) ?_ _
                go_wp2
                go_meet
                exact ⟨_, _, rfl, rfl, HT.out⟩
            · simp only [List.getElem_toArray, List.getElem_cons_succ, List.getElem_cons_zero]
              rw [if_pos (by rfl)]
              go_simp
              have bl := (Below.refl _ V7).alloc (Nat.le_refl _) (.cells #[.int .i64 0, .int .u64 0, .int .u64 0, .int .u64 0] 38)
              have HV20 := Lib.hid (HV8.out.below HY.out.1 HY.out.2.1 bl)
              have HA22 : Hid (RB2 (V7.alloc (.cells #[.int .i64 0, .int .u64 0, .int .u64 0, .int .u64 0] 38)) y' V7.heap.size) := Lib.hid ⟨heap_alloc_new _ _, HV8.out.lo.2.2.1⟩
              clear bl
              refine hK.out _ _ (HSA.out _ HV20.out.bel) (fun hHeld => ?_)
              clear hK K
              try simp only [Act.put, List.getElem_toArray, List.getElem_cons_succ, List.getElem_cons_zero, List.setIfInBounds_toArray, List.set_cons_zero, List.set_cons_succ]
              generalize V7.alloc (.cells #[.int .i64 0, .int .u64 0, .int .u64 0, .int .u64 0] 38) = V19 at HV20 HA22 hHeld ⊢
              generalize V7.heap.size = a21 at HA22 ⊢
              refine wpAnyH_ready (rs := [12]) (by kernel_rfl) (by simp) ?_
              refine AllReadyH.cons rfl (fun K hK => ?_) AllReadyH.nil
              · simp only [List.getElem_toArray, List.getElem_cons_succ, List.getElem_cons_zero]
                rw [if_pos (by rfl)]
                go_simp
                have bl := (Below.refl _ V19).alloc (Nat.le_refl _) (.cells #[.int .i64 0, .int .u64 0, .int .u64 0, .int .u64 0] 38)
                have HV24 := Lib.hid (HV20.out.below HY.out.1 HY.out.2.1 bl)
                have HA26 : Hid (RB2 (V19.alloc (.cells #[.int .i64 0, .int .u64 0, .int .u64 0, .int .u64 0] 38)) y' V19.heap.size) := Lib.hid ⟨heap_alloc_new _ _, HV20.out.lo.2.2.1⟩
                have HA27 := Lib.hid (HA22.out.below bl)
                have hne28 : V19.heap.size ≠ a21 := by have := HA22.out.lt; omega
                clear bl
                refine hK.out _ _ (HSA.out _ HV24.out.bel) (fun hHeld => ?_)
                clear hK K
                try simp only [Act.put, List.getElem_toArray, List.getElem_cons_succ, List.getElem_cons_zero, List.setIfInBounds_toArray, List.set_cons_zero, List.set_cons_succ]
                generalize V19.alloc (.cells #[.int .i64 0, .int .u64 0, .int .u64 0, .int .u64 0] 38) = V23 at HV24 HA26 hHeld HA27 ⊢
                generalize V19.heap.size = a25 at HA26 hne28 ⊢
                have ne45 : a25 ≠ a21 := by have := hne28; omega
                have c0 := cell_of_row V23 a25 0 _ _ (0, 0) HA26.out.box
                have c1 := cell_of_row V23 a25 1 _ _ (0, 0) HA26.out.box
                have c2 := cell_of_row V23 a25 2 _ _ (0, 0) HA26.out.box
                have c3 := cell_of_row V23 a25 3 _ _ (0, 0) HA26.out.box
                have f3 : ∀ i, V23.frozen? ⟨a25, i, none⟩ = false := fun i => by simp [World.frozen?, HA26.out.box]
                have hs := row_set4 (.int .i64 ra) (.int .u64 0) (.int .u64 0) (.int .u64 0) rfl HA26.out.box
                have HS := Lib.hid (And.intro hs.1 (And.intro ((hs.2.1 _ (Ne.symm ne45)).trans HA27.out.box) (HV24.out.setNew HY.out.1 HY.out.2.1 HA26.out.lo hs.2.1 hs.2.2 (by simp))))
                have lo5 := HA27.out.lo
                clear hs
                refine wpAnyH_ready (rs := [14]) (by kernel_rfl) (by simp) ?_
                refine AllReadyH.cons rfl (fun K hK => ?_) AllReadyH.nil
                simp only [List.getElem_toArray, List.getElem_cons_succ, List.getElem_cons_zero]
                rw [if_pos (by rfl)]
                go_simp
                refine hK.out _ _ (HSA.out _ HS.out.2.2.bel) (fun hHeld => ?_)
                clear hK K
                try simp only [Act.put, List.getElem_toArray, List.getElem_cons_succ, List.getElem_cons_zero, List.setIfInBounds_toArray, List.set_cons_zero, List.set_cons_succ]
                generalize ((((V23.setCell ⟨a25, 0, none⟩ (.int .i64 ra)).setCell ⟨a25, 1, none⟩ (.int .u64 0)).setCell ⟨a25, 2, none⟩ (.int .u64 0)).setCell ⟨a25, 3, none⟩ (.int .u64 0)) = V8 at HS hHeld ⊢
                clear c0 c1 c2 c3 f3 HV24 HA26 HA27
                have c0 := cell_of_row V8 a21 0 _ _ (0, 0) HS.out.2.1
                have c1 := cell_of_row V8 a21 1 _ _ (0, 0) HS.out.2.1
                have c2 := cell_of_row V8 a21 2 _ _ (0, 0) HS.out.2.1
                have c3 := cell_of_row V8 a21 3 _ _ (0, 0) HS.out.2.1
                have f3 : ∀ i, V8.frozen? ⟨a21, i, none⟩ = false := fun i => by simp [World.frozen?, HS.out.2.1]
                have hs := row_set4 (.int .i64 rb) (.int .u64 0) (.int .u64 0) (.int .u64 0) rfl HS.out.2.1
                have HT : Hid (FB W ((((V8.setCell ⟨a21, 0, none⟩ (.int .i64 rb)).setCell ⟨a21, 1, none⟩ (.int .u64 0)).setCell ⟨a21, 2, none⟩ (.int .u64 0)).setCell ⟨a21, 3, none⟩ (.int .u64 0)) y y' M1 M1' a25 a21 ra rb) := Lib.hid ⟨(hs.2.1 _ ne45).trans HS.out.1, hs.1, HS.out.2.2.setNew HY.out.1 HY.out.2.1 lo5 hs.2.1 hs.2.2 (by simp)⟩
                clear hs
                refine wpAnyH_ready (rs := [15]) (by kernel_rfl) (by simp) ?_
                refine AllReadyH.cons rfl (fun K hK => ?_) AllReadyH.nil
                simp only [List.getElem_toArray, List.getElem_cons_succ, List.getElem_cons_zero]
                rw [if_pos (by rfl)]
                go_simp
                refine hK.out _ _ (HSA.out _ HT.out.al.bel) (fun hHeld => ?_)
                clear hK K
                try simp only [Act.put, List.getElem_toArray, List.getElem_cons_succ, List.getElem_cons_zero, List.setIfInBounds_toArray, List.set_cons_zero, List.set_cons_succ]
                generalize ((((V8.setCell ⟨a21, 0, none⟩ (.int .i64 rb)).setCell ⟨a21, 1, none⟩ (.int .u64 0)).setCell ⟨a21, 2, none⟩ (.int .u64 0)).setCell ⟨a21, 3, none⟩ (.int .u64 0)) = V9 at HT hHeld ⊢
                clear c0 c1 c2 c3 f3 HS
                refine wpAnyH_done (by kernel_rfl) ?_ _
                go_wp2
                go_meet
                exact ⟨_, _, rfl, rfl, HT.out⟩
          · simp only [List.getElem_toArray, List.getElem_cons_succ, List.getElem_cons_zero]
            rw [if_pos (by rfl)]
            go_simp
            have bl := (Below.refl _ V5).alloc (Nat.le_refl _) (.cells #[.int .i64 0, .int .u64 0, .int .u64 0, .int .u64 0] 38)
            have HV30 := Lib.hid (HV6.out.below HY.out.1 HY.out.2.1 bl)
            have HA32 : Hid (RB2 (V5.alloc (.cells #[.int .i64 0, .int .u64 0, .int .u64 0, .int .u64 0] 38)) y' V5.heap.size) := Lib.hid ⟨heap_alloc_new _ _, HV6.out.lo.2.2.1⟩
            clear bl
            refine hK.out _ _ (HSA.out _ HV30.out.bel) (fun hHeld => ?_)
            clear hK K
            try simp only [Act.put, List.getElem_toArray, List.getElem_cons_succ, List.getElem_cons_zero, List.setIfInBounds_toArray, List.set_cons_zero, List.set_cons_succ]
            generalize V5.alloc (.cells #[.int .i64 0, .int .u64 0, .int .u64 0, .int .u64 0] 38) = V29 at HV30 HA32 hHeld ⊢
            generalize V5.heap.size = a31 at HA32 ⊢
            refine wpAnyH_ready (rs := [11, 13]) (by kernel_rfl) (by simp) ?_
            refine AllReadyH.cons rfl (fun K hK => ?_) (AllReadyH.cons rfl (fun K hK => ?_) AllReadyH.nil)
            · simp only [List.getElem_toArray, List.getElem_cons_succ, List.getElem_cons_zero]
              rw [if_pos (by rfl)]
              go_simp
              refine (HD2.out V29 HV30.out).mono ?_
              rintro _ V33 ⟨rfl, hal, hfar⟩
              have HV34 := Lib.hid hal
              have HA35 := Lib.hid (HA32.out.far hfar)
              clear hal hfar
              go_wp2_with fail
              refine hK.out _ _ (HSA.out _ HV34.out.bel) (fun hHeld => ?_)
              clear hK K
              try simp only [Act.put, List.getElem_toArray, List.getElem_cons_succ, List.getElem_cons_zero, List.setIfInBounds_toArray, List.set_cons_zero, List.set_cons_succ]
              refine wpAnyH_ready (rs := [13]) (by kernel_rfl) (by simp) ?_
              refine AllReadyH.cons rfl (fun K hK => ?_) AllReadyH.nil
              · simp only [List.getElem_toArray, List.getElem_cons_succ, List.getElem_cons_zero]
                rw [if_pos (by rfl)]
                go_simp
                have bl := (Below.refl _ V33).alloc (Nat.le_refl _) (.cells #[.int .i64 0, .int .u64 0, .int .u64 0, .int .u64 0] 38)
                have HV37 := Lib.hid (HV34.out.below HY.out.1 HY.out.2.1 bl)
                have HA39 : Hid (RB2 (V33.alloc (.cells #[.int .i64 0, .int .u64 0, .int .u64 0, .int .u64 0] 38)) y' V33.heap.size) := Lib.hid ⟨heap_alloc_new _ _, HV34.out.lo.2.2.1⟩
                have HA40 := Lib.hid (HA35.out.below bl)
                have hne41 : V33.heap.size ≠ a31 := by have := HA35.out.lt; omega
                clear bl
                refine hK.out _ _ (HSA.out _ HV37.out.bel) (fun hHeld => ?_)
                clear hK K
                try simp only [Act.put, List.getElem_toArray, List.getElem_cons_succ, List.getElem_cons_zero, List.setIfInBounds_toArray, List.set_cons_zero, List.set_cons_succ]
                generalize V33.alloc (.cells #[.int .i64 0, .int .u64 0, .int .u64 0, .int .u64 0] 38) = V36 at HV37 HA39 hHeld HA40 ⊢
                generalize V33.heap.size = a38 at HA39 hne41 ⊢
                have ne45 : a31 ≠ a38 := by have := hne41; omega
                have c0 := cell_of_row V36 a31 0 _ _ (0, 0) HA40.out.box
                have c1 := cell_of_row V36 a31 1 _ _ (0, 0) HA40.out.box
                have c2 := cell_of_row V36 a31 2 _ _ (0, 0) HA40.out.box
                have c3 := cell_of_row V36 a31 3 _ _ (0, 0) HA40.out.box
                have f3 : ∀ i, V36.frozen? ⟨a31, i, none⟩ = false := fun i => by simp [World.frozen?, HA40.out.box]
                have hs := row_set4 (.int .i64 ra) (.int .u64 0) (.int .u64 0) (.int .u64 0) rfl HA40.out.box
                have HS := Lib.hid (And.intro hs.1 (And.intro ((hs.2.1 _ (Ne.symm ne45)).trans HA39.out.box) (HV37.out.setNew HY.out.1 HY.out.2.1 HA40.out.lo hs.2.1 hs.2.2 (by simp))))
                have lo5 := HA39.out.lo
                clear hs
                refine wpAnyH_ready (rs := [14]) (by kernel_rfl) (by simp) ?_
                refine AllReadyH.cons rfl (fun K hK => ?_) AllReadyH.nil
                simp only [List.getElem_toArray, List.getElem_cons_succ, List.getElem_cons_zero]
                rw [if_pos (by rfl)]
                go_simp
                refine hK.out _ _ (HSA.out _ HS.out.2.2.bel) (fun hHeld => ?_)
                clear hK K
                try simp only [Act.put, List.getElem_toArray, List.getElem_cons_succ, List.getElem_cons_zero, List.setIfInBounds_toArray, List.set_cons_zero, List.set_cons_succ]
                generalize ((((V36.setCell ⟨a31, 0, none⟩ (.int .i64 ra)).setCell ⟨a31, 1, none⟩ (.int .u64 0)).setCell ⟨a31, 2, none⟩ (.int .u64 0)).setCell ⟨a31, 3, none⟩ (.int .u64 0)) = V8 at HS hHeld ⊢
                clear c0 c1 c2 c3 f3 HV37 HA40 HA39
                have c0 := cell_of_row V8 a38 0 _ _ (0, 0) HS.out.2.1
                have c1 := cell_of_row V8 a38 1 _ _ (0, 0) HS.out.2.1
                have c2 := cell_of_row V8 a38 2 _ _ (0, 0) HS.out.2.1
                have c3 := cell_of_row V8 a38 3 _ _ (0, 0) HS.out.2.1
                have f3 : ∀ i, V8.frozen? ⟨a38, i, none⟩ = false := fun i => by simp [World.frozen?, HS.out.2.1]
                have hs := row_set4 (.int .i64 rb) (.int .u64 0) (.int .u64 0) (.int .u64 0) rfl HS.out.2.1
                have HT : Hid (FB W ((((V8.setCell ⟨a38, 0, none⟩ (.int .i64 rb)).setCell ⟨a38, 1, none⟩ (.int .u64 0)).setCell ⟨a38, 2, none⟩ (.int .u64 0)).setCell ⟨a38, 3, none⟩ (.int .u64 0)) y y' M1 M1' a31 a38 ra rb) := Lib.hid ⟨(hs.2.1 _ ne45).trans HS.out.1, hs.1, HS.out.2.2.setNew HY.out.1 HY.out.2.1 lo5 hs.2.1 hs.2.2 (by simp)⟩
                clear hs
                refine wpAnyH_ready (rs := [15]) (by kernel_rfl) (by simp) ?_
                refine AllReadyH.cons rfl (fun K hK => ?_) AllReadyH.nil
                simp only [List.getElem_toArray, List.getElem_cons_succ, List.getElem_cons_zero]
                rw [if_pos (by rfl)]
                go_simp
                refine hK.out _ _ (HSA.out _ HT.out.al.bel) (fun hHeld => ?_)
                clear hK K
                try simp only [Act.put, List.getElem_toArray, List.getElem_cons_succ, List.getElem_cons_zero, List.setIfInBounds_toArray, List.set_cons_zero, List.set_cons_succ]
                generalize ((((V8.setCell ⟨a38, 0, none⟩ (.int .i64 rb)).setCell ⟨a38, 1, none⟩ (.int .u64 0)).setCell ⟨a38, 2, none⟩ (.int .u64 0)).setCell ⟨a38, 3, none⟩ (.int .u64 0)) = V9 at HT hHeld ⊢
                clear c0 c1 c2 c3 f3 HS
                refine wpAnyH_done (by kernel_rfl) ?_ _
                go_wp2
                go_meet
                exact ⟨_, _, rfl, rfl, HT.out⟩
            · simp only [List.getElem_toArray, List.getElem_cons_succ, List.getElem_cons_zero]
              rw [if_pos (by rfl)]
              go_simp
              have bl := (Below.refl _ V29).alloc (Nat.le_refl _) (.cells #[.int .i64 0, .int .u64 0, .int .u64 0, .int .u64 0] 38)
              have HV43 := Lib.hid (HV30.out.below HY.out.1 HY.out.2.1 bl)
              have HA45 : Hid (RB2 (V29.alloc (.cells #[.int .i64 0, .int .u64 0, .int .u64 0, .int .u64 0] 38)) y' V29.heap.size) := Lib.hid ⟨heap_alloc_new _ _, HV30.out.lo.2.2.1⟩
              have HA46 := Lib.hid (HA32.out.below bl)
              have hne47 : V29.heap.size ≠ a31 := by have := HA32.out.lt; omega
              clear bl
              refine hK.out _ _ (HSA.out _ HV43.out.bel) (fun hHeld => ?_)
              clear hK K
              try simp only [Act.put, List.getElem_toArray, List.getElem_cons_succ, List.getElem_cons_zero, List.setIfInBounds_toArray, List.set_cons_zero, List.set_cons_succ]
              generalize V29.alloc (.cells #[.int .i64 0, .int .u64 0, .int .u64 0, .int .u64 0] 38) = V42 at HV43 HA45 hHeld HA46 ⊢
              generalize V29.heap.size = a44 at HA45 hne47 ⊢
              refine wpAnyH_ready (rs := [11]) (by kernel_rfl) (by simp) ?_
              refine AllReadyH.cons rfl (fun K hK => ?_) AllReadyH.nil
              · simp only [List.getElem_toArray, List.getElem_cons_succ, List.getElem_cons_zero]
                rw [if_pos (by rfl)]
                go_simp
                refine (HD2.out V42 HV43.out).mono ?_
                rintro _ V48 ⟨rfl, hal, hfar⟩
                have HV49 := Lib.hid hal
                have HA50 := Lib.hid (HA46.out.far hfar)
                have HA51 := Lib.hid (HA45.out.far hfar)
                clear hal hfar
                go_wp2_with fail
                refine hK.out _ _ (HSA.out _ HV49.out.bel) (fun hHeld => ?_)
                clear hK K
                try simp only [Act.put, List.getElem_toArray, List.getElem_cons_succ, List.getElem_cons_zero, List.setIfInBounds_toArray, List.set_cons_zero, List.set_cons_succ]
                have ne45 : a31 ≠ a44 := by have := hne47; omega
                have c0 := cell_of_row V48 a31 0 _ _ (0, 0) HA50.out.box
                have c1 := cell_of_row V48 a31 1 _ _ (0, 0) HA50.out.box
                have c2 := cell_of_row V48 a31 2 _ _ (0, 0) HA50.out.box
                have c3 := cell_of_row V48 a31 3 _ _ (0, 0) HA50.out.box
                have f3 : ∀ i, V48.frozen? ⟨a31, i, none⟩ = false := fun i => by simp [World.frozen?, HA50.out.box]
                have hs := row_set4 (.int .i64 ra) (.int .u64 0) (.int .u64 0) (.int .u64 0) rfl HA50.out.box
                have HS := Lib.hid (And.intro hs.1 (And.intro ((hs.2.1 _ (Ne.symm ne45)).trans HA51.out.box) (HV49.out.setNew HY.out.1 HY.out.2.1 HA50.out.lo hs.2.1 hs.2.2 (by simp))))
                have lo5 := HA51.out.lo
                clear hs
                refine wpAnyH_ready (rs := [14]) (by kernel_rfl) (by simp) ?_
                refine AllReadyH.cons rfl (fun K hK => ?_) AllReadyH.nil
                simp only [List.getElem_toArray, List.getElem_cons_succ, List.getElem_cons_zero]
                rw [if_pos (by rfl)]
                go_simp
                refine hK.out _ _ (HSA.out _ HS.out.2.2.bel) (fun hHeld => ?_)
                clear hK K
                try simp only [Act.put, List.getElem_toArray, List.getElem_cons_succ, List.getElem_cons_zero, List.setIfInBounds_toArray, List.set_cons_zero, List.set_cons_succ]
                generalize ((((V48.setCell ⟨a31, 0, none⟩ (.int .i64 ra)).setCell ⟨a31, 1, none⟩ (.int .u64 0)).setCell ⟨a31, 2, none⟩ (.int .u64 0)).setCell ⟨a31, 3, none⟩ (.int .u64 0)) = V8 at HS hHeld ⊢
                clear c0 c1 c2 c3 f3 HV49 HA50 HA51
                have c0 := cell_of_row V8 a44 0 _ _ (0, 0) HS.out.2.1
                have c1 := cell_of_row V8 a44 1 _ _ (0, 0) HS.out.2.1
                have c2 := cell_of_row V8 a44 2 _ _ (0, 0) HS.out.2.1
                have c3 := cell_of_row V8 a44 3 _ _ (0, 0) HS.out.2.1
                have f3 : ∀ i, V8.frozen? ⟨a44, i, none⟩ = false := fun i => by simp [World.frozen?, HS.out.2.1]
                have hs := row_set4 (.int .i64 rb) (.int .u64 0) (.int .u64 0) (.int .u64 0) rfl HS.out.2.1
                have HT : Hid (FB W ((((V8.setCell ⟨a44, 0, none⟩ (.int .i64 rb)).setCell ⟨a44, 1, none⟩ (.int .u64 0)).setCell ⟨a44, 2, none⟩ (.int .u64 0)).setCell ⟨a44, 3, none⟩ (.int .u64 0)) y y' M1 M1' a31 a44 ra rb) := Lib.hid ⟨(hs.2.1 _ ne45).trans HS.out.1, hs.1, HS.out.2.2.setNew HY.out.1 HY.out.2.1 lo5 hs.2.1 hs.2.2 (by simp)⟩
                clear hs
                refine wpAnyH_ready (rs := [15]) (by kernel_rfl) (by simp) ?_
                refine AllReadyH.cons rfl (fun K hK => ?_) AllReadyH.nil
                simp only [List.getElem_toArray, List.getElem_cons_succ, List.getElem_cons_zero]
                rw [if_pos (by rfl)]
                go_simp
                refine hK.out _ _ (HSA.out _ HT.out.al.bel) (fun hHeld => ?_)
                clear hK K
                try simp only [Act.put, List.getElem_toArray, List.getElem_cons_succ, List.getElem_cons_zero, List.setIfInBounds_toArray, List.set_cons_zero, List.set_cons_succ]
                generalize ((((V8.setCell ⟨a44, 0, none⟩ (.int .i64 rb)).setCell ⟨a44, 1, none⟩ (.int .u64 0)).setCell ⟨a44, 2, none⟩ (.int .u64 0)).setCell ⟨a44, 3, none⟩ (.int .u64 0)) = V9 at HT hHeld ⊢
                clear c0 c1 c2 c3 f3 HS
                refine wpAnyH_done (by kernel_rfl) ?_ _
                go_wp2
                go_meet
                exact ⟨_, _, rfl, rfl, HT.out⟩
          · simp only [List.getElem_toArray, List.getElem_cons_succ, List.getElem_cons_zero]
            rw [if_pos (by rfl)]
            go_simp
            have bl := (Below.refl _ V5).alloc (Nat.le_refl _) (.cells #[.int .i64 0, .int .u64 0, .int .u64 0, .int .u64 0] 38)
            have HV53 := Lib.hid (HV6.out.below HY.out.1 HY.out.2.1 bl)
            have HA55 : Hid (RB2 (V5.alloc (.cells #[.int .i64 0, .int .u64 0, .int .u64 0, .int .u64 0] 38)) y' V5.heap.size) := Lib.hid ⟨heap_alloc_new _ _, HV6.out.lo.2.2.1⟩
            clear bl
            refine hK.out _ _ (HSA.out _ HV53.out.bel) (fun hHeld => ?_)
            clear hK K
            try simp only [Act.put, List.getElem_toArray, List.getElem_cons_succ, List.getElem_cons_zero, List.setIfInBounds_toArray, List.set_cons_zero, List.set_cons_succ]
            generalize V5.alloc (.cells #[.int .i64 0, .int .u64 0, .int .u64 0, .int .u64 0] 38) = V52 at HV53 HA55 hHeld ⊢
            generalize V5.heap.size = a54 at HA55 ⊢
            refine wpAnyH_ready (rs := [11, 12]) (by kernel_rfl) (by simp) ?_
            refine AllReadyH.cons rfl (fun K hK => ?_) (AllReadyH.cons rfl (fun K hK => ?_) AllReadyH.nil)
            · simp only [List.getElem_toArray, List.getElem_cons_succ, List.getElem_cons_zero]
              rw [if_pos (by rfl)]
              go_simp
              refine (HD2.out V52 HV53.out).mono ?_
              rintro _ V56 ⟨rfl, hal, hfar⟩
              have HV57 := Lib.hid hal
              have HA58 := Lib.hid (HA55.out.far hfar)
              clear hal hfar
              go_wp2_with fail
              refine hK.out _ _ (HSA.out _ HV57.out.bel) (fun hHeld => ?_)
              clear hK K
              try simp only [Act.put, List.getElem_toArray, List.getElem_cons_succ, List.getElem_cons_zero, List.setIfInBounds_toArray, List.set_cons_zero, List.set_cons_succ]
              refine wpAnyH_ready (rs := [12]) (by kernel_rfl) (by simp) ?_
              refine AllReadyH.cons rfl (fun K hK => ?_) AllReadyH.nil
              · simp only [List.getElem_toArray, List.getElem_cons_succ, List.getElem_cons_zero]
                rw [if_pos (by rfl)]
                go_simp
                have bl := (Below.refl _ V56).alloc (Nat.le_refl _) (.cells #[.int .i64 0, .int .u64 0, .int .u64 0, .int .u64 0] 38)
                have HV60 := Lib.hid (HV57.out.below HY.out.1 HY.out.2.1 bl)
                have HA62 : Hid (RB2 (V56.alloc (.cells #[.int .i64 0, .int .u64 0, .int .u64 0, .int .u64 0] 38)) y' V56.heap.size) := Lib.hid ⟨heap_alloc_new _ _, HV57.out.lo.2.2.1⟩
                have HA63 := Lib.hid (HA58.out.below bl)
                have hne64 : V56.heap.size ≠ a54 := by have := HA58.out.lt; omega
                clear bl
                refine hK.out _ _ (HSA.out _ HV60.out.bel) (fun hHeld => ?_)
                clear hK K
                try simp only [Act.put, List.getElem_toArray, List.getElem_cons_succ, List.getElem_cons_zero, List.setIfInBounds_toArray, List.set_cons_zero, List.set_cons_succ]
                generalize V56.alloc (.cells #[.int .i64 0, .int .u64 0, .int .u64 0, .int .u64 0] 38) = V59 at HV60 HA62 hHeld HA63 ⊢
                generalize V56.heap.size = a61 at HA62 hne64 ⊢
                have ne45 : a61 ≠ a54 := by have := hne64; omega
                have c0 := cell_of_row V59 a61 0 _ _ (0, 0) HA62.out.box
                have c1 := cell_of_row V59 a61 1 _ _ (0, 0) HA62.out.box
                have c2 := cell_of_row V59 a61 2 _ _ (0, 0) HA62.out.box
                have c3 := cell_of_row V59 a61 3 _ _ (0, 0) HA62.out.box
                have f3 : ∀ i, V59.frozen? ⟨a61, i, none⟩ = false := fun i => by simp [World.frozen?, HA62.out.box]
                have hs := row_set4 (.int .i64 ra) (.int .u64 0) (.int .u64 0) (.int .u64 0) rfl HA62.out.box
                have HS := Lib.hid (And.intro hs.1 (And.intro ((hs.2.1 _ (Ne.symm ne45)).trans HA63.out.box) (HV60.out.setNew HY.out.1 HY.out.2.1 HA62.out.lo hs.2.1 hs.2.2 (by simp))))
                have lo5 := HA63.out.lo
                clear hs
                refine wpAnyH_ready (rs := [14]) (by kernel_rfl) (by simp) ?_
                refine AllReadyH.cons rfl (fun K hK => ?_) AllReadyH.nil
                simp only [List.getElem_toArray, List.getElem_cons_succ, List.getElem_cons_zero]
                rw [if_pos (by rfl)]
                go_simp
                refine hK.out _ _ (HSA.out _ HS.out.2.2.bel) (fun hHeld => ?_)
                clear hK K
                try simp only [Act.put, List.getElem_toArray, List.getElem_cons_succ, List.getElem_cons_zero, List.setIfInBounds_toArray, List.set_cons_zero, List.set_cons_succ]
                generalize ((((V59.setCell ⟨a61, 0, none⟩ (.int .i64 ra)).setCell ⟨a61, 1, none⟩ (.int .u64 0)).setCell ⟨a61, 2, none⟩ (.int .u64 0)).setCell ⟨a61, 3, none⟩ (.int .u64 0)) = V8 at HS hHeld ⊢
                clear c0 c1 c2 c3 f3 HV60 HA62 HA63
                have c0 := cell_of_row V8 a54 0 _ _ (0, 0) HS.out.2.1
                have c1 := cell_of_row V8 a54 1 _ _ (0, 0) HS.out.2.1
                have c2 := cell_of_row V8 a54 2 _ _ (0, 0) HS.out.2.1
                have c3 := cell_of_row V8 a54 3 _ _ (0, 0) HS.out.2.1
                have f3 : ∀ i, V8.frozen? ⟨a54, i, none⟩ = false := fun i => by simp [World.frozen?, HS.out.2.1]
                have hs := row_set4 (.int .i64 rb) (.int .u64 0) (.int .u64 0) (.int .u64 0) rfl HS.out.2.1
                have HT : Hid (FB W ((((V8.setCell ⟨a54, 0, none⟩ (.int .i64 rb)).setCell ⟨a54, 1, none⟩ (.int .u64 0)).setCell ⟨a54, 2, none⟩ (.int .u64 0)).setCell ⟨a54, 3, none⟩ (.int .u64 0)) y y' M1 M1' a61 a54 ra rb) := Lib.hid ⟨(hs.2.1 _ ne45).trans HS.out.1, hs.1, HS.out.2.2.setNew HY.out.1 HY.out.2.1 lo5 hs.2.1 hs.2.2 (by simp)⟩
                clear hs
                refine wpAnyH_ready (rs := [15]) (by kernel_rfl) (by simp) ?_
                refine AllReadyH.cons rfl (fun K hK => ?_) AllReadyH.nil
                simp only [List.getElem_toArray, List.getElem_cons_succ, List.getElem_cons_zero]
                rw [if_pos (by rfl)]
                go_simp
                refine hK.out _ _ (HSA.out _ HT.out.al.bel) (fun hHeld => ?_)
                clear hK K
                try simp only [Act.put, List.getElem_toArray, List.getElem_cons_succ, List.getElem_cons_zero, List.setIfInBounds_toArray, List.set_cons_zero, List.set_cons_succ]
                generalize ((((V8.setCell ⟨a54, 0, none⟩ (.int .i64 rb)).setCell ⟨a54, 1, none⟩ (.int .u64 0)).setCell ⟨a54, 2, none⟩ (.int .u64 0)).setCell ⟨a54, 3, none⟩ (.int .u64 0)) = V9 at HT hHeld ⊢
                clear c0 c1 c2 c3 f3 HS
                refine wpAnyH_done (by kernel_rfl) ?_ _
                go_wp2
                go_meet
                exact ⟨_, _, rfl, rfl, HT.out⟩
            · simp only [List.getElem_toArray, List.getElem_cons_succ, List.getElem_cons_zero]
              rw [if_pos (by rfl)]
              go_simp
              have bl := (Below.refl _ V52).alloc (Nat.le_refl _) (.cells #[.int .i64 0, .int .u64 0, .int .u64 0, .int .u64 0] 38)
              have HV66 := Lib.hid (HV53.out.below HY.out.1 HY.out.2.1 bl)
              have HA68 : Hid (RB2 (V52.alloc (.cells #[.int .i64 0, .int .u64 0, .int .u64 0, .int .u64 0] 38)) y' V52.heap.size) := Lib.hid ⟨heap_alloc_new _ _, HV53.out.lo.2.2.1⟩
              have HA69 := Lib.hid (HA55.out.below bl)
              have hne70 : V52.heap.size ≠ a54 := by have := HA55.out.lt; omega
              clear bl
              refine hK.out _ _ (HSA.out _ HV66.out.bel) (fun hHeld => ?_)
              clear hK K
              try simp only [Act.put, List.getElem_toArray, List.getElem_cons_succ, List.getElem_cons_zero, List.setIfInBounds_toArray, List.set_cons_zero, List.set_cons_succ]
              generalize V52.alloc (.cells #[.int .i64 0, .int .u64 0, .int .u64 0, .int .u64 0] 38) = V65 at HV66 HA68 hHeld HA69 ⊢
              generalize V52.heap.size = a67 at HA68 hne70 ⊢
              refine wpAnyH_ready (rs := [11]) (by kernel_rfl) (by simp) ?_
              refine AllReadyH.cons rfl (fun K hK => ?_) AllReadyH.nil
              · simp only [List.getElem_toArray, List.getElem_cons_succ, List.getElem_cons_zero]
                rw [if_pos (by rfl)]
                go_simp
                refine (HD2.out V65 HV66.out).mono ?_
                rintro _ V71 ⟨rfl, hal, hfar⟩
                have HV72 := Lib.hid hal
                have HA73 := Lib.hid (HA68.out.far hfar)
                have HA74 := Lib.hid (HA69.out.far hfar)
                clear hal hfar
                go_wp2_with fail
                refine hK.out _ _ (HSA.out _ HV72.out.bel) (fun hHeld => ?_)
                clear hK K
                try simp only [Act.put, List.getElem_toArray, List.getElem_cons_succ, List.getElem_cons_zero, List.setIfInBounds_toArray, List.set_cons_zero, List.set_cons_succ]
                have ne45 : a67 ≠ a54 := by have := hne70; omega
                have c0 := cell_of_row V71 a67 0 _ _ (0, 0) HA73.out.box
                have c1 := cell_of_row V71 a67 1 _ _ (0, 0) HA73.out.box
                have c2 := cell_of_row V71 a67 2 _ _ (0, 0) HA73.out.box
                have c3 := cell_of_row V71 a67 3 _ _ (0, 0) HA73.out.box
                have f3 : ∀ i, V71.frozen? ⟨a67, i, none⟩ = false := fun i => by simp [World.frozen?, HA73.out.box]
                have hs := row_set4 (.int .i64 ra) (.int .u64 0) (.int .u64 0) (.int .u64 0) rfl HA73.out.box
                have HS := Lib.hid (And.intro hs.1 (And.intro ((hs.2.1 _ (Ne.symm ne45)).trans HA74.out.box) (HV72.out.setNew HY.out.1 HY.out.2.1 HA73.out.lo hs.2.1 hs.2.2 (by simp))))
                have lo5 := HA74.out.lo
                clear hs
                refine wpAnyH_ready (rs := [14]) (by kernel_rfl) (by simp) ?_
                refine AllReadyH.cons rfl (fun K hK => ?_) AllReadyH.nil
                simp only [List.getElem_toArray, List.getElem_cons_succ, List.getElem_cons_zero]
                rw [if_pos (by rfl)]
                go_simp
                refine hK.out _ _ (HSA.out _ HS.out.2.2.bel) (fun hHeld => ?_)
                clear hK K
                try simp only [Act.put, List.getElem_toArray, List.getElem_cons_succ, List.getElem_cons_zero, List.setIfInBounds_toArray, List.set_cons_zero, List.set_cons_succ]
                generalize ((((V71.setCell ⟨a67, 0, none⟩ (.int .i64 ra)).setCell ⟨a67, 1, none⟩ (.int .u64 0)).setCell ⟨a67, 2, none⟩ (.int .u64 0)).setCell ⟨a67, 3, none⟩ (.int .u64 0)) = V8 at HS hHeld ⊢
                clear c0 c1 c2 c3 f3 HV72 HA73 HA74
                have c0 := cell_of_row V8 a54 0 _ _ (0, 0) HS.out.2.1
                have c1 := cell_of_row V8 a54 1 _ _ (0, 0) HS.out.2.1
                have c2 := cell_of_row V8 a54 2 _ _ (0, 0) HS.out.2.1
                have c3 := cell_of_row V8 a54 3 _ _ (0, 0) HS.out.2.1
                have f3 : ∀ i, V8.frozen? ⟨a54, i, none⟩ = false := fun i => by simp [World.frozen?, HS.out.2.1]
                have hs := row_set4 (.int .i64 rb) (.int .u64 0) (.int .u64 0) (.int .u64 0) rfl HS.out.2.1
                have HT : Hid (FB W ((((V8.setCell ⟨a54, 0, none⟩ (.int .i64 rb)).setCell ⟨a54, 1, none⟩ (.int .u64 0)).setCell ⟨a54, 2, none⟩ (.int .u64 0)).setCell ⟨a54, 3, none⟩ (.int .u64 0)) y y' M1 M1' a67 a54 ra rb) := Lib.hid ⟨(hs.2.1 _ ne45).trans HS.out.1, hs.1, HS.out.2.2.setNew HY.out.1 HY.out.2.1 lo5 hs.2.1 hs.2.2 (by simp)⟩
                clear hs
                refine wpAnyH_ready (rs := [15]) (by kernel_rfl) (by simp) ?_
                refine AllReadyH.cons rfl (fun K hK => ?_) AllReadyH.nil
                simp only [List.getElem_toArray, List.getElem_cons_succ, List.getElem_cons_zero]
                rw [if_pos (by rfl)]
                go_simp
                refine hK.out _ _ (HSA.out _ HT.out.al.bel) (fun hHeld => ?_)
                clear hK K
                try simp only [Act.put, List.getElem_toArray, List.getElem_cons_succ, List.getElem_cons_zero, List.setIfInBounds_toArray, List.set_cons_zero, List.set_cons_succ]
                generalize ((((V8.setCell ⟨a54, 0, none⟩ (.int .i64 rb)).setCell ⟨a54, 1, none⟩ (.int .u64 0)).setCell ⟨a54, 2, none⟩ (.int .u64 0)).setCell ⟨a54, 3, none⟩ (.int .u64 0)) = V9 at HT hHeld ⊢
                clear c0 c1 c2 c3 f3 HS
                refine wpAnyH_done (by kernel_rfl) ?_ _
                go_wp2
                go_meet
                exact ⟨_, _, rfl, rfl, HT.out⟩
        · simp only [List.getElem_toArray, List.getElem_cons_succ, List.getElem_cons_zero]
          rw [if_pos (by rfl)]
          go_simp
          have bl := (Below.refl _ V0).alloc (Nat.le_refl _) (.cells #[.int .i64 0, .int .u64 0, .int .u64 0, .int .u64 0] 38)
          have HV76 := Lib.hid (HV0.out.below HY.out.1 HY.out.2.1 bl)
          have HA78 : Hid (RB2 (V0.alloc (.cells #[.int .i64 0, .int .u64 0, .int .u64 0, .int .u64 0] 38)) y' V0.heap.size) := Lib.hid ⟨heap_alloc_new _ _, HV0.out.lo.2.2.1⟩
          clear bl
          refine hK.out _ _ (HSA.out _ HV76.out.bel) (fun hHeld => ?_)
          clear hK K
          try simp only [Act.put, List.getElem_toArray, List.getElem_cons_succ, List.getElem_cons_zero, List.setIfInBounds_toArray, List.set_cons_zero, List.set_cons_succ]
          generalize V0.alloc (.cells #[.int .i64 0, .int .u64 0, .int .u64 0, .int .u64 0] 38) = V75 at HV76 HA78 hHeld ⊢
          generalize V0.heap.size = a77 at HA78 ⊢
          refine wpAnyH_ready (rs := [5, 13]) (by kernel_rfl) (by simp) ?_
          refine AllReadyH.cons rfl (fun K hK => ?_) (AllReadyH.cons rfl (fun K hK => ?_) AllReadyH.nil)
          · simp only [List.getElem_toArray, List.getElem_cons_succ, List.getElem_cons_zero]
            rw [if_pos (by rfl)]
            go_simp
            refine (HD1.out V75 HV76.out).mono ?_
            rintro _ V79 ⟨rfl, hal, hfar⟩
            have HV80 := Lib.hid hal
            have HA81 := Lib.hid (HA78.out.far hfar)
            clear hal hfar
            go_wp2_with fail
            refine hK.out _ _ (HSA.out _ HV80.out.bel) (fun hHeld => ?_)
            clear hK K
            try simp only [Act.put, List.getElem_toArray, List.getElem_cons_succ, List.getElem_cons_zero, List.setIfInBounds_toArray, List.set_cons_zero, List.set_cons_succ]
            refine wpAnyH_ready (rs := [11, 13]) (by kernel_rfl) (by simp) ?_
            refine AllReadyH.cons rfl (fun K hK => ?_) (AllReadyH.cons rfl (fun K hK => ?_) AllReadyH.nil)
            · simp only [List.getElem_toArray, List.getElem_cons_succ, List.getElem_cons_zero]
              rw [if_pos (by rfl)]
              go_simp
              refine (HD2.out V79 HV80.out).mono ?_
              rintro _ V82 ⟨rfl, hal, hfar⟩
              have HV83 := Lib.hid hal
              have HA84 := Lib.hid (HA81.out.far hfar)
              clear hal hfar
              go_wp2_with fail
              refine hK.out _ _ (HSA.out _ HV83.out.bel) (fun hHeld => ?_)
              clear hK K
              try simp only [Act.put, List.getElem_toArray, List.getElem_cons_succ, List.getElem_cons_zero, List.setIfInBounds_toArray, List.set_cons_zero, List.set_cons_succ]
              refine wpAnyH_ready (rs := [13]) (by kernel_rfl) (by simp) ?_
              refine AllReadyH.cons rfl (fun K hK => ?_) AllReadyH.nil
              · simp only [List.getElem_toArray, List.getElem_cons_succ, List.getElem_cons_zero]
                rw [if_pos (by rfl)]
                go_simp
                have bl := (Below.refl _ V82).alloc (Nat.le_refl _) (.cells #[.int .i64 0, .int .u64 0, .int .u64 0, .int .u64 0] 38)
                have HV86 := Lib.hid (HV83.out.below HY.out.1 HY.out.2.1 bl)
                have HA88 : Hid (RB2 (V82.alloc (.cells #[.int .i64 0, .int .u64 0, .int .u64 0, .int .u64 0] 38)) y' V82.heap.size) := Lib.hid ⟨heap_alloc_new _ _, HV83.out.lo.2.2.1⟩
                have HA89 := Lib.hid (HA84.out.below bl)
                have hne90 : V82.heap.size ≠ a77 := by have := HA84.out.lt; omega
                clear bl
                refine hK.out _ _ (HSA.out _ HV86.out.bel) (fun hHeld => ?_)
                clear hK K
                try simp only [Act.put, List.getElem_toArray, List.getElem_cons_succ, List.getElem_cons_zero, List.setIfInBounds_toArray, List.set_cons_zero, List.set_cons_succ]
                generalize V82.alloc (.cells #[.int .i64 0, .int .u64 0, .int .u64 0, .int .u64 0] 38) = V85 at HV86 HA88 hHeld HA89 ⊢
                generalize V82.heap.size = a87 at HA88 hne90 ⊢
                have ne45 : a77 ≠ a87 := by have := hne90; omega
                have c0 := cell_of_row V85 a77 0 _ _ (0, 0) HA89.out.box
                have c1 := cell_of_row V85 a77 1 _ _ (0, 0) HA89.out.box
                have c2 := cell_of_row V85 a77 2 _ _ (0, 0) HA89.out.box
                have c3 := cell_of_row V85 a77 3 _ _ (0, 0) HA89.out.box
                have f3 : ∀ i, V85.frozen? ⟨a77, i, none⟩ = false := fun i => by simp [World.frozen?, HA89.out.box]
                have hs := row_set4 (.int .i64 ra) (.int .u64 0) (.int .u64 0) (.int .u64 0) rfl HA89.out.box
                have HS := Lib.hid (And.intro hs.1 (And.intro ((hs.2.1 _ (Ne.symm ne45)).trans HA88.out.box) (HV86.out.setNew HY.out.1 HY.out.2.1 HA89.out.lo hs.2.1 hs.2.2 (by simp))))
                have lo5 := HA88.out.lo
                clear hs
                refine wpAnyH_ready (rs := [14]) (by kernel_rfl) (by simp) ?_
                refine AllReadyH.cons rfl (fun K hK => ?_) AllReadyH.nil
                simp only [List.getElem_toArray, List.getElem_cons_succ, List.getElem_cons_zero]
                rw [if_pos (by rfl)]
                go_simp
                refine hK.out _ _ (HSA.out _ HS.out.2.2.bel) (fun hHeld => ?_)
                clear hK K
                try simp only [Act.put, List.getElem_toArray, List.getElem_cons_succ, List.getElem_cons_zero, List.setIfInBounds_toArray, List.set_cons_zero, List.set_cons_succ]
                generalize ((((V85.setCell ⟨a77, 0, none⟩ (.int .i64 ra)).setCell ⟨a77, 1, none⟩ (.int .u64 0)).setCell ⟨a77, 2, none⟩ (.int .u64 0)).setCell ⟨a77, 3, none⟩ (.int .u64 0)) = V8 at HS hHeld ⊢
                clear c0 c1 c2 c3 f3 HV86 HA89 HA88
                have c0 := cell_of_row V8 a87 0 _ _ (0, 0) HS.out.2.1
                have c1 := cell_of_row V8 a87 1 _ _ (0, 0) HS.out.2.1
                have c2 := cell_of_row V8 a87 2 _ _ (0, 0) HS.out.2.1
                have c3 := cell_of_row V8 a87 3 _ _ (0, 0) HS.out.2.1
                have f3 : ∀ i, V8.frozen? ⟨a87, i, none⟩ = false := fun i => by simp [World.frozen?, HS.out.2.1]
                have hs := row_set4 (.int .i64 rb) (.int .u64 0) (.int .u64 0) (.int .u64 0) rfl HS.out.2.1
                have HT : Hid (FB W ((((V8.setCell ⟨a87, 0, none⟩ (.int .i64 rb)).setCell ⟨a87, 1, none⟩ (.int .u64 0)).setCell ⟨a87, 2, none⟩ (.int .u64 0)).setCell ⟨a87, 3, none⟩ (.int .u64 0)) y y' M1 M1' a77 a87 ra rb) := Lib.hid ⟨(hs.2.1 _ ne45).trans HS.out.1, hs.1, HS.out.2.2.setNew HY.out.1 HY.out.2.1 lo5 hs.2.1 hs.2.2 (by simp)⟩
                clear hs
                refine wpAnyH_ready (rs := [15]) (by kernel_rfl) (by simp) ?_
                refine AllReadyH.cons rfl (fun K hK => ?_) AllReadyH.nil
                simp only [List.getElem_toArray, List.getElem_cons_succ, List.getElem_cons_zero]
                rw [if_pos (by rfl)]
                go_simp
                refine hK.out _ _ (HSA.out _ HT.out.al.bel) (fun hHeld => ?_)
                clear hK K
                try simp only [Act.put, List.getElem_toArray, List.getElem_cons_succ, List.getElem_cons_zero, List.setIfInBounds_toArray, List.set_cons_zero, List.set_cons_succ]
                generalize ((((V8.setCell ⟨a87, 0, none⟩ (.int .i64 rb)).setCell ⟨a87, 1, none⟩ (.int .u64 0)).setCell ⟨a87, 2, none⟩ (.int .u64 0)).setCell ⟨a87, 3, none⟩ (.int .u64 0)) = V9 at HT hHeld ⊢
                clear c0 c1 c2 c3 f3 HS
                refine wpAnyH_done (by kernel_rfl) ?_ _
                go_wp2
                go_meet
                exact ⟨_, _, rfl, rfl, HT.out⟩
            · simp only [List.getElem_toArray, List.getElem_cons_succ, List.getElem_cons_zero]
              rw [if_pos (by rfl)]
              go_simp
              have bl := (Below.refl _ V79).alloc (Nat.le_refl _) (.cells #[.int .i64 0, .int .u64 0, .int .u64 0, .int .u64 0] 38)
              have HV92 := Lib.hid (HV80.out.below HY.out.1 HY.out.2.1 bl)
              have HA94 : Hid (RB2 (V79.alloc (.cells #[.int .i64 0, .int .u64 0, .int .u64 0, .int .u64 0] 38)) y' V79.heap.size) := Lib.hid ⟨heap_alloc_new _ _, HV80.out.lo.2.2.1⟩
              have HA95 := Lib.hid (HA81.out.below bl)
              have hne96 : V79.heap.size ≠ a77 := by have := HA81.out.lt; omega
              clear bl
              refine hK.out _ _ (HSA.out _ HV92.out.bel) (fun hHeld => ?_)
              clear hK K
              try simp only [Act.put, List.getElem_toArray, List.getElem_cons_succ, List.getElem_cons_zero, List.setIfInBounds_toArray, List.set_cons_zero, List.set_cons_succ]
              generalize V79.alloc (.cells #[.int .i64 0, .int .u64 0, .int .u64 0, .int .u64 0] 38) = V91 at HV92 HA94 hHeld HA95 ⊢
              generalize V79.heap.size = a93 at HA94 hne96 ⊢
              refine wpAnyH_ready (rs := [11]) (by kernel_rfl) (by simp) ?_
              refine AllReadyH.cons rfl (fun K hK => ?_) AllReadyH.nil
              · simp only [List.getElem_toArray, List.getElem_cons_succ, List.getElem_cons_zero]
                rw [if_pos (by rfl)]
                go_simp
                refine (HD2.out V91 HV92.out).mono ?_
                rintro _ V97 ⟨rfl, hal, hfar⟩
                have HV98 := Lib.hid hal
                have HA99 := Lib.hid (HA95.out.far hfar)
                have HA100 := Lib.hid (HA94.out.far hfar)
                clear hal hfar
                go_wp2_with fail
                refine hK.out _ _ (HSA.out _ HV98.out.bel) (fun hHeld => ?_)
                clear hK K
                try simp only [Act.put, List.getElem_toArray, List.getElem_cons_succ, List.getElem_cons_zero, List.setIfInBounds_toArray, List.set_cons_zero, List.set_cons_succ]
                have ne45 : a77 ≠ a93 := by have := hne96; omega
                have c0 := cell_of_row V97 a77 0 _ _ (0, 0) HA99.out.box
                have c1 := cell_of_row V97 a77 1 _ _ (0, 0) HA99.out.box
                have c2 := cell_of_row V97 a77 2 _ _ (0, 0) HA99.out.box
                have c3 := cell_of_row V97 a77 3 _ _ (0, 0) HA99.out.box
                have f3 : ∀ i, V97.frozen? ⟨a77, i, none⟩ = false := fun i => by simp [World.frozen?, HA99.out.box]
                have hs := row_set4 (.int .i64 ra) (.int .u64 0) (.int .u64 0) (.int .u64 0) rfl HA99.out.box
                have HS := Lib.hid (And.intro hs.1 (And.intro ((hs.2.1 _ (Ne.symm ne45)).trans HA100.out.box) (HV98.out.setNew HY.out.1 HY.out.2.1 HA99.out.lo hs.2.1 hs.2.2 (by simp))))
                have lo5 := HA100.out.lo
                clear hs
                refine wpAnyH_ready (rs := [14]) (by kernel_rfl) (by simp) ?_
                refine AllReadyH.cons rfl (fun K hK => ?_) AllReadyH.nil
                simp only [List.getElem_toArray, List.getElem_cons_succ, List.getElem_cons_zero]
                rw [if_pos (by rfl)]
                go_simp
                refine hK.out _ _ (HSA.out _ HS.out.2.2.bel) (fun hHeld => ?_)
                clear hK K
                try simp only [Act.put, List.getElem_toArray, List.getElem_cons_succ, List.getElem_cons_zero, List.setIfInBounds_toArray, List.set_cons_zero, List.set_cons_succ]
                generalize ((((V97.setCell ⟨a77, 0, none⟩ (.int .i64 ra)).setCell ⟨a77, 1, none⟩ (.int .u64 0)).setCell ⟨a77, 2, none⟩ (.int .u64 0)).setCell ⟨a77, 3, none⟩ (.int .u64 0)) = V8 at HS hHeld ⊢
                clear c0 c1 c2 c3 f3 HV98 HA99 HA100
                have c0 := cell_of_row V8 a93 0 _ _ (0, 0) HS.out.2.1
                have c1 := cell_of_row V8 a93 1 _ _ (0, 0) HS.out.2.1
                have c2 := cell_of_row V8 a93 2 _ _ (0, 0) HS.out.2.1
                have c3 := cell_of_row V8 a93 3 _ _ (0, 0) HS.out.2.1
                have f3 : ∀ i, V8.frozen? ⟨a93, i, none⟩ = false := fun i => by simp [World.frozen?, HS.out.2.1]
                have hs := row_set4 (.int .i64 rb) (.int .u64 0) (.int .u64 0) (.int .u64 0) rfl HS.out.2.1
                have HT : Hid (FB W ((((V8.setCell ⟨a93, 0, none⟩ (.int .i64 rb)).setCell ⟨a93, 1, none⟩ (.int .u64 0)).setCell ⟨a93, 2, none⟩ (.int .u64 0)).setCell ⟨a93, 3, none⟩ (.int .u64 0)) y y' M1 M1' a77 a93 ra rb) := Lib.hid ⟨(hs.2.1 _ ne45).trans HS.out.1, hs.1, HS.out.2.2.setNew HY.out.1 HY.out.2.1 lo5 hs.2.1 hs.2.2 (by simp)⟩
                clear hs
                refine wpAnyH_ready (rs := [15]) (by kernel_rfl) (by simp) ?_
                refine AllReadyH.cons rfl (fun K hK => ?_) AllReadyH.nil
                simp only [List.getElem_toArray, List.getElem_cons_succ, List.getElem_cons_zero]
                rw [if_pos (by rfl)]
                go_simp
                refine hK.out _ _ (HSA.out _ HT.out.al.bel) (fun hHeld => ?_)
                clear hK K
                try simp only [Act.put, List.getElem_toArray, List.getElem_cons_succ, List.getElem_cons_zero, List.setIfInBounds_toArray, List.set_cons_zero, List.set_cons_succ]
                generalize ((((V8.setCell ⟨a93, 0, none⟩ (.int .i64 rb)).setCell ⟨a93, 1, none⟩ (.int .u64 0)).setCell ⟨a93, 2, none⟩ (.int .u64 0)).setCell ⟨a93, 3, none⟩ (.int .u64 0)) = V9 at HT hHeld ⊢
                clear c0 c1 c2 c3 f3 HS
                refine wpAnyH_done (by kernel_rfl) ?_ _
                go_wp2
                go_meet
                exact ⟨_, _, rfl, rfl, HT.out⟩
          · simp only [List.getElem_toArray, List.getElem_cons_succ, List.getElem_cons_zero]
            rw [if_pos (by rfl)]
            go_simp
            have bl := (Below.refl _ V75).alloc (Nat.le_refl _) (.cells #[.int .i64 0, .int .u64 0, .int .u64 0, .int .u64 0] 38)
            have HV102 := Lib.hid (HV76.out.below HY.out.1 HY.out.2.1 bl)
            have HA104 : Hid (RB2 (V75.alloc (.cells #[.int .i64 0, .int .u64 0, .int .u64 0, .int .u64 0] 38)) y' V75.heap.size) := Lib.hid ⟨heap_alloc_new _ _, HV76.out.lo.2.2.1⟩
            have HA105 := Lib.hid (HA78.out.below bl)
            have hne106 : V75.heap.size ≠ a77 := by have := HA78.out.lt; omega
            clear bl
            refine hK.out _ _ (HSA.out _ HV102.out.bel) (fun hHeld => ?_)
            clear hK K
            try simp only [Act.put, List.getElem_toArray, List.getElem_cons_succ, List.getElem_cons_zero, List.setIfInBounds_toArray, List.set_cons_zero, List.set_cons_succ]
            generalize V75.alloc (.cells #[.int .i64 0, .int .u64 0, .int .u64 0, .int .u64 0] 38) = V101 at HV102 HA104 hHeld HA105 ⊢
            generalize V75.heap.size = a103 at HA104 hne106 ⊢
            refine wpAnyH_ready (rs := [5]) (by kernel_rfl) (by simp) ?_
            refine AllReadyH.cons rfl (fun K hK => ?_) AllReadyH.nil
            · simp only [List.getElem_toArray, List.getElem_cons_succ, List.getElem_cons_zero]
              rw [if_pos (by rfl)]
              go_simp
              refine (HD1.out V101 HV102.out).mono ?_
              rintro _ V107 ⟨rfl, hal, hfar⟩
              have HV108 := Lib.hid hal
              have HA109 := Lib.hid (HA105.out.far hfar)
              have HA110 := Lib.hid (HA104.out.far hfar)
              clear hal hfar
              go_wp2_with fail
              refine hK.out _ _ (HSA.out _ HV108.out.bel) (fun hHeld => ?_)
              clear hK K
              try simp only [Act.put, List.getElem_toArray, List.getElem_cons_succ, List.getElem_cons_zero, List.setIfInBounds_toArray, List.set_cons_zero, List.set_cons_succ]
              refine wpAnyH_ready (rs := [11]) (by kernel_rfl) (by simp) ?_
              refine AllReadyH.cons rfl (fun K hK => ?_) AllReadyH.nil
              · simp only [List.getElem_toArray, List.getElem_cons_succ, List.getElem_cons_zero]
                rw [if_pos (by rfl)]
                go_simp
                refine (HD2.out V107 HV108.out).mono ?_
                rintro _ V111 ⟨rfl, hal, hfar⟩
                have HV112 := Lib.hid hal
                have HA113 := Lib.hid (HA109.out.far hfar)
                have HA114 := Lib.hid (HA110.out.far hfar)
                clear hal hfar
                go_wp2_with fail
                refine hK.out _ _ (HSA.out _ HV112.out.bel) (fun hHeld => ?_)
                clear hK K
                try simp only [Act.put, List.getElem_toArray, List.getElem_cons_succ, List.getElem_cons_zero, List.setIfInBounds_toArray, List.set_cons_zero, List.set_cons_succ]
                have ne45 : a77 ≠ a103 := by have := hne106; omega
                have c0 := cell_of_row V111 a77 0 _ _ (0, 0) HA113.out.box
                have c1 := cell_of_row V111 a77 1 _ _ (0, 0) HA113.out.box
                have c2 := cell_of_row V111 a77 2 _ _ (0, 0) HA113.out.box
                have c3 := cell_of_row V111 a77 3 _ _ (0, 0) HA113.out.box
                have f3 : ∀ i, V111.frozen? ⟨a77, i, none⟩ = false := fun i => by simp [World.frozen?, HA113.out.box]
                have hs := row_set4 (.int .i64 ra) (.int .u64 0) (.int .u64 0) (.int .u64 0) rfl HA113.out.box
                have HS := Lib.hid (And.intro hs.1 (And.intro ((hs.2.1 _ (Ne.symm ne45)).trans HA114.out.box) (HV112.out.setNew HY.out.1 HY.out.2.1 HA113.out.lo hs.2.1 hs.2.2 (by simp))))
                have lo5 := HA114.out.lo
                clear hs
                refine wpAnyH_ready (rs := [14]) (by kernel_rfl) (by simp) ?_
                refine AllReadyH.cons rfl (fun K hK => ?_) AllReadyH.nil
                simp only [List.getElem_toArray, List.getElem_cons_succ, List.getElem_cons_zero]
                rw [if_pos (by rfl)]
                go_simp
                refine hK.out _ _ (HSA.out _ HS.out.2.2.bel) (fun hHeld => ?_)
                clear hK K
                try simp only [Act.put, List.getElem_toArray, List.getElem_cons_succ, List.getElem_cons_zero, List.setIfInBounds_toArray, List.set_cons_zero, List.set_cons_succ]
                generalize ((((V111.setCell ⟨a77, 0, none⟩ (.int .i64 ra)).setCell ⟨a77, 1, none⟩ (.int .u64 0)).setCell ⟨a77, 2, none⟩ (.int .u64 0)).setCell ⟨a77, 3, none⟩ (.int .u64 0)) = V8 at HS hHeld ⊢
                clear c0 c1 c2 c3 f3 HV112 HA113 HA114
                have c0 := cell_of_row V8 a103 0 _ _ (0, 0) HS.out.2.1
                have c1 := cell_of_row V8 a103 1 _ _ (0, 0) HS.out.2.1
                have c2 := cell_of_row V8 a103 2 _ _ (0, 0) HS.out.2.1
                have c3 := cell_of_row V8 a103 3 _ _ (0, 0) HS.out.2.1
                have f3 : ∀ i, V8.frozen? ⟨a103, i, none⟩ = false := fun i => by simp [World.frozen?, HS.out.2.1]
                have hs := row_set4 (.int .i64 rb) (.int .u64 0) (.int .u64 0) (.int .u64 0) rfl HS.out.2.1
                have HT : Hid (FB W ((((V8.setCell ⟨a103, 0, none⟩ (.int .i64 rb)).setCell ⟨a103, 1, none⟩ (.int .u64 0)).setCell ⟨a103, 2, none⟩ (.int .u64 0)).setCell ⟨a103, 3, none⟩ (.int .u64 0)) y y' M1 M1' a77 a103 ra rb) := Lib.hid ⟨(hs.2.1 _ ne45).trans HS.out.1, hs.1, HS.out.2.2.setNew HY.out.1 HY.out.2.1 lo5 hs.2.1 hs.2.2 (by simp)⟩
                clear hs
                refine wpAnyH_ready (rs := [15]) (by kernel_rfl) (by simp) ?_
                refine AllReadyH.cons rfl (fun K hK => ?_) AllReadyH.nil
                simp only [List.getElem_toArray, List.getElem_cons_succ, List.getElem_cons_zero]
                rw [if_pos (by rfl)]
                go_simp
                refine hK.out _ _ (HSA.out _ HT.out.al.bel) (fun hHeld => ?_)
                clear hK K
                try simp only [Act.put, List.getElem_toArray, List.getElem_cons_succ, List.getElem_cons_zero, List.setIfInBounds_toArray, List.set_cons_zero, List.set_cons_succ]
                generalize ((((V8.setCell ⟨a103, 0, none⟩ (.int .i64 rb)).setCell ⟨a103, 1, none⟩ (.int .u64 0)).setCell ⟨a103, 2, none⟩ (.int .u64 0)).setCell ⟨a103, 3, none⟩ (.int .u64 0)) = V9 at HT hHeld ⊢
                clear c0 c1 c2 c3 f3 HS
                refine wpAnyH_done (by kernel_rfl) ?_ _
                go_wp2
                go_meet
                exact ⟨_, _, rfl, rfl, HT.out⟩
        · simp only [List.getElem_toArray, List.getElem_cons_succ, List.getElem_cons_zero]
          rw [if_pos (by rfl)]
          go_simp
          have bl := (Below.refl _ V0).alloc (Nat.le_refl _) (.cells #[.int .i64 0, .int .u64 0, .int .u64 0, .int .u64 0] 38)
          have HV116 := Lib.hid (HV0.out.below HY.out.1 HY.out.2.1 bl)
          have HA118 : Hid (RB2 (V0.alloc (.cells #[.int .i64 0, .int .u64 0, .int .u64 0, .int .u64 0] 38)) y' V0.heap.size) := Lib.hid ⟨heap_alloc_new _ _, HV0.out.lo.2.2.1⟩
          clear bl
          refine hK.out _ _ (HSA.out _ HV116.out.bel) (fun hHeld => ?_)
          clear hK K
          try simp only [Act.put, List.getElem_toArray, List.getElem_cons_succ, List.getElem_cons_zero, List.setIfInBounds_toArray, List.set_cons_zero, List.set_cons_succ]
          generalize V0.alloc (.cells #[.int .i64 0, .int .u64 0, .int .u64 0, .int .u64 0] 38) = V115 at HV116 HA118 hHeld ⊢
          generalize V0.heap.size = a117 at HA118 ⊢
          refine wpAnyH_ready (rs := [5, 12]) (by kernel_rfl) (by simp) ?_
          refine AllReadyH.cons rfl (fun K hK => ?_) (AllReadyH.cons rfl (fun K hK => ?_) AllReadyH.nil)
          · simp only [List.getElem_toArray, List.getElem_cons_succ, List.getElem_cons_zero]
            rw [if_pos (by rfl)]
            go_simp
            refine (HD1.out V115 HV116.out).mono ?_
            rintro _ V119 ⟨rfl, hal, hfar⟩
            have HV120 := Lib.hid hal
            have HA121 := Lib.hid (HA118.out.far hfar)
            clear hal hfar
            go_wp2_with fail
            refine hK.out _ _ (HSA.out _ HV120.out.bel) (fun hHeld => ?_)
            clear hK K
            try simp only [Act.put, List.getElem_toArray, List.getElem_cons_succ, List.getElem_cons_zero, List.setIfInBounds_toArray, List.set_cons_zero, List.set_cons_succ]
            refine wpAnyH_ready (rs := [11, 12]) (by kernel_rfl) (by simp) ?_
            refine AllReadyH.cons rfl (fun K hK => ?_) (AllReadyH.cons rfl (fun K hK => ?_) AllReadyH.nil)
            · simp only [List.getElem_toArray, List.getElem_cons_succ, List.getElem_cons_zero]
              rw [if_pos (by rfl)]
              go_simp
              refine (HD2.out V119 HV120.out).mono ?_
              rintro _ V122 ⟨rfl, hal, hfar⟩
              have HV123 := Lib.hid hal
              have HA124 := Lib.hid (HA121.out.far hfar)
              clear hal hfar
              go_wp2_with fail
              refine hK.out _ _ (HSA.out _ HV123.out.bel) (fun hHeld => ?_)
              clear hK K
              try simp only [Act.put, List.getElem_toArray, List.getElem_cons_succ, List.getElem_cons_zero, List.setIfInBounds_toArray, List.set_cons_zero, List.set_cons_succ]
              refine wpAnyH_ready (rs := [12]) (by kernel_rfl) (by simp) ?_
              refine AllReadyH.cons rfl (fun K hK => ?_) AllReadyH.nil
              · simp only [List.getElem_toArray, List.getElem_cons_succ, List.getElem_cons_zero]
                rw [if_pos (by rfl)]
                go_simp
                have bl := (Below.refl _ V122).alloc (Nat.le_refl _) (.cells #[.int .i64 0, .int .u64 0, .int .u64 0, .int .u64 0] 38)
                have HV126 := Lib.hid (HV123.out.below HY.out.1 HY.out.2.1 bl)
                have HA128 : Hid (RB2 (V122.alloc (.cells #[.int .i64 0, .int .u64 0, .int .u64 0, .int .u64 0] 38)) y' V122.heap.size) := Lib.hid ⟨heap_alloc_new _ _, HV123.out.lo.2.2.1⟩
                have HA129 := Lib.hid (HA124.out.below bl)
                have hne130 : V122.heap.size ≠ a117 := by have := HA124.out.lt; omega
                clear bl
                refine hK.out _ _ (HSA.out _ HV126.out.bel) (fun hHeld => ?_)
                clear hK K
                try simp only [Act.put, List.getElem_toArray, List.getElem_cons_succ, List.getElem_cons_zero, List.setIfInBounds_toArray, List.set_cons_zero, List.set_cons_succ]
                generalize V122.alloc (.cells #[.int .i64 0, .int .u64 0, .int .u64 0, .int .u64 0] 38) = V125 at HV126 HA128 hHeld HA129 ⊢
                generalize V122.heap.size = a127 at HA128 hne130 ⊢
                have ne45 : a127 ≠ a117 := by have := hne130; omega
                have c0 := cell_of_row V125 a127 0 _ _ (0, 0) HA128.out.box
                have c1 := cell_of_row V125 a127 1 _ _ (0, 0) HA128.out.box
                have c2 := cell_of_row V125 a127 2 _ _ (0, 0) HA128.out.box
                have c3 := cell_of_row V125 a127 3 _ _ (0, 0) HA128.out.box
                have f3 : ∀ i, V125.frozen? ⟨a127, i, none⟩ = false := fun i => by simp [World.frozen?, HA128.out.box]
                have hs := row_set4 (.int .i64 ra) (.int .u64 0) (.int .u64 0) (.int .u64 0) rfl HA128.out.box
                have HS := Lib.hid (And.intro hs.1 (And.intro ((hs.2.1 _ (Ne.symm ne45)).trans HA129.out.box) (HV126.out.setNew HY.out.1 HY.out.2.1 HA128.out.lo hs.2.1 hs.2.2 (by simp))))
                have lo5 := HA129.out.lo
                clear hs
                refine wpAnyH_ready (rs := [14]) (by kernel_rfl) (by simp) ?_
                refine AllReadyH.cons rfl (fun K hK => ?_) AllReadyH.nil
                simp only [List.getElem_toArray, List.getElem_cons_succ, List.getElem_cons_zero]
                rw [if_pos (by rfl)]
                go_simp
                refine hK.out _ _ (HSA.out _ HS.out.2.2.bel) (fun hHeld => ?_)
                clear hK K
                try simp only [Act.put, List.getElem_toArray, List.getElem_cons_succ, List.getElem_cons_zero, List.setIfInBounds_toArray, List.set_cons_zero, List.set_cons_succ]
                generalize ((((V125.setCell ⟨a127, 0, none⟩ (.int .i64 ra)).setCell ⟨a127, 1, none⟩ (.int .u64 0)).setCell ⟨a127, 2, none⟩ (.int .u64 0)).setCell ⟨a127, 3, none⟩ (.int .u64 0)) = V8 at HS hHeld ⊢
                clear c0 c1 c2 c3 f3 HV126 HA128 HA129
                have c0 := cell_of_row V8 a117 0 _ _ (0, 0) HS.out.2.1
                have c1 := cell_of_row V8 a117 1 _ _ (0, 0) HS.out.2.1
                have c2 := cell_of_row V8 a117 2 _ _ (0, 0) HS.out.2.1
                have c3 := cell_of_row V8 a117 3 _ _ (0, 0) HS.out.2.1
                have f3 : ∀ i, V8.frozen? ⟨a117, i, none⟩ = false := fun i => by simp [World.frozen?, HS.out.2.1]
                have hs := row_set4 (.int .i64 rb) (.int .u64 0) (.int .u64 0) (.int .u64 0) rfl HS.out.2.1
                have HT : Hid (FB W ((((V8.setCell ⟨a117, 0, none⟩ (.int .i64 rb)).setCell ⟨a117, 1, none⟩ (.int .u64 0)).setCell ⟨a117, 2, none⟩ (.int .u64 0)).setCell ⟨a117, 3, none⟩ (.int .u64 0)) y y' M1 M1' a127 a117 ra rb) := Lib.hid ⟨(hs.2.1 _ ne45).trans HS.out.1, hs.1, HS.out.2.2.setNew HY.out.1 HY.out.2.1 lo5 hs.2.1 hs.2.2 (by simp)⟩
                clear hs
                refine wpAnyH_ready (rs := [15]) (by kernel_rfl) (by simp) ?_
                refine AllReadyH.cons rfl (fun K hK => ?_) AllReadyH.nil
                simp only [List.getElem_toArray, List.getElem_cons_succ, List.getElem_cons_zero]
                rw [if_pos (by rfl)]
                go_simp
                refine hK.out _ _ (HSA.out _ HT.out.al.bel) (fun hHeld => ?_)
                clear hK K
                try simp only [Act.put, List.getElem_toArray, List.getElem_cons_succ, List.getElem_cons_zero, List.setIfInBounds_toArray, List.set_cons_zero, List.set_cons_succ]
                generalize ((((V8.setCell ⟨a117, 0, none⟩ (.int .i64 rb)).setCell ⟨a117, 1, none⟩ (.int .u64 0)).setCell ⟨a117, 2, none⟩ (.int .u64 0)).setCell ⟨a117, 3, none⟩ (.int .u64 0)) = V9 at HT hHeld ⊢
                clear c0 c1 c2 c3 f3 HS
                refine wpAnyH_done (by kernel_rfl) ?_ _
                go_wp2
                go_meet
                exact ⟨_, _, rfl, rfl, HT.out⟩
            · simp only [List.getElem_toArray, List.getElem_cons_succ, List.getElem_cons_zero]
              rw [if_pos (by rfl)]
              go_simp
              have bl := (Below.refl _ V119).alloc (Nat.le_refl _) (.cells #[.int .i64 0, .int .u64 0, .int .u64 0, .int .u64 0] 38)
              have HV132 := Lib.hid (HV120.out.below HY.out.1 HY.out.2.1 bl)
              have HA134 : Hid (RB2 (V119.alloc (.cells #[.int .i64 0, .int .u64 0, .int .u64 0, .int .u64 0] 38)) y' V119.heap.size) := Lib.hid ⟨heap_alloc_new _ _, HV120.out.lo.2.2.1⟩
              have HA135 := Lib.hid (HA121.out.below bl)
              have hne136 : V119.heap.size ≠ a117 := by have := HA121.out.lt; omega
              clear bl
              refine hK.out _ _ (HSA.out _ HV132.out.bel) (fun hHeld => ?_)
              clear hK K
              try simp only [Act.put, List.getElem_toArray, List.getElem_cons_succ, List.getElem_cons_zero, List.setIfInBounds_toArray, List.set_cons_zero, List.set_cons_succ]
              generalize V119.alloc (.cells #[.int .i64 0, .int .u64 0, .int .u64 0, .int .u64 0] 38) = V131 at HV132 HA134 hHeld HA135 ⊢
              generalize V119.heap.size = a133 at HA134 hne136 ⊢
              refine wpAnyH_ready (rs := [11]) (by kernel_rfl) (by simp) ?_
              refine AllReadyH.cons rfl (fun K hK => ?_) AllReadyH.nil
              · simp only [List.getElem_toArray, List.getElem_cons_succ, List.getElem_cons_zero]
                rw [if_pos (by rfl)]
                go_simp
                refine (HD2.out V131 HV132.out).mono ?_
                rintro _ V137 ⟨rfl, hal, hfar⟩
                have HV138 := Lib.hid hal
                have HA139 := Lib.hid (HA134.out.far hfar)
                have HA140 := Lib.hid (HA135.out.far hfar)
                clear hal hfar
                go_wp2_with fail
                refine hK.out _ _ (HSA.out _ HV138.out.bel) (fun hHeld => ?_)
                clear hK K
                try simp only [Act.put, List.getElem_toArray, List.getElem_cons_succ, List.getElem_cons_zero, List.setIfInBounds_toArray, List.set_cons_zero, List.set_cons_succ]
                have ne45 : a133 ≠ a117 := by have := hne136; omega
                have c0 := cell_of_row V137 a133 0 _ _ (0, 0) HA139.out.box
                have c1 := cell_of_row V137 a133 1 _ _ (0, 0) HA139.out.box
                have c2 := cell_of_row V137 a133 2 _ _ (0, 0) HA139.out.box
                have c3 := cell_of_row V137 a133 3 _ _ (0, 0) HA139.out.box
                have f3 : ∀ i, V137.frozen? ⟨a133, i, none⟩ = false := fun i => by simp [World.frozen?, HA139.out.box]
                have hs := row_set4 (.int .i64 ra) (.int .u64 0) (.int .u64 0) (.int .u64 0) rfl HA139.out.box
                have HS := Lib.hid (And.intro hs.1 (And.intro ((hs.2.1 _ (Ne.symm ne45)).trans HA140.out.box) (HV138.out.setNew HY.out.1 HY.out.2.1 HA139.out.lo hs.2.1 hs.2.2 (by simp))))
                have lo5 := HA140.out.lo
                clear hs
                refine wpAnyH_ready (rs := [14]) (by kernel_rfl) (by simp) ?_
                refine AllReadyH.cons rfl (fun K hK => ?_) AllReadyH.nil
                simp only [List.getElem_toArray, List.getElem_cons_succ, List.getElem_cons_zero]
                rw [if_pos (by rfl)]
                go_simp
                refine hK.out _ _ (HSA.out _ HS.out.2.2.bel) (fun hHeld => ?_)
                clear hK K
                try simp only [Act.put, List.getElem_toArray, List.getElem_cons_succ, List.getElem_cons_zero, List.setIfInBounds_toArray, List.set_cons_zero, List.set_cons_succ]
                generalize ((((V137.setCell ⟨a133, 0, none⟩ (.int .i64 ra)).setCell ⟨a133, 1, none⟩ (.int .u64 0)).setCell ⟨a133, 2, none⟩ (.int .u64 0)).setCell ⟨a133, 3, none⟩ (.int .u64 0)) = V8 at HS hHeld ⊢
                clear c0 c1 c2 c3 f3 HV138 HA139 HA140
                have c0 := cell_of_row V8 a117 0 _ _ (0, 0) HS.out.2.1
                have c1 := cell_of_row V8 a117 1 _ _ (0, 0) HS.out.2.1
                have c2 := cell_of_row V8 a117 2 _ _ (0, 0) HS.out.2.1
                have c3 := cell_of_row V8 a117 3 _ _ (0, 0) HS.out.2.1
                have f3 : ∀ i, V8.frozen? ⟨a117, i, none⟩ = false := fun i => by simp [World.frozen?, HS.out.2.1]
                have hs := row_set4 (.int .i64 rb) (.int .u64 0) (.int .u64 0) (.int .u64 0) rfl HS.out.2.1
                have HT : Hid (FB W ((((V8.setCell ⟨a117, 0, none⟩ (.int .i64 rb)).setCell ⟨a117, 1, none⟩ (.int .u64 0)).setCell ⟨a117, 2, none⟩ (.int .u64 0)).setCell ⟨a117, 3, none⟩ (.int .u64 0)) y y' M1 M1' a133 a117 ra rb) := Lib.hid ⟨(hs.2.1 _ ne45).trans HS.out.1, hs.1, HS.out.2.2.setNew HY.out.1 HY.out.2.1 lo5 hs.2.1 hs.2.2 (by simp)⟩
                clear hs
                refine wpAnyH_ready (rs := [15]) (by kernel_rfl) (by simp) ?_
                refine AllReadyH.cons rfl (fun K hK => ?_) AllReadyH.nil
                simp only [List.getElem_toArray, List.getElem_cons_succ, List.getElem_cons_zero]
                rw [if_pos (by rfl)]
                go_simp
                refine hK.out _ _ (HSA.out _ HT.out.al.bel) (fun hHeld => ?_)
                clear hK K
                try simp only [Act.put, List.getElem_toArray, List.getElem_cons_succ, List.getElem_cons_zero, List.setIfInBounds_toArray, List.set_cons_zero, List.set_cons_succ]
                generalize ((((V8.setCell ⟨a117, 0, none⟩ (.int .i64 rb)).setCell ⟨a117, 1, none⟩ (.int .u64 0)).setCell ⟨a117, 2, none⟩ (.int .u64 0)).setCell ⟨a117, 3, none⟩ (.int .u64 0)) = V9 at HT hHeld ⊢
                clear c0 c1 c2 c3 f3 HS
                refine wpAnyH_done (by kernel_rfl) ?_ _
                go_wp2
                go_meet
                exact ⟨_, _, rfl, rfl, HT.out⟩
          · simp only [List.getElem_toArray, List.getElem_cons_succ, List.getElem_cons_zero]
            rw [if_pos (by rfl)]
            go_simp
            have bl := (Below.refl _ V115).alloc (Nat.le_refl _) (.cells #[.int .i64 0, .int .u64 0, .int .u64 0, .int .u64 0] 38)
            have HV142 := Lib.hid (HV116.out.below HY.out.1 HY.out.2.1 bl)
            have HA144 : Hid (RB2 (V115.alloc (.cells #[.int .i64 0, .int .u64 0, .int .u64 0, .int .u64 0] 38)) y' V115.heap.size) := Lib.hid ⟨heap_alloc_new _ _, HV116.out.lo.2.2.1⟩
            have HA145 := Lib.hid (HA118.out.below bl)
            have hne146 : V115.heap.size ≠ a117 := by have := HA118.out.lt; omega
            clear bl
            refine hK.out _ _ (HSA.out _ HV142.out.bel) (fun hHeld => ?_)
            clear hK K
            try simp only [Act.put, List.getElem_toArray, List.getElem_cons_succ, List.getElem_cons_zero, List.setIfInBounds_toArray, List.set_cons_zero, List.set_cons_succ]
            generalize V115.alloc (.cells #[.int .i64 0, .int .u64 0, .int .u64 0, .int .u64 0] 38) = V141 at HV142 HA144 hHeld HA145 ⊢
            generalize V115.heap.size = a143 at HA144 hne146 ⊢
            refine wpAnyH_ready (rs := [5]) (by kernel_rfl) (by simp) ?_
            refine AllReadyH.cons rfl (fun K hK => ?_) AllReadyH.nil
            · simp only [List.getElem_toArray, List.getElem_cons_succ, List.getElem_cons_zero]
              rw [if_pos (by rfl)]
              go_simp
              refine (HD1.out V141 HV142.out).mono ?_
              rintro _ V147 ⟨rfl, hal, hfar⟩
              have HV148 := Lib.hid hal
              have HA149 := Lib.hid (HA144.out.far hfar)
              have HA150 := Lib.hid (HA145.out.far hfar)
              clear hal hfar
              go_wp2_with fail
              refine hK.out _ _ (HSA.out _ HV148.out.bel) (fun hHeld => ?_)
              clear hK K
              try simp only [Act.put, List.getElem_toArray, List.getElem_cons_succ, List.getElem_cons_zero, List.setIfInBounds_toArray, List.set_cons_zero, List.set_cons_succ]
              refine wpAnyH_ready (rs := [11]) (by kernel_rfl) (by simp) ?_
              refine AllReadyH.cons rfl (fun K hK => ?_) AllReadyH.nil
              · simp only [List.getElem_toArray, List.getElem_cons_succ, List.getElem_cons_zero]
                rw [if_pos (by rfl)]
                go_simp
                refine (HD2.out V147 HV148.out).mono ?_
                rintro _ V151 ⟨rfl, hal, hfar⟩
                have HV152 := Lib.hid hal
                have HA153 := Lib.hid (HA149.out.far hfar)
                have HA154 := Lib.hid (HA150.out.far hfar)
                clear hal hfar
                go_wp2_with fail
                refine hK.out _ _ (HSA.out _ HV152.out.bel) (fun hHeld => ?_)
                clear hK K
                try simp only [Act.put, List.getElem_toArray, List.getElem_cons_succ, List.getElem_cons_zero, List.setIfInBounds_toArray, List.set_cons_zero, List.set_cons_succ]
                have ne45 : a143 ≠ a117 := by have := hne146; omega
                have c0 := cell_of_row V151 a143 0 _ _ (0, 0) HA153.out.box
                have c1 := cell_of_row V151 a143 1 _ _ (0, 0) HA153.out.box
                have c2 := cell_of_row V151 a143 2 _ _ (0, 0) HA153.out.box
                have c3 := cell_of_row V151 a143 3 _ _ (0, 0) HA153.out.box
                have f3 : ∀ i, V151.frozen? ⟨a143, i, none⟩ = false := fun i => by simp [World.frozen?, HA153.out.box]
                have hs := row_set4 (.int .i64 ra) (.int .u64 0) (.int .u64 0) (.int .u64 0) rfl HA153.out.box
                have HS := Lib.hid (And.intro hs.1 (And.intro ((hs.2.1 _ (Ne.symm ne45)).trans HA154.out.box) (HV152.out.setNew HY.out.1 HY.out.2.1 HA153.out.lo hs.2.1 hs.2.2 (by simp))))
                have lo5 := HA154.out.lo
                clear hs
                refine wpAnyH_ready (rs := [14]) (by kernel_rfl) (by simp) ?_
                refine AllReadyH.cons rfl (fun K hK => ?_) AllReadyH.nil
                simp only [List.getElem_toArray, List.getElem_cons_succ, List.getElem_cons_zero]
                rw [if_pos (by rfl)]
                go_simp
                refine hK.out _ _ (HSA.out _ HS.out.2.2.bel) (fun hHeld => ?_)
                clear hK K
                try simp only [Act.put, List.getElem_toArray, List.getElem_cons_succ, List.getElem_cons_zero, List.setIfInBounds_toArray, List.set_cons_zero, List.set_cons_succ]
                generalize ((((V151.setCell ⟨a143, 0, none⟩ (.int .i64 ra)).setCell ⟨a143, 1, none⟩ (.int .u64 0)).setCell ⟨a143, 2, none⟩ (.int .u64 0)).setCell ⟨a143, 3, none⟩ (.int .u64 0)) = V8 at HS hHeld ⊢
                clear c0 c1 c2 c3 f3 HV152 HA153 HA154
                have c0 := cell_of_row V8 a117 0 _ _ (0, 0) HS.out.2.1
                have c1 := cell_of_row V8 a117 1 _ _ (0, 0) HS.out.2.1
                have c2 := cell_of_row V8 a117 2 _ _ (0, 0) HS.out.2.1
                have c3 := cell_of_row V8 a117 3 _ _ (0, 0) HS.out.2.1
                have f3 : ∀ i, V8.frozen? ⟨a117, i, none⟩ = false := fun i => by simp [World.frozen?, HS.out.2.1]
                have hs := row_set4 (.int .i64 rb) (.int .u64 0) (.int .u64 0) (.int .u64 0) rfl HS.out.2.1
                have HT : Hid (FB W ((((V8.setCell ⟨a117, 0, none⟩ (.int .i64 rb)).setCell ⟨a117, 1, none⟩ (.int .u64 0)).setCell ⟨a117, 2, none⟩ (.int .u64 0)).setCell ⟨a117, 3, none⟩ (.int .u64 0)) y y' M1 M1' a143 a117 ra rb) := Lib.hid ⟨(hs.2.1 _ ne45).trans HS.out.1, hs.1, HS.out.2.2.setNew HY.out.1 HY.out.2.1 lo5 hs.2.1 hs.2.2 (by simp)⟩
                clear hs
                refine wpAnyH_ready (rs := [15]) (by kernel_rfl) (by simp) ?_
                refine AllReadyH.cons rfl (fun K hK => ?_) AllReadyH.nil
                simp only [List.getElem_toArray, List.getElem_cons_succ, List.getElem_cons_zero]
                rw [if_pos (by rfl)]
                go_simp
                refine hK.out _ _ (HSA.out _ HT.out.al.bel) (fun hHeld => ?_)
                clear hK K
                try simp only [Act.put, List.getElem_toArray, List.getElem_cons_succ, List.getElem_cons_zero, List.setIfInBounds_toArray, List.set_cons_zero, List.set_cons_succ]
                generalize ((((V8.setCell ⟨a117, 0, none⟩ (.int .i64 rb)).setCell ⟨a117, 1, none⟩ (.int .u64 0)).setCell ⟨a117, 2, none⟩ (.int .u64 0)).setCell ⟨a117, 3, none⟩ (.int .u64 0)) = V9 at HT hHeld ⊢
                clear c0 c1 c2 c3 f3 HS
                refine wpAnyH_done (by kernel_rfl) ?_ _
                go_wp2
                go_meet
                exact ⟨_, _, rfl, rfl, HT.out⟩
      case rest =>
      obtain ⟨p, q, rfl, rfl, hFB⟩ := hcut
      have HFB := Lib.hid hFB
      have c0 := cell_of_row wc p 0 _ _ (0, 0) hFB.p
      have c1 := cell_of_row wc p 1 _ _ (0, 0) hFB.p
      have c2 := cell_of_row wc p 2 _ _ (0, 0) hFB.p
      have c3 := cell_of_row wc p 3 _ _ (0, 0) hFB.p
      have d0 := cell_of_row wc q 0 _ _ (0, 0) hFB.q
      have d1 := cell_of_row wc q 1 _ _ (0, 0) hFB.q
      have d2 := cell_of_row wc q 2 _ _ (0, 0) hFB.q
      have d3 := cell_of_row wc q 3 _ _ (0, 0) hFB.q
      clear hFB HA
      by_cases h6 : ra = 6
      · subst h6
        go_wp2_with fail
        refine (awake_any _).mono ?_
        rintro _ w9 ⟨rfl, hb9⟩
        have hbe := HFB.out.al.bel.trans (hb9.mono HFB.out.al.bel.size)
        clear hb9
        go_wp2
        go_ret
        exact ⟨rfl, hbe⟩
      have g1 : (ra == 6) = false := by simp [h6]
      have g2 : decide (ra = 6) = false := by simp [h6]
      by_cases h6' : rb = 6
      · subst h6'
        go_wp2_with fail
        refine (awake_any _).mono ?_
        rintro _ w9 ⟨rfl, hb9⟩
        have hbe := HFB.out.al.bel.trans (hb9.mono HFB.out.al.bel.size)
        clear hb9
        go_wp2
        go_ret
        exact ⟨rfl, hbe⟩
      have hrr := HE.out.2.2.1 h6 h6'
      subst hrr
      have hne := fun W => neq_ret ra W
      go_wp2
      go_roundw
      case rel => exact ⟨i + 1, _, _, by go_num, by omega, HFB.out.al, Lib.hid ⟨HE.out.1, HE.out.2.1, HE.out.2.2.2 rfl⟩⟩
      case measure => simp [intOf]; omega
    · obtain rfl : i = len := by omega
      go_wp2_with fail
      refine (awake_any _).mono ?_
      rintro _ w12 ⟨rfl, b12⟩
      have HA1 := Lib.hid (HA.out.below HY.out.1 HY.out.2.1 b12)
      clear HA b12
      go_wp2_with fail
      refine (tall HA1.out.a HY.out.1 HM.out.1 (by have := HA1.out.lo; omega)).mono ?_
      rintro _ w13 ⟨v1, ls1, rfl, hre, hpm, hpw, hwt, hR⟩
      have lo := HA1.out.lo
      have HA2 : Hid (AL W w13 y y' M M') := Lib.hid ⟨hwt, HA1.out.b.off HY.out.2.1 hR (Or.inr lo.2.1), Rng.below HA1.out.bel hR lo.1 HA1.out.bel.size, ⟨lo.1, lo.2.1, Nat.le_trans lo.2.2.1 hR.size, lo.2.2.2⟩⟩
      have H13 := Lib.hid (And.intro hre (And.intro hpm (And.intro hpw lo)))
      clear hre hpm hpw hwt hR lo HA1
      go_wp2_with fail
      refine (tall HA2.out.b HY.out.2.1 HM.out.2.1 HA2.out.lo.2.2.1).mono ?_
      rintro _ w14 ⟨v2, ls2, rfl, hre, hpm, hpw, hwt, hR⟩
      have lo := H13.out.2.2.2
      have hR1 := H13.out.1.keep hR.size fun k h1 h2 => hR.block k h2 (by omega)
      have hls : ls1 = ls2 := all_sorted HY.out.1 HM.out.1 H13.out.2.1 (hpm.trans (ali_all HY.out.1 HY.out.2.1 HM.out.1 HM.out.2.1 HM.out.2.2).symm) H13.out.2.2.1 hpw
      have hlen : ls1.length ≤ 1000 := by
        have h1 := H13.out.2.1.length_eq
        have h2 := allE_len HM.out.1 HY.out.1 y.n (Nat.le_refl _)
        have h3 := HY.out.1.n8
        omega
      have hbe : Below W.heap.size W w14 := Rng.below HA2.out.bel hR (by have := HY.out.1.rT; omega) HA2.out.bel.size
      rw [← hls] at hre
      have HS := Lib.hid (And.intro (same_en _ _ v1 v2 ls1 w14 hlen hR1 hre) hbe)
      clear hR1 hls hlen hbe hre hpm hpw hwt hR lo H13 HA2
      go_wp2_with fail
      refine HS.out.1.mono ?_
      rintro _ w15 ⟨rfl, b15⟩
      have hbe := HS.out.2.trans (b15.mono HS.out.2.size)
      clear b15 HS
      go_wp2
      go_ret
      exact ⟨rfl, hbe⟩
end Go.Proofs.YtlpnecmcncekcaaGreat.Mk
