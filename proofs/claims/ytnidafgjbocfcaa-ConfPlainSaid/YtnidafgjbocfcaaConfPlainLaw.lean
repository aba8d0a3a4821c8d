/- The law ConfPlain. -/
import Derived.Test.YtnidafgjbocfcaaConfRefSame
import Derived.Test.YtnidafgjbocfcaaConfCopy
import Derived.Test.YtnidafgjbocfcaaConfRefPlain
import Derived.Test.YtnidafgjbocfcaaConfAwake
import Derived.Test.YtnidafgjbocfcaaConfPlainRow2
import Derived.Deep.RegionHeld3
import Derived.Deep.CutBlock
import Derived.Deep.DeepCutAuto
namespace Go.Proofs.Ytnidafgjbocfcaa.Conf
open Go.RowKit

theorem few_yes (c : Cfg) (h : c.n ≤ 20) (w : World) :
    Calls Try.prog 25 #[.agg c.cells] w fun e w' => e = .returned (.bool true) ∧ Below w.heap.size w w' := by
  have h1 : (c.n : Int) ≤ 20 := by omega
  unfold Cfg.cells at *
  go_enter Try.func25, Try.ntmps25
  go_wp2
  go_ret
  exact ⟨rfl, (Below.refl _ _).alloc (Nat.le_refl _) _⟩
theorem few_no (c : Cfg) (h : 20 < c.n) (w : World) :
    Calls Try.prog 25 #[.agg c.cells] w fun e w' => e = .returned (.bool false) ∧ Below w.heap.size w w' := by
  have h1 : ¬ (c.n : Int) ≤ 20 := by omega
  unfold Cfg.cells at *
  go_enter Try.func25, Try.ntmps25
  go_wp2
  go_ret
  exact ⟨rfl, (Below.refl _ _).alloc (Nat.le_refl _) _⟩

/-- At block b lies a config. -/
def CF (W : World) (b : Nat) (c : Cfg) : Prop := W.cell? ⟨b, 0, none⟩ = some (.slice c.A c.n c.cap) ∧ W.cell? ⟨b, 1, none⟩ = some (.int .i64 c.f1) ∧ W.cell? ⟨b, 2, none⟩ = some (.int .i64 c.f2) ∧ W.cell? ⟨b, 3, none⟩ = some (.int .i64 c.f3) ∧ W.cell? ⟨b, 4, none⟩ = some (.int .i64 c.f4) ∧ W.cell? ⟨b, 5, none⟩ = some (.int .i64 c.f5) ∧ W.cell? ⟨b, 6, none⟩ = some (.int .i64 c.f6) ∧ W.cell? ⟨b, 7, none⟩ = some (.int .i64 c.f7) ∧ W.cell? ⟨b, 8, none⟩ = some (.int .i64 c.f8) ∧ W.cell? ⟨b, 9, none⟩ = some (.int .i64 c.f9) ∧ W.cell? ⟨b, 10, none⟩ = some (.int .i64 c.f10) ∧ W.cell? ⟨b, 11, none⟩ = some (.int .u64 c.f11)
theorem CF.new (w : World) (c : Cfg) : CF (w.alloc (.cells c.cells 53)) w.heap.size c := ⟨cell_of_row _ _ 0 _ _ (0, 0) (heap_alloc_new w _), cell_of_row _ _ 1 _ _ (0, 0) (heap_alloc_new w _), cell_of_row _ _ 2 _ _ (0, 0) (heap_alloc_new w _), cell_of_row _ _ 3 _ _ (0, 0) (heap_alloc_new w _), cell_of_row _ _ 4 _ _ (0, 0) (heap_alloc_new w _), cell_of_row _ _ 5 _ _ (0, 0) (heap_alloc_new w _), cell_of_row _ _ 6 _ _ (0, 0) (heap_alloc_new w _), cell_of_row _ _ 7 _ _ (0, 0) (heap_alloc_new w _), cell_of_row _ _ 8 _ _ (0, 0) (heap_alloc_new w _), cell_of_row _ _ 9 _ _ (0, 0) (heap_alloc_new w _), cell_of_row _ _ 10 _ _ (0, 0) (heap_alloc_new w _), cell_of_row _ _ 11 _ _ (0, 0) (heap_alloc_new w _)⟩
theorem CF.call {W W1 : World} {b : Nat} {c : Cfg} (h : CF W b c) (hl : b < W.heap.size) (hb : Below W.heap.size W W1) : CF W1 b c := by
  obtain ⟨x0, x1, x2, x3, x4, x5, x6, x7, x8, x9, x10, x11⟩ := h
  exact ⟨(hb.cell (p := ⟨b, 0, none⟩) hl).trans x0, (hb.cell (p := ⟨b, 1, none⟩) hl).trans x1, (hb.cell (p := ⟨b, 2, none⟩) hl).trans x2, (hb.cell (p := ⟨b, 3, none⟩) hl).trans x3, (hb.cell (p := ⟨b, 4, none⟩) hl).trans x4, (hb.cell (p := ⟨b, 5, none⟩) hl).trans x5, (hb.cell (p := ⟨b, 6, none⟩) hl).trans x6, (hb.cell (p := ⟨b, 7, none⟩) hl).trans x7, (hb.cell (p := ⟨b, 8, none⟩) hl).trans x8, (hb.cell (p := ⟨b, 9, none⟩) hl).trans x9, (hb.cell (p := ⟨b, 10, none⟩) hl).trans x10, (hb.cell (p := ⟨b, 11, none⟩) hl).trans x11⟩
theorem CF.far {W : World} {b g i : Nat} {v : Value} {c : Cfg} (h : CF W b c) (hne : b ≠ g) : CF (W.drew.setCell ⟨g, i, none⟩ v) b c := by
  obtain ⟨x0, x1, x2, x3, x4, x5, x6, x7, x8, x9, x10, x11⟩ := h
  have hf : ∀ k, (W.drew.setCell ⟨g, i, none⟩ v).cell? ⟨b, k, none⟩ = W.cell? ⟨b, k, none⟩ := fun k => World.cell?_setCell_far W.drew ⟨g, i, none⟩ ⟨b, k, none⟩ v (fun e => hne e.symm)
  exact ⟨(hf 0).trans x0, (hf 1).trans x1, (hf 2).trans x2, (hf 3).trans x3, (hf 4).trans x4, (hf 5).trans x5, (hf 6).trans x6, (hf 7).trans x7, (hf 8).trans x8, (hf 9).trans x9, (hf 10).trans x10, (hf 11).trans x11⟩
theorem vb_set (xs : List Bool) (b : Bool) : vb (xs.set 0 b) = (vb xs).set 0 (.bool b) := by simp [vb, List.map_set]
/-- The world from w0 on, and the config at b. -/
def S1 (w0 : World) (b : Nat) (c : Cfg) (W : World) : Prop := Below w0.heap.size w0 W ∧ CF W b c
theorem S1.drew {w0 W : World} {b : Nat} {c : Cfg} (h : S1 w0 b c W) : S1 w0 b c W.drew := ⟨h.1.drew, h.2⟩
theorem S1.call {w0 W W1 : World} {b : Nat} {c : Cfg} (hl : b < w0.heap.size) (h : S1 w0 b c W) (hb : Below W.heap.size W W1) : S1 w0 b c W1 :=
  ⟨h.1.trans (hb.mono h.1.size), h.2.call (Nat.lt_of_lt_of_le hl h.1.size) hb⟩

/-- The same with three configs. -/
def S3 (w0 : World) (b1 b2 b3 : Nat) (c1 c2 c3 : Cfg) (W : World) : Prop := Below w0.heap.size w0 W ∧ W.cell? ⟨b1, 0, none⟩ = some (.slice c1.A c1.n c1.cap) ∧ W.cell? ⟨b1, 1, none⟩ = some (.int .i64 c1.f1) ∧ W.cell? ⟨b1, 2, none⟩ = some (.int .i64 c1.f2) ∧ W.cell? ⟨b1, 3, none⟩ = some (.int .i64 c1.f3) ∧ W.cell? ⟨b1, 4, none⟩ = some (.int .i64 c1.f4) ∧ W.cell? ⟨b1, 5, none⟩ = some (.int .i64 c1.f5) ∧ W.cell? ⟨b1, 6, none⟩ = some (.int .i64 c1.f6) ∧ W.cell? ⟨b1, 7, none⟩ = some (.int .i64 c1.f7) ∧ W.cell? ⟨b1, 8, none⟩ = some (.int .i64 c1.f8) ∧ W.cell? ⟨b1, 9, none⟩ = some (.int .i64 c1.f9) ∧ W.cell? ⟨b1, 10, none⟩ = some (.int .i64 c1.f10) ∧ W.cell? ⟨b1, 11, none⟩ = some (.int .u64 c1.f11) ∧ W.cell? ⟨b2, 0, none⟩ = some (.slice c2.A c2.n c2.cap) ∧ W.cell? ⟨b2, 1, none⟩ = some (.int .i64 c2.f1) ∧ W.cell? ⟨b2, 2, none⟩ = some (.int .i64 c2.f2) ∧ W.cell? ⟨b2, 3, none⟩ = some (.int .i64 c2.f3) ∧ W.cell? ⟨b2, 4, none⟩ = some (.int .i64 c2.f4) ∧ W.cell? ⟨b2, 5, none⟩ = some (.int .i64 c2.f5) ∧ W.cell? ⟨b2, 6, none⟩ = some (.int .i64 c2.f6) ∧ W.cell? ⟨b2, 7, none⟩ = some (.int .i64 c2.f7) ∧ W.cell? ⟨b2, 8, none⟩ = some (.int .i64 c2.f8) ∧ W.cell? ⟨b2, 9, none⟩ = some (.int .i64 c2.f9) ∧ W.cell? ⟨b2, 10, none⟩ = some (.int .i64 c2.f10) ∧ W.cell? ⟨b2, 11, none⟩ = some (.int .u64 c2.f11) ∧ W.cell? ⟨b3, 0, none⟩ = some (.slice c3.A c3.n c3.cap) ∧ W.cell? ⟨b3, 1, none⟩ = some (.int .i64 c3.f1) ∧ W.cell? ⟨b3, 2, none⟩ = some (.int .i64 c3.f2) ∧ W.cell? ⟨b3, 3, none⟩ = some (.int .i64 c3.f3) ∧ W.cell? ⟨b3, 4, none⟩ = some (.int .i64 c3.f4) ∧ W.cell? ⟨b3, 5, none⟩ = some (.int .i64 c3.f5) ∧ W.cell? ⟨b3, 6, none⟩ = some (.int .i64 c3.f6) ∧ W.cell? ⟨b3, 7, none⟩ = some (.int .i64 c3.f7) ∧ W.cell? ⟨b3, 8, none⟩ = some (.int .i64 c3.f8) ∧ W.cell? ⟨b3, 9, none⟩ = some (.int .i64 c3.f9) ∧ W.cell? ⟨b3, 10, none⟩ = some (.int .i64 c3.f10) ∧ W.cell? ⟨b3, 11, none⟩ = some (.int .u64 c3.f11)
theorem S3.parts {w0 W : World} {b1 b2 b3 : Nat} {c1 c2 c3 : Cfg} (h : S3 w0 b1 b2 b3 c1 c2 c3 W) : Below w0.heap.size w0 W ∧ CF W b1 c1 ∧ CF W b2 c2 ∧ CF W b3 c3 := by
  obtain ⟨h0, x0, x1, x2, x3, x4, x5, x6, x7, x8, x9, x10, x11, y0, y1, y2, y3, y4, y5, y6, y7, y8, y9, y10, y11, z0, z1, z2, z3, z4, z5, z6, z7, z8, z9, z10, z11⟩ := h
  exact ⟨h0, ⟨x0, x1, x2, x3, x4, x5, x6, x7, x8, x9, x10, x11⟩, ⟨y0, y1, y2, y3, y4, y5, y6, y7, y8, y9, y10, y11⟩, ⟨z0, z1, z2, z3, z4, z5, z6, z7, z8, z9, z10, z11⟩⟩
theorem S3.mk {w0 W : World} {b1 b2 b3 : Nat} {c1 c2 c3 : Cfg} (h0 : Below w0.heap.size w0 W) (h1 : CF W b1 c1) (h2 : CF W b2 c2) (h3 : CF W b3 c3) : S3 w0 b1 b2 b3 c1 c2 c3 W := by
  obtain ⟨x0, x1, x2, x3, x4, x5, x6, x7, x8, x9, x10, x11⟩ := h1
  obtain ⟨y0, y1, y2, y3, y4, y5, y6, y7, y8, y9, y10, y11⟩ := h2
  obtain ⟨z0, z1, z2, z3, z4, z5, z6, z7, z8, z9, z10, z11⟩ := h3
  exact ⟨h0, x0, x1, x2, x3, x4, x5, x6, x7, x8, x9, x10, x11, y0, y1, y2, y3, y4, y5, y6, y7, y8, y9, y10, y11, z0, z1, z2, z3, z4, z5, z6, z7, z8, z9, z10, z11⟩
theorem S3.drew {w0 W : World} {b1 b2 b3 : Nat} {c1 c2 c3 : Cfg} (h : S3 w0 b1 b2 b3 c1 c2 c3 W) : S3 w0 b1 b2 b3 c1 c2 c3 W.drew := ⟨h.1.drew, h.2⟩
theorem S3.call {w0 W W1 : World} {b1 b2 b3 : Nat} {c1 c2 c3 : Cfg} (l1 : b1 < w0.heap.size) (l2 : b2 < w0.heap.size) (l3 : b3 < w0.heap.size) (h : S3 w0 b1 b2 b3 c1 c2 c3 W) (hb : Below W.heap.size W W1) : S3 w0 b1 b2 b3 c1 c2 c3 W1 :=
  have p := h.parts
  S3.mk (p.1.trans (hb.mono p.1.size)) (p.2.1.call (Nat.lt_of_lt_of_le l1 p.1.size) hb) (p.2.2.1.call (Nat.lt_of_lt_of_le l2 p.1.size) hb) (p.2.2.2.call (Nat.lt_of_lt_of_le l3 p.1.size) hb)
theorem step_below {w0 W W1 : World} (h : Below w0.heap.size w0 W) (hb : Below W.heap.size W W1) : Below w0.heap.size w0 W1 := h.trans (hb.mono h.size)

theorem vb_bools (k : Nat) : bools k = vb ((List.range k).map fun i : Nat => (i : Int) % 2 == 1) := by simp [bools, vb]
def bl (k : Nat) : List Bool := (List.range k).map fun i : Nat => (i : Int) % 2 == 1

set_option maxRecDepth 20000 in
set_option maxHeartbeats 1000000 in
theorem cp_many (ch ac : Int) (c : Cfg) (h : 20 < c.n) (w : World) :
    Calls Try.prog 6 #[.int .i64 ch, .int .i64 ac, .agg c.cells] w fun e w' => e = .returned (.bool true) ∧ Below w.heap.size w w' := by
  have HF := Lib.hid (few_no c h)
  have HB := Lib.hid (show Below w.heap.size w (w.alloc (.cells c.cells 53)) from (Below.refl _ _).alloc (Nat.le_refl _) _)
  unfold Cfg.cells at *
  go_enter Try.func6, Try.ntmps6
  go_wp2_with fail
  refine (HF.out _).mono ?_
  rintro e w1 ⟨rfl, hb⟩
  have H1 := Lib.hid (HB.out.trans (hb.mono HB.out.size))
  clear hb
  go_wp2_with fail
  refine (awake_any _).mono ?_
  rintro e w2 ⟨rfl, hb⟩
  have H2 := Lib.hid (H1.out.trans (hb.mono H1.out.size))
  clear hb
  go_wp2
  go_ret
  exact ⟨rfl, H2.out⟩

set_option maxRecDepth 20000 in
set_option maxHeartbeats 4000000 in
theorem cp_few (ch ac : Int) (m : Nat) (hm : m ≤ 4) (c : Cfg) (h : c.n ≤ 20) (xs : List Bool)
    (hpl : ∀ w, Calls Try.prog 27 #[.int .i64 ch, .int .i64 ac] w fun e w' => ∃ A cap, e = .returned (.agg (plain A m cap ac).cells) ∧ w'.ownsRow w.heap.size 4 1 (.slice A m cap) m (bools m) ∧ Below w.heap.size w w')
    (hrp : ∀ w, Calls Try.prog 30 #[.int .i64 ch, .int .i64 ac] w fun e w' => ∃ A cap, e = .returned (.agg (plain A m cap ac).cells) ∧ w'.ownsRow w.heap.size 4 1 (.slice A m cap) m (bools m) ∧ Below w.heap.size w w')
    (cd : Int) (hcd : ∀ A cap, code (plain A m cap ac) 11 0 = cd)
    (hmay : (cd = 0 ∧ 1 ≤ ch ∧ 1 ≤ ac ∧ ac ≤ 4) ∨ (cd = 1 ∧ ch < 1) ∨ (cd = 1 ∧ 1 ≤ ch ∧ ac < 1) ∨ (cd = 1 ∧ 1 ≤ ch ∧ 1 ≤ ac ∧ 4 < ac))
    (w : World) (hx : Bl w c.A c.n xs) :
    Calls Try.prog 6 #[.int .i64 ch, .int .i64 ac, .agg c.cells] w fun e w' => e = .returned (.bool true) ∧ Below w.heap.size w w' := by
  have HF := Lib.hid (few_yes c h)
  have HPl := Lib.hid hpl
  have HRp := Lib.hid hrp
  have HM := Lib.hid hmay
  have HCk := Lib.hid (show ∀ A cap w, Calls Try.prog 28 #[.agg (plain A m cap ac).cells] w fun e w' => e = .returned (.tuple #[.string (wrong (plain A m cap ac) 11 0), .int .i64 cd]) ∧ Below w.heap.size w w' from fun A cap w => by rw [← hcd A cap]; exact check_any _ w)
  have hB : Below w.heap.size w (w.alloc (.cells c.cells 53)) := (Below.refl _ _).alloc (Nat.le_refl _) _
  have HX := Lib.hid (hx.below hB)
  have HX0 := Lib.hid hx
  have HN := Lib.hid (CF.new w c)
  have HB := Lib.hid hB
  have hl0 : w.heap.size < (w.alloc (.cells c.cells 53)).heap.size := by simp
  have HL0 := Lib.hid hl0
  clear hpl hrp hmay hcd hB hx hl0
  dsimp only [Cfg.cells, plain] at HF HPl HRp HCk HX HN HB HL0 ⊢
  go_enter Try.func6, Try.ntmps6
  go_wp2_with fail
  refine (HF.out _).mono ?_
  rintro e w1 ⟨rfl, hb⟩
  have B1 := Lib.hid (HB.out.trans (hb.mono HB.out.size))
  have C1 := Lib.hid (HN.out.call HL0.out hb)
  have X1 := Lib.hid (HX.out.below hb)
  have L1 := Lib.hid (Nat.lt_of_lt_of_le HL0.out hb.size)
  clear hb
  go_wp2_with fail
  refine (HPl.out _).mono ?_
  rintro e w2 ⟨A, cap, rfl, hown, hb⟩
  have B2 := Lib.hid (B1.out.trans (hb.mono B1.out.size))
  have C2 := Lib.hid (C1.out.call L1.out hb)
  have X2 := Lib.hid (X1.out.below hb)
  have L2 := Lib.hid (Nat.lt_of_lt_of_le L1.out hb.size)
  have Y2 := Lib.hid (show Bl w2 A m (bl m) from bl_of_own (by rw [vb_bools] at hown; exact hown))
  have hb3 : Below w2.heap.size w2 (w2.alloc (.cells #[.slice A m cap, .int .i64 ac, .int .i64 2, .int .i64 8, .int .i64 8, .int .i64 4, .int .i64 3, .int .i64 2, .int .i64 4, .int .i64 6, .int .i64 0, .int .u64 0] 53)) := (Below.refl _ _).alloc (Nat.le_refl _) _
  have B3 := Lib.hid (B2.out.trans (hb3.mono B2.out.size))
  have C3 := Lib.hid (C2.out.call L2.out hb3)
  have X3 := Lib.hid (X2.out.below hb3)
  have Y3 := Lib.hid (Y2.out.below hb3)
  have L3 := Lib.hid (Nat.lt_of_lt_of_le L2.out hb3.size)
  have P3 := Lib.hid (show CF (w2.alloc (.cells #[.slice A m cap, .int .i64 ac, .int .i64 2, .int .i64 8, .int .i64 8, .int .i64 4, .int .i64 3, .int .i64 2, .int .i64 4, .int .i64 6, .int .i64 0, .int .u64 0] 53)) w2.heap.size (plain A m cap ac) from CF.new w2 (plain A m cap ac))
  have M3 := Lib.hid (show w2.heap.size < (w2.alloc (.cells #[.slice A m cap, .int .i64 ac, .int .i64 2, .int .i64 8, .int .i64 8, .int .i64 4, .int .i64 3, .int .i64 2, .int .i64 4, .int .i64 6, .int .i64 0, .int .u64 0] 53)).heap.size by simp)
  clear hb hb3 hown
  go_wp2_with fail
  refine (HCk.out _ _ _).mono ?_
  rintro e w4 ⟨rfl, hb⟩
  have B4 := Lib.hid (B3.out.trans (hb.mono B3.out.size))
  have C4 := Lib.hid (C3.out.call L3.out hb)
  have X4 := Lib.hid (X3.out.below hb)
  have Y4 := Lib.hid (Y3.out.below hb)
  have L4 := Lib.hid (Nat.lt_of_lt_of_le L3.out hb.size)
  have P4 := Lib.hid (P3.out.call M3.out hb)
  have M4 := Lib.hid (Nat.lt_of_lt_of_le M3.out hb.size)
  clear hb B1 C1 X1 L1 B2 C2 X2 L2 Y2 B3 C3 X3 Y3 L3 P3 M3
  generalize w2.heap.size = bp at *
  go_upto_region 5 with fail
  go_cut [10] (fun v wx => v = .bool (cd == 0) ∧ wx = w4)
  case first =>
    rcases HM.out with ⟨rfl, m1, m2, m3⟩ | ⟨rfl, m1⟩ | ⟨rfl, m1, m2⟩ | ⟨rfl, m1, m2, m3⟩
    · go_wp2
      go_meet
      exact ⟨rfl, rfl⟩
    · have n1 : ¬ 1 ≤ ch := by omega
      clear m1
      go_wp2
      go_meet
      exact ⟨rfl, rfl⟩
    · have n1 : ¬ 1 ≤ ac := by omega
      clear m2
      go_wp2
      go_meet
      exact ⟨rfl, rfl⟩
    · have n1 : ¬ ac ≤ 4 := by omega
      clear m3
      go_wp2
      go_meet
      exact ⟨rfl, rfl⟩
  case rest =>
    obtain ⟨rfl, rfl⟩ := hcut
    go_upto_region 6 with fail
    go_cut [45] (fun v wx => v = .bool false ∧ Below wc.heap.size wc wx)
    case first =>
      obtain ⟨x0, x1, x2, x3, x4, x5, x6, x7, x8, x9, x10, x11⟩ := P4.out
      have hmle : m ≤ 9223372036854775807 := by omega
      have hsc : ∀ A', ∀ cap', sameC (plain A m cap ac) (plain A' m cap' ac) (bl m) (bl m) = true := fun A' cap' => by simp [sameC, sameF, plain]
      have HS := Lib.hid hsc
      have HMle := Lib.hid hmle
      clear hsc hmle
      go_region_with (first
        | (go_at_call 30; refine (HRp.out _).mono ?_; rintro e w5 ⟨A', cap', rfl, hown, hb⟩; have B5 := Lib.hid (show Below wc.heap.size wc w5 from ⟨hb.os, hb.tape, hb.output, hb.size, hb.block⟩); have Q5 := Lib.hid (show Bl w5 A' m (bl m) from bl_of_own (by rw [vb_bools] at hown; exact hown)); have P5 := Lib.hid (P4.out.call M4.out B5.out); have Y5 := Lib.hid (Y4.out.below B5.out); clear hown hb; obtain ⟨y0, y1, y2, y3, y4, y5, y6, y7, y8, y9, y10, y11⟩ := P5.out)
        | (go_at_call 29; have HQ := (rsame_any (plain A m cap ac) (plain A' m cap' ac) (bl m) (bl m) HMle.out w5 Y5.out Q5.out); rw [HS.out] at HQ; refine HQ.mono ?_; clear HQ; rintro e w6 ⟨rfl, hb⟩; have B6 := Lib.hid (B5.out.trans (hb.mono B5.out.size)); clear hb))
      all_goals (go_wp2_with fail)
      all_goals go_meet
      all_goals exact ⟨rfl, B6.out⟩
    case rest =>
      obtain ⟨rfl, hb⟩ := hcut
      have B6 := Lib.hid (B4.out.trans (hb.mono B4.out.size))
      have C6 := Lib.hid (C4.out.call L4.out hb)
      have X6 := Lib.hid (X4.out.below hb)
      have Y6 := Lib.hid (Y4.out.below hb)
      have L6 := Lib.hid (Nat.lt_of_lt_of_le L4.out hb.size)
      have P6 := Lib.hid (P4.out.call M4.out hb)
      have M6 := Lib.hid (Nat.lt_of_lt_of_le M4.out hb.size)
      clear hb B4 C4 X4 Y4 L4 P4 M4
      have HCp := Lib.hid (copy_any c xs h wc X6.out)
      obtain ⟨x0, x1, x2, x3, x4, x5, x6, x7, x8, x9, x10, x11⟩ := C6.out
      dsimp only [Cfg.cells] at HCp
      go_wp2_with fail
      refine HCp.out.mono ?_
      rintro e w7 ⟨Ad, cp, rfl, hown, hb⟩
      have hb8 : Below w7.heap.size w7 (w7.alloc (.cells #[.slice Ad c.n cp, .int .i64 c.f1, .int .i64 c.f2, .int .i64 c.f3, .int .i64 c.f4, .int .i64 c.f5, .int .i64 c.f6, .int .i64 c.f7, .int .i64 c.f8, .int .i64 c.f9, .int .i64 c.f10, .int .u64 c.f11] 53)) := (Below.refl _ _).alloc (Nat.le_refl _) _
      have HW8 := Lib.hid (show (w7.alloc (.cells #[.slice Ad c.n cp, .int .i64 c.f1, .int .i64 c.f2, .int .i64 c.f3, .int .i64 c.f4, .int .i64 c.f5, .int .i64 c.f6, .int .i64 c.f7, .int .i64 c.f8, .int .i64 c.f9, .int .i64 c.f10, .int .u64 c.f11] 53)).heap.size = w7.heap.size + 1 by simp)
      have B8 := Lib.hid ((B6.out.trans (hb.mono B6.out.size)).trans (hb8.mono (Nat.le_trans B6.out.size hb.size)))
      have C8 := Lib.hid ((C6.out.call L6.out hb).call (Nat.lt_of_lt_of_le L6.out hb.size) hb8)
      have X8 := Lib.hid ((X6.out.below hb).below hb8)
      have Y8 := Lib.hid ((Y6.out.below hb).below hb8)
      have L8 := Lib.hid (show w.heap.size < (w7.alloc (.cells #[.slice Ad c.n cp, .int .i64 c.f1, .int .i64 c.f2, .int .i64 c.f3, .int .i64 c.f4, .int .i64 c.f5, .int .i64 c.f6, .int .i64 c.f7, .int .i64 c.f8, .int .i64 c.f9, .int .i64 c.f10, .int .u64 c.f11] 53)).heap.size from Nat.lt_of_lt_of_le (Nat.lt_of_lt_of_le L6.out hb.size) hb8.size)
      have P8 := Lib.hid ((P6.out.call M6.out hb).call (Nat.lt_of_lt_of_le M6.out hb.size) hb8)
      have M8 := Lib.hid (show bp < (w7.alloc (.cells #[.slice Ad c.n cp, .int .i64 c.f1, .int .i64 c.f2, .int .i64 c.f3, .int .i64 c.f4, .int .i64 c.f5, .int .i64 c.f6, .int .i64 c.f7, .int .i64 c.f8, .int .i64 c.f9, .int .i64 c.f10, .int .u64 c.f11] 53)).heap.size from Nat.lt_of_lt_of_le (Nat.lt_of_lt_of_le M6.out hb.size) hb8.size)
      have D8 := Lib.hid (show CF (w7.alloc (.cells #[.slice Ad c.n cp, .int .i64 c.f1, .int .i64 c.f2, .int .i64 c.f3, .int .i64 c.f4, .int .i64 c.f5, .int .i64 c.f6, .int .i64 c.f7, .int .i64 c.f8, .int .i64 c.f9, .int .i64 c.f10, .int .u64 c.f11] 53)) w7.heap.size { c with A := Ad, cap := cp } from CF.new w7 { c with A := Ad, cap := cp })
      have O8 := Lib.hid (own_low (hown.alloc (.cells #[.slice Ad c.n cp, .int .i64 c.f1, .int .i64 c.f2, .int .i64 c.f3, .int .i64 c.f4, .int .i64 c.f5, .int .i64 c.f6, .int .i64 c.f7, .int .i64 c.f8, .int .i64 c.f9, .int .i64 c.f10, .int .u64 c.f11] 53)) (Nat.le_of_lt L6.out))
      have G7 := Lib.hid (show 0 < c.n → ∃ g, Ad = some ⟨g, 0, none⟩ ∧ w.heap.size < g ∧ g < w7.heap.size from fun h0 => by
        obtain ⟨g, cg, hv, h1, h2⟩ := hown.form h0
        injection hv with hA _ _
        exact ⟨g, hA, Nat.lt_of_lt_of_le L6.out h1, h2⟩)
      have N8 := Lib.hid (show w7.heap.size < (w7.alloc (.cells #[.slice Ad c.n cp, .int .i64 c.f1, .int .i64 c.f2, .int .i64 c.f3, .int .i64 c.f4, .int .i64 c.f5, .int .i64 c.f6, .int .i64 c.f7, .int .i64 c.f8, .int .i64 c.f9, .int .i64 c.f10, .int .u64 c.f11] 53)).heap.size by simp)
      clear hb hb8 hown B6 C6 X6 Y6 L6 P6 M6 x0 x1 x2 x3 x4 x5 x6 x7 x8 x9 x10 x11
      clear HW8
      go_upto_region 9 with fail
      obtain ⟨w8, hw8⟩ : ∃ W, W = w7.alloc (.cells #[.slice Ad c.n cp, .int .i64 c.f1, .int .i64 c.f2, .int .i64 c.f3, .int .i64 c.f4, .int .i64 c.f5, .int .i64 c.f6, .int .i64 c.f7, .int .i64 c.f8, .int .i64 c.f9, .int .i64 c.f10, .int .u64 c.f11] 53) := ⟨_, rfl⟩
      rw [← hw8] at B8 C8 X8 Y8 L8 P8 M8 D8 O8 N8
      rw [← hw8]
      clear hw8
      go_cut [60] (fun v wx => v = .bool false ∧ Below w8.heap.size w8 wx)
      case first =>
        have HK1 := Lib.hid (show ∀ W, Below w8.heap.size w8 W → Calls Try.prog 32 #[.agg c.cells, .agg ({ c with A := Ad, cap := cp } : Cfg).cells] W fun e w' => e = .returned (.bool true) ∧ Below W.heap.size W w' from fun W hb => by
          have := same_any c { c with A := Ad, cap := cp } xs xs (by omega) W (X8.out.below hb) ((bl_of_own O8.out).below hb)
          have hs : sameC c { c with A := Ad, cap := cp } xs xs = true := by simp [sameC, sameF]
          rwa [hs] at this)
        have HK2 := Lib.hid (show ∀ W, Below w8.heap.size w8 W → Calls Try.prog 32 #[.agg c.cells, .agg (plain A m cap ac).cells] W fun e w' => e = .returned (.bool (sameC c (plain A m cap ac) xs (bl m))) ∧ Below W.heap.size W w' from fun W hb =>
          same_any c (plain A m cap ac) xs (bl m) (by omega) W (X8.out.below hb) (Y8.out.below hb))
        have HK3 := Lib.hid (show ∀ W, Below w8.heap.size w8 W → Calls Try.prog 29 #[.agg c.cells, .agg (plain A m cap ac).cells] W fun e w' => e = .returned (.bool (sameC c (plain A m cap ac) xs (bl m))) ∧ Below W.heap.size W w' from fun W hb =>
          rsame_any c (plain A m cap ac) xs (bl m) (by omega) W (X8.out.below hb) (Y8.out.below hb))
        have hs3 : S3 w8 w.heap.size bp w7.heap.size c (plain A m cap ac) { c with A := Ad, cap := cp } w8 := S3.mk (Below.refl _ _) C8.out P8.out D8.out
        dsimp only [Cfg.cells, plain] at HK1 HK2 HK3
        generalize sameC c ⟨A, m, cap, ac, 2, 8, 8, 4, 3, 2, 4, 6, 0, 0⟩ xs (bl m) = sb at *
        dsimp only [S3, plain] at hs3
        go_region_held3 (fun W => Below w8.heap.size w8 W ∧ W.cell? ⟨w.heap.size, 0, none⟩ = some (.slice c.A c.n c.cap) ∧ W.cell? ⟨w.heap.size, 1, none⟩ = some (.int .i64 c.f1) ∧ W.cell? ⟨w.heap.size, 2, none⟩ = some (.int .i64 c.f2) ∧ W.cell? ⟨w.heap.size, 3, none⟩ = some (.int .i64 c.f3) ∧ W.cell? ⟨w.heap.size, 4, none⟩ = some (.int .i64 c.f4) ∧ W.cell? ⟨w.heap.size, 5, none⟩ = some (.int .i64 c.f5) ∧ W.cell? ⟨w.heap.size, 6, none⟩ = some (.int .i64 c.f6) ∧ W.cell? ⟨w.heap.size, 7, none⟩ = some (.int .i64 c.f7) ∧ W.cell? ⟨w.heap.size, 8, none⟩ = some (.int .i64 c.f8) ∧ W.cell? ⟨w.heap.size, 9, none⟩ = some (.int .i64 c.f9) ∧ W.cell? ⟨w.heap.size, 10, none⟩ = some (.int .i64 c.f10) ∧ W.cell? ⟨w.heap.size, 11, none⟩ = some (.int .u64 c.f11) ∧ W.cell? ⟨bp, 0, none⟩ = some (.slice A m cap) ∧ W.cell? ⟨bp, 1, none⟩ = some (.int .i64 ac) ∧ W.cell? ⟨bp, 2, none⟩ = some (.int .i64 2) ∧ W.cell? ⟨bp, 3, none⟩ = some (.int .i64 8) ∧ W.cell? ⟨bp, 4, none⟩ = some (.int .i64 8) ∧ W.cell? ⟨bp, 5, none⟩ = some (.int .i64 4) ∧ W.cell? ⟨bp, 6, none⟩ = some (.int .i64 3) ∧ W.cell? ⟨bp, 7, none⟩ = some (.int .i64 2) ∧ W.cell? ⟨bp, 8, none⟩ = some (.int .i64 4) ∧ W.cell? ⟨bp, 9, none⟩ = some (.int .i64 6) ∧ W.cell? ⟨bp, 10, none⟩ = some (.int .i64 0) ∧ W.cell? ⟨bp, 11, none⟩ = some (.int .u64 0) ∧ W.cell? ⟨w7.heap.size, 0, none⟩ = some (.slice Ad c.n cp) ∧ W.cell? ⟨w7.heap.size, 1, none⟩ = some (.int .i64 c.f1) ∧ W.cell? ⟨w7.heap.size, 2, none⟩ = some (.int .i64 c.f2) ∧ W.cell? ⟨w7.heap.size, 3, none⟩ = some (.int .i64 c.f3) ∧ W.cell? ⟨w7.heap.size, 4, none⟩ = some (.int .i64 c.f4) ∧ W.cell? ⟨w7.heap.size, 5, none⟩ = some (.int .i64 c.f5) ∧ W.cell? ⟨w7.heap.size, 6, none⟩ = some (.int .i64 c.f6) ∧ W.cell? ⟨w7.heap.size, 7, none⟩ = some (.int .i64 c.f7) ∧ W.cell? ⟨w7.heap.size, 8, none⟩ = some (.int .i64 c.f8) ∧ W.cell? ⟨w7.heap.size, 9, none⟩ = some (.int .i64 c.f9) ∧ W.cell? ⟨w7.heap.size, 10, none⟩ = some (.int .i64 c.f10) ∧ W.cell? ⟨w7.heap.size, 11, none⟩ = some (.int .u64 c.f11))
          (first | assumption | exact S3.drew (c2 := plain A m cap ac) (c3 := { c with A := Ad, cap := cp }) (by assumption) | exact S3.call (c2 := plain A m cap ac) (c3 := { c with A := Ad, cap := cp }) L8.out M8.out N8.out (by assumption) hb1 | exact S3.call (c2 := plain A m cap ac) (c3 := { c with A := Ad, cap := cp }) L8.out M8.out N8.out (S3.drew (c2 := plain A m cap ac) (c3 := { c with A := Ad, cap := cp }) (by assumption)) hb1)
          (first
            | (go_at_call 32; ((with_reducible refine (HK1.out _ (by first | exact BX.out | exact Below.refl _ _ | exact (Below.refl _ _).drew)).mono ?_); rintro e w1 ⟨rfl, hb1⟩; have BX := Lib.hid (step_below (w0 := w8) (by first | exact BX.out | exact Below.refl _ _ | exact (Below.refl _ _).drew) hb1)))
            | (go_at_call 32; ((with_reducible refine (HK2.out _ (by first | exact BX.out | exact Below.refl _ _ | exact (Below.refl _ _).drew)).mono ?_); rintro e w1 ⟨rfl, hb1⟩; have BX := Lib.hid (step_below (w0 := w8) (by first | exact BX.out | exact Below.refl _ _ | exact (Below.refl _ _).drew) hb1)))
            | (go_at_call 29; ((with_reducible refine (HK3.out _ (by first | exact BX.out | exact Below.refl _ _ | exact (Below.refl _ _).drew)).mono ?_); rintro e w1 ⟨rfl, hb1⟩; have BX := Lib.hid (step_below (w0 := w8) (by first | exact BX.out | exact Below.refl _ _ | exact (Below.refl _ _).drew) hb1))))
        go_wp2_with fail
        go_meet
        exact ⟨rfl, BX.out⟩
      case rest =>
        obtain ⟨rfl, hb⟩ := hcut
        have B9 := Lib.hid (B8.out.trans (hb.mono B8.out.size))
        have C9 := Lib.hid (C8.out.call L8.out hb)
        have D9 := Lib.hid (D8.out.call N8.out hb)
        have O9 := Lib.hid (own_below O8.out hb)
        have L9 := Lib.hid (Nat.lt_of_lt_of_le L8.out hb.size)
        have N9 := Lib.hid (Nat.lt_of_lt_of_le N8.out hb.size)
        clear hb B8 C8 X8 Y8 L8 P8 M8 D8 O8 N8
        have d0 : wc.cell? ⟨w7.heap.size, 0, none⟩ = some (.slice Ad c.n cp) := D9.out.1
        by_cases h0 : c.n = 0
        · have h1 : ((c.n : Int) == 0) = true := by simp [h0]
          go_wp2_with fail
          refine (awake_any _).mono ?_
          rintro e w10 ⟨rfl, hb⟩
          have B10 := Lib.hid (B9.out.trans (hb.mono B9.out.size))
          clear hb d0
          go_wp2
          go_ret
          exact ⟨rfl, B10.out⟩
        · have h1 : ((c.n : Int) == 0) = false := by simp; omega
          obtain ⟨g, rfl, hg1, hg2⟩ := G7.out (by omega)
          have hxl := Lib.hid (show xs.length = c.n from HX0.out.1)
          obtain ⟨b, hbx⟩ : ∃ b, b = xs.getD 0 false := ⟨_, rfl⟩
          have e0 : wc.cell? ⟨g, 0, none⟩ = some (.bool b) := by rw [hbx]; exact (O9.out.cellAt 0 (by omega)).trans (vb_at xs 0 (by have := hxl.out; omega))
          have f0 : wc.frozen? ⟨g, 0, none⟩ = false := O9.out.frozenAt 0
          have hc1 : (0 : Int) < (c.n : Int) := by omega
          have hst := (O9.out.stored 0 (.bool !b)).1
          have HS := Lib.hid (show CF (wc.drew.setCell ⟨g, 0, none⟩ (.bool !b)) w.heap.size c ∧ CF (wc.drew.setCell ⟨g, 0, none⟩ (.bool !b)) w7.heap.size { c with A := some ⟨g, 0, none⟩, cap := cp } ∧ Below w.heap.size w (wc.drew.setCell ⟨g, 0, none⟩ (.bool !b)) ∧ (wc.drew.setCell ⟨g, 0, none⟩ (.bool !b)).ownsRow w.heap.size 4 1 (.slice (some ⟨g, 0, none⟩) c.n cp) c.n (vb (xs.set 0 !b)) from
            ⟨C9.out.far (by omega), D9.out.far (by omega), B9.out.drew.setCell (p := ⟨g, 0, none⟩) (by show w.heap.size ≤ g; omega) _, by rw [vb_set]; exact hst⟩)
          have HZ := Lib.hid (show w.heap.size < (wc.drew.setCell ⟨g, 0, none⟩ (.bool !b)).heap.size ∧ w7.heap.size < (wc.drew.setCell ⟨g, 0, none⟩ (.bool !b)).heap.size from ⟨by simpa using L9.out, by simpa using N9.out⟩)
          have HNE := Lib.hid (show sameC c { c with A := some ⟨g, 0, none⟩, cap := cp } xs (xs.set 0 !b) = false by
            have : (xs == xs.set 0 !b) = false := by
              cases hq : (xs == xs.set 0 !b) with
              | false => rfl
              | true =>
                have hq := eq_of_beq hq
                have h2 : (xs.set 0 !b).getD 0 false = !b := by cases xs with
                  | nil => have := hxl.out; simp at this; omega
                  | cons x l => rfl
                rw [← hq, ← hbx] at h2
                cases b <;> simp at h2
            simp only [sameC, this, Bool.false_and])
          clear hst hbx
          go_upto_region 13 with fail
          go_cut [] (fun wx => wx = wc.drew.setCell ⟨g, 0, none⟩ (.bool !b))
          case first =>
            go_region_with fail
            all_goals (go_wp2_with fail)
            all_goals go_meet
            all_goals rfl
          case rest =>
            obtain rfl := hcut
            clear d0 e0 f0 B9 C9 D9 O9 L9 N9
            go_wp2_with fail
            refine (awake_any _).mono ?_
            rintro e w10 ⟨rfl, hb⟩
            obtain ⟨s1, s2, s3, s4⟩ := HS.out
            have B10 := Lib.hid (s3.trans (hb.mono s3.size))
            have HQ := same_any c { c with A := some ⟨g, 0, none⟩, cap := cp } xs (xs.set 0 !b) (by omega) w10 (HX0.out.below B10.out) ((bl_of_own s4).below hb)
            rw [HNE.out] at HQ
            dsimp only [Cfg.cells] at HQ
            have HQ2 := Lib.hid HQ
            obtain ⟨x0, x1, x2, x3, x4, x5, x6, x7, x8, x9, x10, x11⟩ := s1.call HZ.out.1 hb
            obtain ⟨y0, y1, y2, y3, y4, y5, y6, y7, y8, y9, y10, y11⟩ := s2.call HZ.out.2 hb
            dsimp only at y0 y1 y2 y3 y4 y5 y6 y7 y8 y9 y10 y11
            clear hb s1 s2 s3 s4 HQ
            go_wp2_with fail
            refine HQ2.out.mono ?_
            rintro e w11 ⟨rfl, hb⟩
            have B11 := Lib.hid (B10.out.trans (hb.mono B10.out.size))
            clear hb x0 x1 x2 x3 x4 x5 x6 x7 x8 x9 x10 x11 y0 y1 y2 y3 y4 y5 y6 y7 y8 y9 y10 y11
            go_wp2
            go_ret
            exact ⟨rfl, B11.out⟩

end Go.Proofs.Ytnidafgjbocfcaa.Conf
