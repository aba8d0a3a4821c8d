/- The law FaultWraps. -/
import Derived.Test.YtidpbinhcfbpmaaDoorFaultLaw
namespace Go.Proofs.YtidpbinhcfbpmaaDoor.Errs
open Go Go.RowKit Go.Extern.Stop Go.Stop Go.Extern

theorem fw_long (a b x : Int) (A : Option Addr) (n cap : Nat) (h : 40 < n) (w : World) (hg : Hg w) :
    Calls Tryd.prog 6 #[.agg #[.int .i64 a, .int .i64 b], .slice A n cap, .int .i64 x] w fun e w' => e = .returned (.bool true) ∧ Below w.heap.size w w' := by
  have hb0 : Below w.heap.size w (w.alloc (.cells #[.int .i64 a, .int .i64 b] 38)) := (Below.refl _ _).alloc (Nat.le_refl _) _
  have HA := Lib.hid (awake08 _ (hg.below hb0 hg.lt))
  have HB0 := Lib.hid hb0
  have hp : (40 : Int) < (n : Int) := by omega
  clear hg hb0
  go_enter Tryd.func6, Tryd.ntmps6
  go_wp2_with fail
  refine HA.out.mono ?_
  rintro e w1 ⟨rfl, hb⟩
  have HB := Lib.hid (HB0.out.trans (hb.mono (by simp)))
  clear hb
  go_wp2
  go_ret
  exact ⟨rfl, HB.out⟩

theorem fw_ok (b x : Int) (A : Option Addr) (n cap : Nat) (h : ¬ 40 < n) (w : World) (hg : Hg w) :
    Calls Tryd.prog 6 #[.agg #[.int .i64 0, .int .i64 b], .slice A n cap, .int .i64 x] w fun e w' => e = .returned (.bool true) ∧ Below w.heap.size w w' := by
  have hb0 : Below w.heap.size w (w.alloc (.cells #[.int .i64 0, .int .i64 b] 38)) := (Below.refl _ _).alloc (Nat.le_refl _) _
  have HB0 := Lib.hid hb0
  have HG := Lib.hid hg
  have hp : ¬ (40 : Int) < (n : Int) := by omega
  clear hg hb0
  go_enter Tryd.func6, Tryd.ntmps6
  go_wp2_with fail
  go_region
  have HD := Lib.hid (HB0.out.drew)
  generalize (w.alloc (.cells #[.int .i64 0, .int .i64 b] 38)).drew = wd at *
  have HA := Lib.hid (awake08 _ (HG.out.below HD.out HG.out.lt))
  clear HB0
  go_wp2_with (first
    | (go_at_call 9; refine (of_ok _ _).mono ?_; rintro e w1 ⟨rfl, hw⟩; obtain rfl := hw.symm; clear hw)
    | (go_at_call 15; refine (at_nil _ _).mono ?_; rintro e w1 ⟨rfl, hw⟩; obtain rfl := hw.symm; clear hw)
    | (go_at_call 19; refine HA.out.mono ?_; rintro e w1 ⟨rfl, hb⟩; have HB := Lib.hid (HD.out.trans (hb.mono HD.out.size)); clear hb))
  go_ret
  exact ⟨rfl, HB.out⟩

set_option maxHeartbeats 2000000 in
theorem fw_some (a b x : Int) (ha : a ≠ 0) (xs : List Int) (v : Value) (h : ¬ 40 < xs.length) (w : World) (hv : Nums w v xs) (hg : Hg w) :
    Calls Tryd.prog 6 #[.agg #[.int .i64 a, .int .i64 b], v, .int .i64 x] w fun e w' => e = .returned (.bool true) ∧ Below w.heap.size w w' := by
  have hb0 : Below w.heap.size w (w.alloc (.cells #[.int .i64 a, .int .i64 b] 38)) := (Below.refl _ _).alloc (Nat.le_refl _) _
  have HB0 := Lib.hid hb0
  have HG := Lib.hid hg
  have hp : ¬ (40 : Int) < (xs.length : Int) := by omega
  have HV := Lib.hid (show ∀ w1, Below w.heap.size w w1 → _ from fun w1 hb => of_any a ha xs (by omega) v w1 (hv.below hb))
  have hlen : xs.reverse.length ≤ 40 := by simp; omega
  have hrl := Lib.hid (show (x :: xs.reverse).length = xs.length + 1 by simp)
  have hrl0 := Lib.hid (show xs.reverse.length = xs.length by simp)
  have hll := Lib.hid (show (x :: xs.reverse).length ≤ 1000 by simp; omega)
  have hll0 := Lib.hid (show xs.reverse.length ≤ 1000 by omega)
  have hF : Base.isF (.num a) b = (a == b) := by
    by_cases hb : b = 0
    · subst hb
      simp [Base.isF, ha]
    · simp [Base.isF, Base.is, hb]
  have hHas : hasP x (x :: xs.reverse) = true := by simp [hasP]
  obtain ⟨A, cap, rfl, _⟩ := hv
  have ha0 : (a == 0) = false := by simpa using ha
  clear hg hb0 ha hlen
  go_enter Tryd.func6, Tryd.ntmps6
  go_wp2_with fail
  go_region
  have HD := Lib.hid (HB0.out.drew)
  generalize (w.alloc (.cells #[.int .i64 a, .int .i64 b] 38)).drew = wd at *
  clear HB0
  have HO := Lib.hid (HV.out wd HD.out)
  go_wp2_with fail
  refine HO.out.mono ?_
  rintro e w1 ⟨u, rfl, hch, hb⟩
  have H1 := Lib.hid (HD.out.trans (hb.mono HD.out.size))
  have C1 := Lib.hid hch
  have HT := Lib.hid (at_any x xs.reverse (.num a) u w1 hch)
  obtain ⟨tu, zu, rfl⟩ := hch.iface
  clear hb hch
  go_wp2_with fail
  refine HT.out.mono ?_
  rintro e w2 ⟨u2, rfl, hch, hb⟩
  have H2 := Lib.hid (H1.out.trans (hb.mono H1.out.size))
  have C2 := Lib.hid hch
  have HC := Lib.hid (code_any _ _ _ _ hch hll.out (HG.out.below H2.out HG.out.lt))
  obtain ⟨t2, z2, rfl⟩ := hch.iface
  dsimp only [Base.code] at HC
  clear hb hch
  go_wp2_with fail
  refine HC.out.mono ?_
  rintro e w3 ⟨rfl, hb⟩
  have H3 := Lib.hid (H2.out.trans (hb.mono H2.out.size))
  have C3 := Lib.hid (C2.out.below hb)
  have HI := Lib.hid (fis_any _ _ _ b _ C3.out hll.out (HG.out.below H3.out HG.out.lt))
  rw [hF] at HI
  clear hb
  go_wp2_with fail
  refine HI.out.mono ?_
  rintro e w4 ⟨rfl, hb⟩
  have H4 := Lib.hid (H3.out.trans (hb.mono H3.out.size))
  have C4 := Lib.hid (C3.out.below hb)
  have HP := Lib.hid (places_any _ _ _ _ _ C4.out hll.out)
  clear hb
  generalize hab : (a == b) = ab at *

  go_wp2_with fail
  refine HP.out.mono ?_
  rintro e w5 ⟨ul, rfl, hown, hb⟩
  obtain ⟨g, cap5, rfl, hbg, hgl⟩ := hown.form (by rw [hrl.out]; omega)
  have hc5 : w5.cell? ⟨g, 0, none⟩ = some (.int .i64 x) := hown.cellAt 0 (by simp)
  have H5 := Lib.hid (H4.out.trans (hb.mono H4.out.size))
  have C5 := Lib.hid (C4.out.below hb)
  have P5 := Lib.hid (And.intro hgl hc5)
  have HU := Lib.hid (unwrap_cons C5.out)
  rw [hrl.out]
  clear hb hown hc5 hgl
  go_wp2_with fail
  refine HU.out.mono ?_
  rintro e w6 ⟨u6, rfl, hw, hch⟩
  obtain rfl := hw.symm
  have C6 := Lib.hid hch
  obtain ⟨t6, z6, rfl⟩ := hch.iface
  have HA := Lib.hid (awake08 _ (HG.out.below H5.out HG.out.lt))
  clear hw hch
  go_wp2_with fail
  refine HA.out.mono ?_
  rintro e w7 ⟨rfl, hb⟩
  have H7 := Lib.hid (H5.out.trans (hb.mono H5.out.size))
  have C7 := Lib.hid (C6.out.below hb)
  have D7 := Lib.hid (C5.out.below hb)
  have hc7 := (hb.cell (p := ⟨g, 0, none⟩) P5.out.1).trans P5.out.2
  have HH := Lib.hid (has_any _ _ _ x _ D7.out hll.out (HG.out.below H7.out HG.out.lt))
  rw [hHas] at HH
  clear hb

  go_wp2_with fail
  refine HH.out.mono ?_
  rintro e w8 ⟨rfl, hb⟩
  have H8 := Lib.hid (H7.out.trans (hb.mono H7.out.size))
  have C8 := Lib.hid (C7.out.below hb)
  have HC8 := Lib.hid (code_any _ _ _ _ C8.out hll0.out (HG.out.below H8.out HG.out.lt))
  dsimp only [Base.code] at HC8
  clear hb
  go_wp2_with fail
  refine HC8.out.mono ?_
  rintro e w9 ⟨rfl, hb⟩
  have H9 := Lib.hid (H8.out.trans (hb.mono H8.out.size))
  have C9 := Lib.hid (C8.out.below hb)
  have HP9 := Lib.hid (places_any _ _ _ _ _ C9.out hll0.out)
  clear hb
  go_wp2_with fail
  refine HP9.out.mono ?_
  rintro e w10 ⟨ul, rfl, hown, hb⟩
  have H10 := Lib.hid (H9.out.trans (hb.mono H9.out.size))
  obtain ⟨A10, c10, rfl⟩ := own_form hown
  rw [hrl0.out]
  clear hb hown
  go_wp2
  go_ret
  exact ⟨rfl, H10.out⟩

end Go.Proofs.YtidpbinhcfbpmaaDoor.Errs
