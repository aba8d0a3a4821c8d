/- The law FaultKeeps. -/
import Derived.Test.YtlbgniiecbohcaaDoorFaultRef
namespace Go.Proofs.YtlbgniiecbohcaaDoor.Errs
open Go Go.RowKit Go.Extern.Stop Go.Stop Go.Extern

theorem fk_long (c : Int) (A : Option Addr) (n cap : Nat) (h : 40 < n) (w : World) (hg : Hg w) :
    Calls Tryd.prog 3 #[.int .i64 c, .slice A n cap] w fun e w' => e = .returned (.bool true) ∧ Below w.heap.size w w' := by
  have HA := Lib.hid (awake08 w hg)
  have hp : (40 : Int) < (n : Int) := by omega
  clear hg
  go_enter Tryd.func3, Tryd.ntmps3
  go_wp2_with fail
  refine HA.out.mono ?_
  rintro e w1 ⟨rfl, hb⟩
  have HB := Lib.hid hb
  clear hb
  go_wp2
  go_ret
  exact ⟨rfl, HB.out⟩

theorem fk_ok (A : Option Addr) (n cap : Nat) (h : ¬ 40 < n) (w : World) (hg : Hg w) :
    Calls Tryd.prog 3 #[.int .i64 0, .slice A n cap] w fun e w' => e = .returned (.bool true) ∧ Below w.heap.size w w' := by
  have HA := Lib.hid (awake08 w hg)
  have hp : ¬ (40 : Int) < (n : Int) := by omega
  clear hg
  go_enter Tryd.func3, Tryd.ntmps3
  go_wp2_with fail
  refine (of_ok _ _).mono ?_
  rintro e w1 ⟨rfl, hw⟩
  obtain rfl := hw.symm
  clear hw
  go_wp2_with fail
  refine HA.out.mono ?_
  rintro e w1 ⟨rfl, hb⟩
  have HB := Lib.hid hb
  clear hb
  go_wp2_with fail
  refine (code_nil _).mono ?_
  rintro e w2 ⟨rfl, hw⟩
  obtain rfl := hw.symm
  clear hw
  go_wp2_with fail
  refine (places_nil _).mono ?_
  rintro e w2 ⟨rfl, hb⟩
  have HB2 := Lib.hid (HB.out.trans (hb.mono HB.out.size))
  clear hb
  go_wp2_with fail
  refine (text_nil _).mono ?_
  rintro e w3 ⟨rfl, hw⟩
  obtain rfl := hw.symm
  clear hw
  go_wp2_with fail
  refine (fis_nil0 _).mono ?_
  rintro e w3 ⟨rfl, hw⟩
  obtain rfl := hw.symm
  clear hw
  go_wp2_with fail
  refine (fis_nil1 _).mono ?_
  rintro e w3 ⟨rfl, hw⟩
  obtain rfl := hw.symm
  clear hw
  go_wp2
  go_ret
  exact ⟨rfl, HB2.out⟩

set_option maxHeartbeats 2000000 in
theorem fk_some (c : Int) (hc : c ≠ 0) (xs : List Int) (v : Value) (h : ¬ 40 < xs.length) (w : World) (hv : Nums w v xs) (hg : Hg w) :
    Calls Tryd.prog 3 #[.int .i64 c, v] w fun e w' => e = .returned (.bool true) ∧ Below w.heap.size w w' := by
  have HG := Lib.hid hg
  have HV := Lib.hid hv
  have hp : ¬ (40 : Int) < (xs.length : Int) := by omega
  have HO := Lib.hid (of_any c hc xs (by omega) v w hv)
  have hx9 := Lib.hid (show xs.length ≤ 9223372036854775807 by omega)
  have hx1 := Lib.hid (show xs.length ≤ 1000 by omega)
  have hrl := Lib.hid (show xs.reverse.length = xs.length by simp)
  have hll := Lib.hid (show xs.reverse.length ≤ 1000 by simp; omega)
  have hF : Base.isF (.num c) c = true := by simp [Base.isF, Base.is, hc]
  have hF0 : Base.isF (.num c) 0 = false := by simp [Base.isF]
  have hI : (Base.num c).is c = true := by simp [Base.is]
  have hc0 : (c == 0) = false := by simpa using hc
  obtain ⟨A, cap, rfl, _⟩ := hv
  clear hg hc
  go_enter Tryd.func3, Tryd.ntmps3
  go_wp2_with fail
  refine HO.out.mono ?_
  rintro e w1 ⟨u, rfl, hch, hb⟩
  have H1 := Lib.hid hb
  have C1 := Lib.hid hch
  obtain ⟨t, z, rfl⟩ := hch.iface
  have HC := Lib.hid (code_any _ _ _ _ hch hll.out (HG.out.below H1.out HG.out.lt))
  dsimp only [Base.code] at HC
  clear hb hch
  go_wp2_with fail
  refine HC.out.mono ?_
  rintro e w2 ⟨rfl, hb⟩
  have H2 := Lib.hid (H1.out.trans (hb.mono H1.out.size))
  have C2 := Lib.hid (C1.out.below hb)
  have HI2 := Lib.hid (fis_any _ _ _ c _ C2.out hll.out (HG.out.below H2.out HG.out.lt))
  rw [hF] at HI2
  clear hb
  go_wp2_with fail
  refine HI2.out.mono ?_
  rintro e w3 ⟨rfl, hb⟩
  have H3 := Lib.hid (H2.out.trans (hb.mono H2.out.size))
  have C3 := Lib.hid (C2.out.below hb)
  have HI3 := Lib.hid (fis_any _ _ _ 0 _ C3.out hll.out (HG.out.below H3.out HG.out.lt))
  rw [hF0] at HI3
  clear hb
  go_wp2_with fail
  refine HI3.out.mono ?_
  rintro e w4 ⟨rfl, hb⟩
  have H4 := Lib.hid (H3.out.trans (hb.mono H3.out.size))
  have C4 := Lib.hid (C3.out.below hb)
  have HA := Lib.hid (awake08 _ (HG.out.below H4.out HG.out.lt))
  clear hb
  go_wp2_with fail
  refine HA.out.mono ?_
  rintro e w5 ⟨rfl, hb⟩
  have H5 := Lib.hid (H4.out.trans (hb.mono H4.out.size))
  have C5 := Lib.hid (C4.out.below hb)
  have HP := Lib.hid (places_any _ _ _ _ _ C5.out hll.out)
  clear hb
  go_wp2_with fail
  refine HP.out.mono ?_
  rintro e w6 ⟨ul, rfl, hown, hb⟩
  rw [hrl.out] at hown
  have H6 := Lib.hid (H5.out.trans (hb.mono H5.out.size))
  have C6 := Lib.hid (C5.out.below hb)
  have N6 := Lib.hid (nums_of_own hown)
  have HT := Lib.hid (turned_n xs hx1.out _ _ (HV.out.below H6.out))
  obtain ⟨A6, c6, rfl⟩ := own_form hown
  clear hb hown
  go_wp2_with fail
  refine HT.out.mono ?_
  rintro e w7 ⟨ut, rfl, hown, hb⟩
  have H7 := Lib.hid (H6.out.trans (hb.mono H6.out.size))
  have C7 := Lib.hid (C6.out.below hb)
  have HS := Lib.hid (same_n _ _ xs.reverse (by rw [hrl.out]; exact hx9.out) _ (N6.out.below hb) (nums_of_own hown))
  obtain ⟨A7, c7, rfl⟩ := own_form hown
  clear hb hown
  go_wp2_with fail
  refine HS.out.mono ?_
  rintro e w8 ⟨rfl, hb⟩
  have H8 := Lib.hid (H7.out.trans (hb.mono H7.out.size))
  have C8 := Lib.hid (C7.out.below hb)
  have HX := Lib.hid (text_any _ _ _ _ C8.out hll.out (HG.out.below H8.out HG.out.lt))
  rw [text_same] at HX
  clear hb
  go_wp2_with fail
  refine HX.out.mono ?_
  rintro e w9 ⟨rfl, hb⟩
  have H9 := Lib.hid (H8.out.trans (hb.mono H8.out.size))
  have C9 := Lib.hid (C8.out.below hb)
  have HY := Lib.hid (text_r c xs hx1.out _ _ (HV.out.below H9.out))
  clear hb
  go_wp2_with fail
  refine HY.out.mono ?_
  rintro e w10 ⟨rfl, hb⟩
  have H10 := Lib.hid (H9.out.trans (hb.mono H9.out.size))
  have C10 := Lib.hid (C9.out.below hb)
  have HZ := Lib.hid (is_any _ _ _ c _ C10.out hll.out)
  rw [hI] at HZ
  generalize textR c xs = tt at *
  clear hb
  go_wp2_with fail
  refine HZ.out.mono ?_
  rintro e w11 ⟨rfl, hw⟩
  obtain rfl := hw.symm
  clear hw
  go_wp2
  go_ret
  exact ⟨rfl, H10.out⟩

end Go.Proofs.YtlbgniiecbohcaaDoor.Errs
