/- The law FaultOthers. -/
import Derived.Test.YtlbgniiecbohcaaDoorFaultRef
namespace Go.Proofs.YtlbgniiecbohcaaDoor.Errs
open Go Go.RowKit Go.Extern.Stop Go.Stop Go.Extern

theorem none_unwrap (w : World) : Calls Tryd.prog 17 #[.pointer none] w fun e w' => e = .returned .nilIface ∧ w' = w := by
  go_enter Tryd.func17, Tryd.ntmps17
  go_wp2
  go_ret
  exact ⟨rfl, rfl⟩
theorem none_error (w : World) : Calls Tryd.prog 18 #[.pointer none] w fun e w' => e = .returned (.string ⟨#[]⟩) ∧ w' = w := by
  go_enter Tryd.func18, Tryd.ntmps18
  go_wp2
  go_ret
  exact ⟨rfl, rfl⟩

theorem fo_long (s : ByteArray) (x : Int) (A : Option Addr) (n cap : Nat) (h : 40 < n ∨ 100 < s.size) (w : World) (hg : Hg w) :
    Calls Tryd.prog 4 #[.string s, .slice A n cap, .int .i64 x] w fun e w' => e = .returned (.bool true) ∧ Below w.heap.size w w' := by
  have HA := Lib.hid (awake08 w hg)
  clear hg
  by_cases h0 : 40 < n
  · have hp : (40 : Int) < (n : Int) := by omega
    clear h
    go_enter Tryd.func4, Tryd.ntmps4
    go_wp2_with fail
    refine HA.out.mono ?_
    rintro e w1 ⟨rfl, hb⟩
    have HB := Lib.hid hb
    clear hb
    go_wp2
    go_ret
    exact ⟨rfl, HB.out⟩
  · have hp : ¬ (40 : Int) < (n : Int) := by omega
    have hq : (100 : Int) < (s.size : Int) := by omega
    clear h
    go_enter Tryd.func4, Tryd.ntmps4
    go_wp2_with fail
    refine HA.out.mono ?_
    rintro e w1 ⟨rfl, hb⟩
    have HB := Lib.hid hb
    clear hb
    go_wp2
    go_ret
    exact ⟨rfl, HB.out⟩

set_option maxHeartbeats 2000000 in
theorem fo_few (s : ByteArray) (x : Int) (xs : List Int) (v : Value) (h : ¬ 40 < xs.length) (hs : ¬ 100 < s.size) (w : World) (hv : Nums w v xs) (hg : Hg w) :
    Calls Tryd.prog 4 #[.string s, v, .int .i64 x] w fun e w' => e = .returned (.bool true) ∧ Below w.heap.size w w' := by
  have HG := Lib.hid hg
  have HV := Lib.hid hv
  have hp : ¬ (40 : Int) < (xs.length : Int) := by omega
  have hq : ¬ (100 : Int) < (s.size : Int) := by omega
  have hx1 := Lib.hid (show xs.length ≤ 1000 by omega)
  have hll := Lib.hid (show xs.reverse.length ≤ 1000 by simp; omega)
  obtain ⟨A, cap, rfl, hr⟩ := hv
  have HR := Lib.hid hr
  clear hg hr
  go_enter Tryd.func4, Tryd.ntmps4
  go_wp2_with fail
  refine (new_any s w).mono ?_
  rintro e w1 ⟨rfl, hb⟩
  have H1 := Lib.hid hb
  have C1 := Lib.hid (show Ch w1 [] (.text ⟨w.heap.size, 0, none⟩) (Base.val (.text ⟨w.heap.size, 0, none⟩)) from rfl)
  generalize (⟨w.heap.size, 0, none⟩ : Addr) = ea at *
  dsimp only [Base.val] at C1 ⊢
  clear hb
  go_wp2_with fail
  go_loopw [7, 8] (fun u i wr => ∃ k : Nat, i = .int .i64 (k : Int) ∧ k ≤ xs.length ∧ Hid (Ch wr (xs.take k).reverse (.text ea) u ∧ Below w.heap.size w wr)) (fun _ i _ => xs.length - (intOf i).toNat)
  case atStart => exact ⟨0, rfl, Nat.zero_le _, Lib.hid ⟨C1.out, H1.out⟩⟩
  case round =>
    obtain ⟨k, rfl, hk, hw⟩ := hrel
    by_cases hlt : k < xs.length
    · obtain ⟨b, off, rfl, hbl, hcs⟩ := HR.out (by omega)
      have hck := (hw.out.2.cell (p := ⟨b, off + k, none⟩) hbl).trans (hcs k hlt)
      have hlt1 : (k : Int) < (xs.length : Int) := by omega
      have HA := Lib.hid (fun u => at_any (xs.getD k 0) (xs.take k).reverse (.text ea) u wr)
      have hee := Lib.hid (show (xs.take (k + 1)).reverse = xs.getD k 0 :: (xs.take k).reverse by rw [List.take_succ_eq_append_getElem hlt, List.reverse_append, List.getD_eq_getElem?_getD, List.getElem?_eq_getElem hlt]; rfl)
      clear hcs hbl
      generalize xs.getD k 0 = y at *
      go_wp2_with fail
      refine (HA.out _ hw.out.1).mono ?_
      rintro e w2 ⟨u, rfl, hch, hb⟩
      have HZ := Lib.hid (show Ch w2 (xs.take (k + 1)).reverse (.text ea) u ∧ Below w.heap.size w w2 from ⟨by rw [hee.out]; exact hch, hw.out.2.trans (hb.mono hw.out.2.size)⟩)
      clear hch hb hck hee HA hw
      go_wp2
      exact ⟨⟨k + 1, by go_num, by omega, HZ⟩, by simp [intOf]; omega⟩
    · obtain rfl : k = xs.length := by omega
      have C2 := Lib.hid (show Ch wr xs.reverse (.text ea) _ from by have := hw.out.1; rwa [List.take_length] at this)
      have H2 := Lib.hid hw.out.2
      clear hw
      obtain ⟨t, z, rfl⟩ := C2.out.iface
      go_wp2_with fail
      go_loopw [9, 10] (fun b i wx => Hid (wx = wr) ∧ ∃ k : Nat, i = .int .i64 (k : Int) ∧ k ≤ xs.length ∧ b = .bool (hasP x (xs.take k))) (fun _ i _ => xs.length - (intOf i).toNat)
      case atStart => exact ⟨Lib.hid rfl, 0, rfl, Nat.zero_le _, rfl⟩
      case round =>
        obtain ⟨hw, k, rfl, hk, rfl⟩ := hrel
        obtain rfl := hw.out
        clear hw
        by_cases hlt : k < xs.length
        · have hlt1 : (k : Int) < (xs.length : Int) := by omega
          have HT := Lib.hid (hasP_take x xs k hlt)
          obtain ⟨b, off, rfl, hbl, hcs⟩ := HR.out (by omega)
          have hck := (H2.out.cell (p := ⟨b, off + k, none⟩) hbl).trans (hcs k hlt)
          clear hcs hbl
          cases hp : hasP x (xs.take k) with
          | true =>
            rw [hp] at HT
            go_wp2
            exact ⟨⟨Lib.hid (by simp), k + 1, by go_num, by omega, by rw [HT.out]; rfl⟩, by simp [intOf]; omega⟩
          | false =>
            rw [hp] at HT
            generalize xs.getD k 0 = y at *
            by_cases hy : y = x
            · subst hy
              have hyb : (y == y) = true := by simp
              go_wp2
              exact ⟨⟨Lib.hid (by simp), k + 1, by go_num, by omega, by rw [HT.out, hyb]; rfl⟩, by simp [intOf]; omega⟩
            · have hyb : (y == x) = false := by simpa using hy
              go_wp2
              exact ⟨⟨Lib.hid (by simp), k + 1, by go_num, by omega, by rw [HT.out, hyb]; rfl⟩, by simp [intOf]; omega⟩
        · obtain rfl : k = xs.length := by omega
          rw [List.take_length]
          have hh := Lib.hid (hasP_reverse x xs)
          have hF : Base.isF (.text ea) 1 = false := rfl
          have HNa := Lib.hid (name_p x)
          have HNb := Lib.hid (name_r x)
          generalize hasP x xs = hx at *
          generalize nameP x = nx at *
          go_wp2_with fail
          refine (none_unwrap _).mono ?_
          rintro e w3 ⟨rfl, hw⟩
          obtain rfl := hw.symm
          clear hw
          go_wp2_with fail
          refine (none_error _).mono ?_
          rintro e w3 ⟨rfl, hw⟩
          obtain rfl := hw.symm
          clear hw
          go_wp2_with fail
          refine (HNa.out _).mono ?_
          rintro e w3 ⟨rfl, hw⟩
          obtain rfl := hw.symm
          clear hw
          go_wp2_with fail
          refine (HNb.out _).mono ?_
          rintro e w3 ⟨rfl, hb⟩
          have H3 := Lib.hid (H2.out.trans (hb.mono H2.out.size))
          have C3 := Lib.hid (C2.out.below hb)
          have HA := Lib.hid (awake08 _ (HG.out.below H3.out HG.out.lt))
          clear hb
          go_wp2_with fail
          refine HA.out.mono ?_
          rintro e w4 ⟨rfl, hb⟩
          have H4 := Lib.hid (H3.out.trans (hb.mono H3.out.size))
          have C4 := Lib.hid (C3.out.below hb)
          have HC := Lib.hid (code_any _ _ _ _ C4.out hll.out (HG.out.below H4.out HG.out.lt))
          dsimp only [Base.code] at HC
          clear hb
          go_wp2_with fail
          refine HC.out.mono ?_
          rintro e w5 ⟨rfl, hb⟩
          have H5 := Lib.hid (H4.out.trans (hb.mono H4.out.size))
          have C5 := Lib.hid (C4.out.below hb)
          have HI := Lib.hid (fis_any _ _ _ 1 _ C5.out hll.out (HG.out.below H5.out HG.out.lt))
          rw [hF] at HI
          clear hb
          go_wp2_with fail
          refine HI.out.mono ?_
          rintro e w6 ⟨rfl, hb⟩
          have H6 := Lib.hid (H5.out.trans (hb.mono H5.out.size))
          have C6 := Lib.hid (C5.out.below hb)
          have HH := Lib.hid (has_any _ _ _ x _ C6.out hll.out (HG.out.below H6.out HG.out.lt))
          rw [hh.out] at HH
          clear hb
          go_wp2_with fail
          refine HH.out.mono ?_
          rintro e w7 ⟨rfl, hb⟩
          have H7 := Lib.hid (H6.out.trans (hb.mono H6.out.size))
          have C7 := Lib.hid (C6.out.below hb)
          have HX := Lib.hid (text_any _ _ _ _ C7.out hll.out (HG.out.below H7.out HG.out.lt))
          rw [show textB xs.reverse (.text ea) = textR 1 xs from text_same 1 xs] at HX
          clear hb
          go_wp2_with fail
          refine HX.out.mono ?_
          rintro e w8 ⟨rfl, hb⟩
          have H8 := Lib.hid (H7.out.trans (hb.mono H7.out.size))
          have HY := Lib.hid (text_r 1 xs hx1.out _ _ (HV.out.below H8.out))
          generalize textR 1 xs = tt at *
          clear hb
          go_wp2_with fail
          refine HY.out.mono ?_
          rintro e w9 ⟨rfl, hb⟩
          have H9 := Lib.hid (H8.out.trans (hb.mono H8.out.size))
          clear hb
          go_wp2
          go_ret
          exact ⟨rfl, H9.out⟩

end Go.Proofs.YtlbgniiecbohcaaDoor.Errs
