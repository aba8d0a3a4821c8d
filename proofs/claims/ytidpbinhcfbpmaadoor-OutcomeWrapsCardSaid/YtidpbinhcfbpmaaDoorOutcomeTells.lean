/- The page's example of outcomes, and the law OutcomeTells. -/
import Derived.Test.YtidpbinhcfbpmaaDoorOutcome
namespace Go.Proofs.YtidpbinhcfbpmaaDoor.Errs
open Go.RowKit Go.Extern.Stop Go.Stop Go.Extern

theorem awake28 (w : World) (hg : Hg w) : Calls Tryd.prog 7 #[] w fun e w' => e = .returned (.bool true) ∧ Below w.heap.size w w' := by
  have HG := Lib.hid hg
  have HB := Lib.hid (show Below w.heap.size w (w.alloc (.cells #[.int .i64 1, .int .i64 3, .int .i64 6, .int .i64 7] 3)) from (Below.refl _ _).alloc (Nat.le_refl _) _)
  clear hg
  go_enter Tryd.func7, Tryd.ntmps7
  go_wp2_with fail
  refine (of_any 13 (by decide) [1, 3, 6, 7] (by decide) _ _ ⟨_, _, rfl, fun _ => ⟨w.heap.size, 0, rfl, by simp, fun i hi => ?_⟩⟩).mono ?_
  · rw [cell_of_row _ w.heap.size (0 + i) _ _ (0, 0) (heap_alloc_new w _)]
    have hi' : i = 0 ∨ i = 1 ∨ i = 2 ∨ i = 3 := by simp at hi; omega
    rcases hi' with rfl | rfl | rfl | rfl <;> rfl
  rintro e w1 ⟨u, rfl, hch, hb⟩
  have HO := Lib.hid (out_13l _ (by decide) u w1 hch (by decide) (HG.out.below (HB.out.trans (hb.mono (by simp))) HG.out.lt))
  have HZ := Lib.hid (HB.out.trans (hb.mono (by simp)))
  have HN := Lib.hid (fun w => (by simpa [nameK] using name_any 2 w : Calls Tryd.prog 16 #[.int .i64 2] w fun e w' => e = .returned (.string ⟨#[115, 116, 97, 108, 101]⟩) ∧ w' = w))
  clear hch hb
  go_wp2_with (first | (go_at_call 8; refine HO.out.mono ?_; rintro e w2 ⟨rfl, hb2⟩; have HY := Lib.hid (HZ.out.trans (hb2.mono HZ.out.size)); clear hb2) | (go_at_call 16; refine (HN.out _).mono ?_; rintro e w3 ⟨rfl, hw3⟩; obtain rfl := hw3.symm))
  go_ret
  exact ⟨rfl, HY.out⟩

theorem tells_long (k : Int) (s : ByteArray) (h : 100 < s.size) (w : World) (hg : Hg w) :
    Calls Tryd.prog 5 #[.int .i64 k, .string s] w fun e w' => e = .returned (.bool true) ∧ Below w.heap.size w w' := by
  have HA := Lib.hid (awake28 w hg)
  have hp : (100 : Int) < (s.size : Int) := by omega
  clear hg
  go_enter Tryd.func5, Tryd.ntmps5
  go_wp2_with fail
  refine HA.out.mono ?_
  rintro e w1 ⟨rfl, hb⟩
  have HB := Lib.hid hb
  clear hb
  go_wp2
  go_ret
  exact ⟨rfl, HB.out⟩

theorem tells_few (k : Int) (s : ByteArray) (h : ¬ 100 < s.size) (w : World) (hg : Hg w) :
    Calls Tryd.prog 5 #[.int .i64 k, .string s] w fun e w' => e = .returned (.bool true) ∧ Below w.heap.size w w' := by
  have HA := Lib.hid (awake28 w hg)
  have hp : ¬ (100 : Int) < (s.size : Int) := by omega
  have HG := Lib.hid hg
  have HN := Lib.hid (name_any k)
  have HNr := Lib.hid (name_ref k)
  have HO := Lib.hid (op_any k)
  have HOr := Lib.hid (op_ref k)
  have HG1 := Lib.hid (again_any k)
  have HGr := Lib.hid (again_ref k)
  generalize nameK k = nk at *
  generalize opK k = ok at *
  generalize againK k = ak at *
  clear hg
  go_enter Tryd.func5, Tryd.ntmps5
  go_wp2_with fail
  refine HA.out.mono ?_
  rintro e w1 ⟨rfl, hb⟩
  have H1 := Lib.hid hb
  clear hb
  go_wp2_with fail
  refine (HN.out _).mono ?_
  rintro e w2 ⟨rfl, hw⟩
  obtain rfl := hw.symm
  go_wp2_with fail
  refine (HNr.out _).mono ?_
  rintro e w2 ⟨rfl, hb⟩
  have H2 := Lib.hid (H1.out.trans (hb.mono H1.out.size))
  clear hb hw
  go_wp2_with fail
  refine (HO.out _).mono ?_
  rintro e w3 ⟨rfl, hw⟩
  obtain rfl := hw.symm
  go_wp2_with fail
  refine (HOr.out _).mono ?_
  rintro e w3 ⟨rfl, hb⟩
  have H3 := Lib.hid (H2.out.trans (hb.mono H2.out.size))
  clear hb hw
  go_wp2_with fail
  refine (HG1.out _).mono ?_
  rintro e w4 ⟨rfl, hw⟩
  obtain rfl := hw.symm
  go_wp2_with fail
  refine (HGr.out _).mono ?_
  rintro e w4 ⟨rfl, hw⟩
  obtain rfl := hw.symm
  go_wp2_with fail
  refine (new_any s _).mono ?_
  rintro e w4 ⟨rfl, hb⟩
  have H4 := Lib.hid (H3.out.trans (hb.mono H3.out.size))
  have HT := Lib.hid (out_any [] (.text ⟨w3.heap.size, 0, none⟩) _ w4 rfl (by decide) (HG.out.below H4.out HG.out.lt) (by simp))
  clear hb hw
  dsimp only [Base.val, Base.out] at HT ⊢
  go_wp2_with fail
  refine HT.out.mono ?_
  rintro e w5 ⟨rfl, hb⟩
  have H5 := Lib.hid (H4.out.trans (hb.mono H4.out.size))
  clear hb
  go_wp2_with fail
  refine (out_nil _).mono ?_
  rintro e w6 ⟨rfl, hw⟩
  obtain rfl := hw.symm
  go_wp2
  go_ret
  exact ⟨rfl, H5.out⟩

theorem tells (k : Int) (s : ByteArray) (w : World) (hg : Hg w) :
    Calls Tryd.prog 5 #[.int .i64 k, .string s] w fun e w' => e = .returned (.bool true) ∧ Below w.heap.size w w' := by
  by_cases h : 100 < s.size
  · exact tells_long k s h w hg
  · exact tells_few k s h w hg

end Go.Proofs.YtidpbinhcfbpmaaDoor.Errs
