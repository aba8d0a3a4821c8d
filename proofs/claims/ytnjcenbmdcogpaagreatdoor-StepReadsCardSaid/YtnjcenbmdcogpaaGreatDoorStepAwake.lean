/- Steps: the laws' awake. -/
import Derived.Test.YtnjcenbmdcogpaaGreatDoorStpLine
namespace Go.Proofs.YtnjcenbmdcogpaaGreatDoor.Sp
open Go Go.Lib Go.RowKit

theorem aw6 : lineB ⟨6, 1, 2, 0, 0, 0, 0, ⟨#[]⟩⟩ = ⟨#[102, 111, 114, 101, 105, 103, 110, 32, 49, 32, 50]⟩ := by
  show (⟨(jn [wd 6, decDigits 1, decDigits 2]).toArray⟩ : ByteArray) = _
  rw [dec_one (u := 1) (by decide), dec_one (u := 2) (by decide)]; rfl
theorem aw3 : lineB ⟨3, 0, 0, 0, 1, 0, ((9 : Nat) : Int), ⟨#[65]⟩⟩ = ⟨#[115, 101, 110, 100, 32, 48, 32, 49, 32, 57, 32, 52, 49]⟩ := by
  show (⟨(jn [wd 3, decDigits 0, decDigits 1, decDigits 9, hexS [65]]).toArray⟩ : ByteArray) = _
  rw [dec_one (u := 0) (by decide), dec_one (u := 1) (by decide), dec_one (u := 9) (by decide)]; rfl
set_option maxRecDepth 100000 in
theorem awake_any (w : World) (ht : Dec.Tab w) : Calls Tryz.prog 7 #[] w fun e w' => e = .returned (.bool true) ∧ Below w.heap.size w w' := by
  have h6 := line_6 1 2 (by decide) (by decide) (by decide) (by decide) w ht
  have H3 := Lib.hid (fun (W : World) (h : Dec.Tab W) => line_3 0 1 9 ⟨#[65]⟩ (by decide) (by decide) (by decide) (by decide) (by decide) (by decide) W h)
  rw [aw6] at h6
  rw [aw3] at H3
  go_enter Tryz.func7, Tryz.ntmps7
  go_wp2_with fail
  refine h6.mono ?_
  rintro _ w1 ⟨rfl, hb1⟩
  have HB1 := Lib.hid hb1
  have HT1 := Lib.hid (tabB ht hb1)
  clear hb1 ht h6
  go_wp2_with fail
  refine (H3.out w1 HT1.out).mono ?_
  rintro _ w2 ⟨rfl, hb2⟩
  have HB2 := Lib.hid (HB1.out.trans (hb2.mono HB1.out.size))
  clear hb2
  go_wp2
  go_ret
  exact ⟨rfl, HB2.out⟩
theorem eq_self (x : St) (w : World) : (binOp .eql 26 (.agg x.cells) (.agg x.cells)).run Tryz.prog w = .ok (.bool true) w := by
  unfold St.cells
  go_simp
end Go.Proofs.YtnjcenbmdcogpaaGreatDoor.Sp
