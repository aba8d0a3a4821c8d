/- fault.Is; the page's example of faults. -/
import Derived.Test.YtlbgniiecbohcaaDoorText
namespace Go.Proofs.YtlbgniiecbohcaaDoor.Errs
open Go Go.RowKit Go.Extern.Stop Go.Stop Go.Extern

def Base.isF (b : Base) (k : Int) : Bool := !(k == 0) && b.is k
theorem Base.is_code {b : Base} {k : Int} (h : b.is k = true) : b = .num k := by
  cases b with
  | num c => simp [Base.is] at h; subst h; rfl
  | text a => simp [Base.is] at h

set_option maxHeartbeats 1000000 in
theorem fis_any (l : List Int) (b : Base) (v : Value) (k : Int) (w : World) (h : Ch w l b v) (hl : l.length ≤ 1000) (hg : Hg w) :
    Calls Tryd.prog 10 #[v, .int .i64 k] w fun e w' => e = .returned (.bool (b.isF k)) ∧ Below w.heap.size w w' := by
  have HI := Lib.hid (is_any l b v k w h hl)
  have HE := Lib.hid (ends_any l b v w h hl)
  have HC := Lib.hid (code_any l b v w h hl hg)
  obtain ⟨t, z, rfl⟩ := h.iface
  clear h hg
  by_cases hk : k = 0
  · subst hk
    go_enter Tryd.func10, Tryd.ntmps10
    go_wp2
    go_ret
    exact ⟨by simp [Base.isF], Below.refl _ _⟩
  · have hk0 : (k == 0) = false := by simpa using hk
    cases hb : b.is k with
    | true =>
      obtain rfl := Base.is_code hb
      rw [hb] at HI
      dsimp only [Base.code] at HC
      have HR := Lib.hid (show Base.isF (.num k) k = true by simp [Base.isF, hb, hk])
      clear hb
      go_enter Tryd.func10, Tryd.ntmps10
      go_wp2_with (first
        | (go_at_call 22; refine HE.out.mono ?_; rintro e w1 ⟨rfl, hw⟩; obtain rfl := hw.symm)
        | (go_at_call 14; refine HI.out.mono ?_; rintro e w1 ⟨rfl, hw⟩; obtain rfl := hw.symm)
        | (go_at_call 7; refine HC.out.mono ?_; rintro e w2 ⟨rfl, hb2⟩; have HB := Lib.hid hb2; clear hb2))
      go_ret
      exact ⟨by rw [HR.out]; rfl, HB.out⟩
    | false =>
      rw [hb] at HI
      have HR := Lib.hid (show b.isF k = false by simp [Base.isF, hb])
      clear hb
      go_enter Tryd.func10, Tryd.ntmps10
      go_wp2_with (first
        | (go_at_call 22; refine HE.out.mono ?_; rintro e w1 ⟨rfl, hw⟩; obtain rfl := hw.symm)
        | (go_at_call 14; refine HI.out.mono ?_; rintro e w1 ⟨rfl, hw⟩; obtain rfl := hw.symm))
      go_ret
      exact ⟨by rw [HR.out]; rfl, Below.refl _ _⟩

theorem awake08 (w : World) (hg : Hg w) : Calls Tryd.prog 5 #[] w fun e w' => e = .returned (.bool true) ∧ Below w.heap.size w w' := by
  have HG := Lib.hid hg
  have HB := Lib.hid (show Below w.heap.size w (w.alloc (.cells #[.int .i64 1, .int .i64 3] 3)) from (Below.refl _ _).alloc (Nat.le_refl _) _)
  clear hg
  go_enter Tryd.func5, Tryd.ntmps5
  go_wp2_with fail
  refine (of_any 13 (by decide) [1, 3] (by decide) _ _ ⟨_, _, rfl, fun _ => ⟨w.heap.size, 0, rfl, by simp, fun i hi => ?_⟩⟩).mono ?_
  · rw [cell_of_row _ w.heap.size (0 + i) _ _ (0, 0) (heap_alloc_new w _)]
    have hi' : i = 0 ∨ i = 1 := by simp at hi; omega
    rcases hi' with rfl | rfl <;> rfl
  rintro e w1 ⟨u, rfl, hch, hb⟩
  have HT := Lib.hid (text_any _ (.num 13) u w1 hch (by decide) (HG.out.below (HB.out.trans (hb.mono (by simp))) HG.out.lt))
  have HZ := Lib.hid (HB.out.trans (hb.mono (by simp)))
  have hx : textB [1, 3].reverse (.num 13) = ⟨#[97, 99, 99, 111, 117, 110, 116, 115, 58, 32, 108, 111, 119, 58, 32, 110, 111, 110, 99, 101]⟩ := by decide
  rw [hx] at HT
  clear hch hb hx
  go_wp2_with (go_at_call 9; refine HT.out.mono ?_; rintro e w2 ⟨rfl, hb2⟩; have HY := Lib.hid (HZ.out.trans (hb2.mono HZ.out.size)); clear hb2)
  go_ret
  exact ⟨rfl, HY.out⟩

end Go.Proofs.YtlbgniiecbohcaaDoor.Errs
