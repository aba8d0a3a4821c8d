/- fault.Code, fault.Has, fault.Of at an error of a number, or of a text, that places wrap. -/
import Derived.Test.YtlbgniiecbohcaaDoorErrsAsF
namespace Go.Proofs.YtlbgniiecbohcaaDoor.Errs
open Go.RowKit Go.Extern.Stop Go.Stop Go.Extern

/-- What the laid variable holds. -/
def Hg (w : World) : Prop := w.cell? ⟨0, 0, none⟩ = some (.iface 79 (.agg #[.pointer (some ⟨1, 26, none⟩)]))
theorem Hg.lt {w : World} (h : Hg w) : 0 < w.heap.size := by
  rcases Nat.eq_zero_or_pos w.heap.size with h0 | h1
  · simp [Hg, World.cell?, h0] at h
  · exact h1
theorem Hg.below {w w' : World} {B : Nat} (h : Hg w) (hb : Below B w w') (hB : 0 < B) : Hg w' := (hb.cell (p := ⟨0, 0, none⟩) hB).trans h
theorem Ch.iface {w : World} {l : List Int} {b : Base} {v : Value} (h : Ch w l b v) : ∃ t u, v = .iface t u := by
  cases l with
  | nil => subst h; cases b <;> exact ⟨_, _, rfl⟩
  | cons x l => obtain ⟨p, u, rfl, _⟩ := h; exact ⟨_, _, rfl⟩

def Base.code : Base → Int
  | .num c => c
  | .text _ => 1

theorem code_any (l : List Int) (b : Base) (v : Value) (w : World) (h : Ch w l b v) (hl : l.length ≤ 1000) (hg : Hg w) :
    Calls Tryd.prog 7 #[v] w fun e w' => e = .returned (.int .i64 b.code) ∧ Below w.heap.size w w' := by
  have hb : Below w.heap.size w (w.alloc (.cells #[.int .i64 0] 22)) := (Below.refl _ _).alloc (Nat.le_refl _) _
  have HI := Lib.hid (ends_any l b v _ (h.below hb) hl)
  have HJ := Lib.hid (As_E l b v (w.alloc (.cells #[.int .i64 0] 22)) ⟨w.heap.size, 0, none⟩ (.int .i64 0) (h.below hb) hl (hg.below hb hg.lt) (by simp) (by simp))
  have HB := Lib.hid hb
  obtain ⟨t, u, rfl⟩ := h.iface
  clear h hg hb
  cases b with
  | num c =>
    dsimp only [Base.isNum, Base.got, Base.code] at HJ ⊢
    go_enter Tryd.func7, Tryd.ntmps7
    go_wp2_with (first | (go_at_call 22; refine HI.out.mono ?_; rintro e w' ⟨rfl, hw'⟩; obtain rfl := hw'.symm) | (go_at_call 23; refine HJ.out.mono ?_; rintro e w2 ⟨rfl, hb2, hc2, hf2⟩; have HZ := Lib.hid (HB.out.trans (hb2.mono (Nat.le_refl _))); clear hb2 hf2))
    go_ret
    exact ⟨rfl, HZ.out⟩
  | text c =>
    dsimp only [Base.isNum, Base.got, Base.code] at HJ ⊢
    go_enter Tryd.func7, Tryd.ntmps7
    go_wp2_with (first | (go_at_call 22; refine HI.out.mono ?_; rintro e w' ⟨rfl, hw'⟩; obtain rfl := hw'.symm) | (go_at_call 23; refine HJ.out.mono ?_; rintro e w2 ⟨rfl, hb2, hc2, hf2⟩; have HZ := Lib.hid (HB.out.trans (hb2.mono (Nat.le_refl _))); clear hb2 hf2))
    go_ret
    exact ⟨rfl, HZ.out⟩
theorem code_nil (w : World) : Calls Tryd.prog 7 #[.nilIface] w fun e w' => e = .returned (.int .i64 0) ∧ w' = w := by
  go_enter Tryd.func7, Tryd.ntmps7
  go_wp2
  go_ret
  exact ⟨rfl, rfl⟩

/-- Is it one of them? -/
def hasP (x : Int) : List Int → Bool
  | [] => false
  | y :: l => y == x || hasP x l

set_option maxHeartbeats 1000000 in
theorem has_any (l : List Int) (b : Base) (v : Value) (x : Int) (w : World) (h : Ch w l b v) (hl : l.length ≤ 1000) (hg : Hg w) :
    Calls Tryd.prog 21 #[v, .int .i64 x] w fun e w' => e = .returned (.bool (hasP x l)) ∧ Below w.heap.size w w' := by
  have HI := Lib.hid (ends_any l b v w h hl)
  have hb : Below w.heap.size w (w.alloc (.cells #[.pointer none] 39)) := (Below.refl _ _).alloc (Nat.le_refl _) _
  have H0 := Lib.hid (show Ch w l b v ∧ Below w.heap.size w (w.alloc (.cells #[.pointer none] 39)) ∧ (w.alloc (.cells #[.pointer none] 39)).cell? ⟨w.heap.size, 0, none⟩ = some (.pointer none) ∧ (w.alloc (.cells #[.pointer none] 39)).frozen? ⟨w.heap.size, 0, none⟩ = false from ⟨h, hb, by simp, by simp⟩)
  have HG := Lib.hid hg
  obtain ⟨t, u, rfl⟩ := h.iface
  clear h hg hb
  go_enter Tryd.func21, Tryd.ntmps21
  go_wp2_with (go_at_call 22; refine HI.out.mono ?_; rintro e w' ⟨rfl, hw'⟩; obtain rfl := hw'.symm)
  go_loopw [0] (fun u wr => ∃ l', Hid (Ch w l' b u ∧ hasP x l = hasP x l') ∧ l'.length ≤ 1000 ∧ ∃ q, Hid (Below w.heap.size w wr ∧ wr.cell? ⟨w.heap.size, 0, none⟩ = some q ∧ wr.frozen? ⟨w.heap.size, 0, none⟩ = false)) (fun u _ => depth w 1000 u)
  case atStart => exact ⟨l, Lib.hid ⟨H0.out.1, rfl⟩, hl, _, Lib.hid H0.out.2⟩
  case round =>
    obtain ⟨l', hc, hl', q, hw⟩ := hrel
    have hd := Lib.hid (depth_of 1000 hc.out.1 hl')
    cases l' with
    | nil =>
      obtain rfl : _ = b.val := hc.out.1
      have HJ := Lib.hid (As_Fno b wr ⟨w.heap.size, 0, none⟩ q (HG.out.below hw.out.1 HG.out.lt) hw.out.2.1 hw.out.2.2)
      have hh := Lib.hid hc.out.2
      cases b with
      | num c =>
        dsimp only [Base.val] at HJ ⊢
        go_wp2_with (go_at_call 23; refine HJ.out.mono ?_; rintro e w2 ⟨rfl, hb2, _, _⟩; have HZ := Lib.hid (hw.out.1.trans (hb2.mono (Nat.le_refl _))); clear hb2)
        go_ret
        exact ⟨by rw [hh.out]; rfl, HZ.out⟩
      | text c =>
        dsimp only [Base.val] at HJ ⊢
        go_wp2_with (go_at_call 23; refine HJ.out.mono ?_; rintro e w2 ⟨rfl, hb2, _, _⟩; have HZ := Lib.hid (hw.out.1.trans (hb2.mono (Nat.le_refl _))); clear hb2)
        go_ret
        exact ⟨by rw [hh.out]; rfl, HZ.out⟩
    | cons y l' =>
      obtain ⟨p, u2, rfl, hp, h0, h1, h2⟩ := hc.out.1
      have hd2 := Lib.hid (depth_of 1000 h2 (by simp at hl'; omega))
      have HJ := Lib.hid (As_F p wr ⟨w.heap.size, 0, none⟩ q (HG.out.below hw.out.1 HG.out.lt) hw.out.2.1 hw.out.2.2)
      have hh := hc.out.2
      have H2 := Lib.hid h2
      have HP := Lib.hid (And.intro h0 h1)
      have HPP := Lib.hid hp
      dsimp only [fv] at HJ
      clear h0 h1 h2 hp hc
      by_cases hyx : y = x
      · subst hyx
        have ht := Lib.hid (show hasP y l = true by rw [hh]; simp [hasP])
        clear hh
        go_wp2_with (go_at_call 23; refine HJ.out.mono ?_; rintro e w2 ⟨rfl, hb2, hc2, hf2⟩; have HZ := Lib.hid (hw.out.1.trans (hb2.mono (Nat.le_refl _))); have hp0 := (HZ.out.cell (p := ⟨p, 0, none⟩) HPP.out).trans HP.out.1; clear hb2 hf2)
        go_ret
        exact ⟨by rw [ht.out]; rfl, HZ.out⟩
      · have hf : (y == x) = false := by simpa using hyx
        have hh2 := Lib.hid (show hasP x l = hasP x l' by rw [hh]; simp [hasP, hf])
        clear hh
        go_wp2_with (go_at_call 23; refine HJ.out.mono ?_; rintro e w2 ⟨rfl, hb2, hc2, hf2⟩; have HZ := Lib.hid (hw.out.1.trans (hb2.mono (Nat.le_refl _))); have hp0 := (HZ.out.cell (p := ⟨p, 0, none⟩) HPP.out).trans HP.out.1; have hp1 := (HZ.out.cell (p := ⟨p, 1, none⟩) HPP.out).trans HP.out.2; have HC := Lib.hid (And.intro hc2 hf2); clear hb2 hf2)
        exact ⟨⟨l', Lib.hid ⟨H2.out, hh2.out⟩, by simp at hl'; omega, _, Lib.hid ⟨HZ.out, HC.out⟩⟩, by rw [hd.out]; exact Nat.lt_of_le_of_lt (Nat.le_of_eq hd2.out) (by simp)⟩

/-- A row of numbers in memory. -/
def Nums (w : World) (v : Value) (xs : List Int) : Prop :=
  ∃ A c, v = .slice A xs.length c ∧ (0 < xs.length → ∃ b off, A = some ⟨b, off, none⟩ ∧ b < w.heap.size ∧ ∀ i, i < xs.length → w.cell? ⟨b, off + i, none⟩ = some (.int .i64 (xs.getD i 0)))
theorem Nums.below {w w' : World} {v : Value} {xs : List Int} (h : Nums w v xs) (hb : Below w.heap.size w w') : Nums w' v xs := by
  obtain ⟨A, c, rfl, h⟩ := h
  refine ⟨A, c, rfl, fun h0 => ?_⟩
  obtain ⟨b, off, rfl, hl, hc⟩ := h h0
  exact ⟨b, off, rfl, Nat.lt_of_lt_of_le hl hb.size, fun i hi => (hb.cell (p := ⟨b, off + i, none⟩) hl).trans (hc i hi)⟩

theorem of_ok (v : Value) (w : World) : Calls Tryd.prog 6 #[.int .i64 0, v] w fun e w' => e = .returned .nilIface ∧ w' = w := by
  go_enter Tryd.func6, Tryd.ntmps6
  go_wp2
  go_ret
  exact ⟨rfl, rfl⟩
set_option maxHeartbeats 1000000 in
theorem of_any (c : Int) (hc0 : c ≠ 0) (xs : List Int) (hn : xs.length ≤ 1000) (v : Value) (w : World) (h : Nums w v xs) :
    Calls Tryd.prog 6 #[.int .i64 c, v] w fun e w' => ∃ u, e = .returned u ∧ Ch w' xs.reverse (.num c) u ∧ Below w.heap.size w w' := by
  obtain ⟨A, cap, rfl, hr⟩ := h
  have HR := Lib.hid hr
  have hf : (c == 0) = false := by simpa using hc0
  clear hr
  go_enter Tryd.func6, Tryd.ntmps6
  go_wp2
  go_loopw [5, 14] (fun u i wr => ∃ k : Nat, i = .int .i64 (k : Int) ∧ k ≤ xs.length ∧ Hid (Ch wr (xs.take k).reverse (.num c) u ∧ Below w.heap.size w wr)) (fun _ i _ => xs.length - (intOf i).toNat)
  case atStart => exact ⟨0, rfl, Nat.zero_le _, Lib.hid ⟨rfl, Below.refl _ _⟩⟩
  case round =>
    obtain ⟨k, rfl, hk, hw⟩ := hrel
    by_cases hlt : k < xs.length
    · obtain ⟨b, off, rfl, hbl, hcs⟩ := HR.out (by omega)
      have hck := (hw.out.2.cell (p := ⟨b, off + k, none⟩) hbl).trans (hcs k hlt)
      have hlt1 : (k : Int) < (xs.length : Int) := by omega
      have HA := Lib.hid (fun u => at_any (xs.getD k 0) (xs.take k).reverse (.num c) u wr)
      have hee := Lib.hid (show (xs.take (k + 1)).reverse = xs.getD k 0 :: (xs.take k).reverse by rw [List.take_succ_eq_append_getElem hlt, List.reverse_append, List.getD_eq_getElem?_getD, List.getElem?_eq_getElem hlt]; rfl)
      clear hcs hbl
      generalize xs.getD k 0 = y at *
      go_wp2_with fail
      refine (HA.out _ hw.out.1).mono ?_
      rintro e w1 ⟨u, rfl, hch, hb⟩
      have HZ := Lib.hid (show Ch w1 (xs.take (k + 1)).reverse (.num c) u ∧ Below w.heap.size w w1 from ⟨by rw [hee.out]; exact hch, hw.out.2.trans (hb.mono hw.out.2.size)⟩)
      clear hch hb hck hee HA hw
      go_wp2
      exact ⟨⟨k + 1, by go_num, by omega, HZ⟩, by simp [intOf]; omega⟩
    · obtain rfl : k = xs.length := by omega
      go_wp2
      go_ret
      have := hw.out
      rw [List.take_length] at this
      exact ⟨_, rfl, this⟩

end Go.Proofs.YtlbgniiecbohcaaDoor.Errs
