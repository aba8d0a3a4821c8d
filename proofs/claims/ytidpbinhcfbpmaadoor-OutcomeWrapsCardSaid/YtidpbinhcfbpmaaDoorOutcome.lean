/- errors.New; outcome.Of at an error of a number, or of a text, that places wrap; outcome.Op, Again, Name; and the page's own. -/
import Derived.Test.YtidpbinhcfbpmaaDoorErrsCode
namespace Go.Proofs.YtidpbinhcfbpmaaDoor.Errs
open Go.RowKit Go.Extern.Stop Go.Stop Go.Extern

theorem hasP_any (x : Int) : ∀ l : List Int, hasP x l = l.any (· == x)
  | [] => rfl
  | y :: l => by rw [hasP, hasP_any x l, List.any_cons]
theorem hasP_reverse (x : Int) (l : List Int) : hasP x l.reverse = hasP x l := by rw [hasP_any, hasP_any, List.any_reverse]
theorem hasP_take (x : Int) (l : List Int) (k : Nat) (h : k < l.length) : hasP x (l.take (k + 1)) = (hasP x (l.take k) || l.getD k 0 == x) := by
  rw [hasP_any, hasP_any, List.take_succ_eq_append_getElem h, List.any_append, List.getD_eq_getElem?_getD, List.getElem?_eq_getElem h]
  simp

theorem new_any (s : ByteArray) (w : World) : Calls Tryd.prog 18 #[.string s] w fun e w' => e = .returned (Base.val (.text ⟨w.heap.size, 0, none⟩)) ∧ Below w.heap.size w w' := by
  go_enter Tryd.func18, Tryd.ntmps18
  go_wp2
  go_ret
  exact ⟨rfl, (Below.refl _ _).alloc (Nat.le_refl _) _⟩

def Base.known : Base → Bool
  | .num c => !(c == 1)
  | .text _ => false
theorem known_any (l : List Int) (b : Base) (v : Value) (w : World) (h : Ch w l b v) (hl : l.length ≤ 1000) (hg : Hg w) :
    Calls Tryd.prog 25 #[v] w fun e w' => e = .returned (.bool b.known) ∧ Below w.heap.size w w' := by
  have hb : Below w.heap.size w (w.alloc (.cells #[.int .i64 0] 22)) := (Below.refl _ _).alloc (Nat.le_refl _) _
  have HI := Lib.hid (code_any l b v _ (h.below hb) hl (hg.below hb hg.lt))
  have HA := Lib.hid (show ∀ w2, Below (w.heap.size + 1) (w.alloc (.cells #[.int .i64 0] 22)) w2 → _ from fun w2 hb2 => As_E l b v w2 ⟨w.heap.size, 0, none⟩ (.int .i64 0) (h.below (hb.trans (hb2.mono (Nat.le_succ _)))) hl (hg.below (hb.trans (hb2.mono (Nat.le_succ _))) hg.lt) ((hb2.cell (p := ⟨w.heap.size, 0, none⟩) (Nat.lt_succ_self _)).trans (by simp)) ((hb2.frozen (p := ⟨w.heap.size, 0, none⟩) (Nat.lt_succ_self _)).trans (by simp)))
  have HB := Lib.hid hb
  obtain ⟨t, u, rfl⟩ := h.iface
  clear h hg hb
  cases b with
  | num c =>
    dsimp only [Base.isNum, Base.got, Base.code, Base.known] at HI HA ⊢
    by_cases h1 : c = 1
    · subst h1
      go_enter Tryd.func25, Tryd.ntmps25
      go_wp2_with (go_at_call 20; refine HI.out.mono ?_; rintro e w2 ⟨rfl, hb2⟩; have HZ := Lib.hid (HB.out.trans (hb2.mono (by simp))); clear hb2)
      go_ret
      exact ⟨rfl, HZ.out⟩
    · have hf : (c == 1) = false := by simpa using h1
      go_enter Tryd.func25, Tryd.ntmps25
      go_wp2_with (first | (go_at_call 20; refine HI.out.mono ?_; rintro e w2 ⟨rfl, hb2⟩; have HY := Lib.hid (HA.out w2 (hb2.mono (by simp))); have HZ := Lib.hid (HB.out.trans (hb2.mono (by simp))); clear hb2) | (go_at_call 29; refine HY.out.mono ?_; rintro e w3 ⟨rfl, hb3, _, _⟩; have HX := Lib.hid (HZ.out.trans (hb3.mono (Nat.le_refl _))); clear hb3))
      go_ret
      exact ⟨by simp [hf]; exact h1, HX.out⟩
  | text c =>
    dsimp only [Base.isNum, Base.got, Base.code, Base.known] at HI HA ⊢
    go_enter Tryd.func25, Tryd.ntmps25
    go_wp2_with (go_at_call 20; refine HI.out.mono ?_; rintro e w2 ⟨rfl, hb2⟩; have HZ := Lib.hid (HB.out.trans (hb2.mono (by simp))); clear hb2)
    go_ret
    exact ⟨rfl, HZ.out⟩

/-- The outcome of a number. -/
def outK (c : Int) (low : Bool) : Int := if c = 0 then 1 else if c = 13 then (if low then 2 else 3) else if c = 14 then 4 else if c = 15 then 5 else if c = 16 then 6 else if c = 12 then 7 else if c = 11 then 8 else 9
def Base.out (low : Bool) : Base → Int
  | .num c => outK c low
  | .text _ => 9

theorem out_text (l : List Int) (a : Addr) (v : Value) (w : World) (h : Ch w l (.text a) v) (hl : l.length ≤ 1000) (hg : Hg w) :
    Calls Tryd.prog 8 #[v] w fun e w' => e = .returned (.int .i64 9) ∧ Below w.heap.size w w' := by
  have HK := Lib.hid (known_any l (.text a) v w h hl hg)
  have HIs := Lib.hid (show ∀ w2, Below w.heap.size w w2 → ∀ k, _ from fun w2 hb2 k => is_any l (.text a) v k w2 (h.below hb2) hl)
  have HHs := Lib.hid (show ∀ w2, Below w.heap.size w w2 → _ from fun w2 hb2 => has_any l (.text a) v 1 w2 (h.below hb2) hl (hg.below hb2 hg.lt))
  obtain ⟨t, u, rfl⟩ := h.iface
  clear h hg
  dsimp only [Base.known, Base.is] at HK HIs ⊢
  go_enter Tryd.func8, Tryd.ntmps8
  go_wp2_with (first | (go_at_call 25; refine HK.out.mono ?_; rintro e w2 ⟨rfl, hb2⟩; have HI := Lib.hid (HIs.out w2 hb2); have HH := Lib.hid (HHs.out w2 hb2); have HZ := Lib.hid hb2; clear hb2) | (go_at_call 26; refine (HI.out _).mono ?_; rintro e w3 ⟨rfl, hw3⟩; obtain rfl := hw3.symm) | (go_at_call 24; refine HH.out.mono ?_; rintro e w4 ⟨rfl, hb4⟩; have HW := Lib.hid (HZ.out.trans (hb4.mono HZ.out.size)); clear hb4))
  go_ret
  exact ⟨rfl, HZ.out⟩
theorem out_1 (l : List Int)  (v : Value) (w : World) (h : Ch w l (.num 1) v) (hl : l.length ≤ 1000) (hg : Hg w) :
    Calls Tryd.prog 8 #[v] w fun e w' => e = .returned (.int .i64 9) ∧ Below w.heap.size w w' := by
  have HK := Lib.hid (known_any l (.num 1) v w h hl hg)
  have HIs := Lib.hid (show ∀ w2, Below w.heap.size w w2 → ∀ k, _ from fun w2 hb2 k => is_any l (.num 1) v k w2 (h.below hb2) hl)
  have HHs := Lib.hid (show ∀ w2, Below w.heap.size w w2 → _ from fun w2 hb2 => has_any l (.num 1) v 1 w2 (h.below hb2) hl (hg.below hb2 hg.lt))
  obtain ⟨t, u, rfl⟩ := h.iface
  clear h hg
  dsimp only [Base.known, Base.is] at HK HIs ⊢
  go_enter Tryd.func8, Tryd.ntmps8
  go_wp2_with (first | (go_at_call 25; refine HK.out.mono ?_; rintro e w2 ⟨rfl, hb2⟩; have HI := Lib.hid (HIs.out w2 hb2); have HH := Lib.hid (HHs.out w2 hb2); have HZ := Lib.hid hb2; clear hb2) | (go_at_call 26; refine (HI.out _).mono ?_; rintro e w3 ⟨rfl, hw3⟩; obtain rfl := hw3.symm) | (go_at_call 24; refine HH.out.mono ?_; rintro e w4 ⟨rfl, hb4⟩; have HW := Lib.hid (HZ.out.trans (hb4.mono HZ.out.size)); clear hb4))
  go_ret
  exact ⟨rfl, HZ.out⟩
theorem out_14 (l : List Int)  (v : Value) (w : World) (h : Ch w l (.num 14) v) (hl : l.length ≤ 1000) (hg : Hg w) :
    Calls Tryd.prog 8 #[v] w fun e w' => e = .returned (.int .i64 4) ∧ Below w.heap.size w w' := by
  have HK := Lib.hid (known_any l (.num 14) v w h hl hg)
  have HIs := Lib.hid (show ∀ w2, Below w.heap.size w w2 → ∀ k, _ from fun w2 hb2 k => is_any l (.num 14) v k w2 (h.below hb2) hl)
  have HHs := Lib.hid (show ∀ w2, Below w.heap.size w w2 → _ from fun w2 hb2 => has_any l (.num 14) v 1 w2 (h.below hb2) hl (hg.below hb2 hg.lt))
  obtain ⟨t, u, rfl⟩ := h.iface
  clear h hg
  dsimp only [Base.known, Base.is] at HK HIs ⊢
  go_enter Tryd.func8, Tryd.ntmps8
  go_wp2_with (first | (go_at_call 25; refine HK.out.mono ?_; rintro e w2 ⟨rfl, hb2⟩; have HI := Lib.hid (HIs.out w2 hb2); have HH := Lib.hid (HHs.out w2 hb2); have HZ := Lib.hid hb2; clear hb2) | (go_at_call 26; refine (HI.out _).mono ?_; rintro e w3 ⟨rfl, hw3⟩; obtain rfl := hw3.symm) | (go_at_call 24; refine HH.out.mono ?_; rintro e w4 ⟨rfl, hb4⟩; have HW := Lib.hid (HZ.out.trans (hb4.mono HZ.out.size)); clear hb4))
  go_ret
  exact ⟨rfl, HZ.out⟩
theorem out_15 (l : List Int)  (v : Value) (w : World) (h : Ch w l (.num 15) v) (hl : l.length ≤ 1000) (hg : Hg w) :
    Calls Tryd.prog 8 #[v] w fun e w' => e = .returned (.int .i64 5) ∧ Below w.heap.size w w' := by
  have HK := Lib.hid (known_any l (.num 15) v w h hl hg)
  have HIs := Lib.hid (show ∀ w2, Below w.heap.size w w2 → ∀ k, _ from fun w2 hb2 k => is_any l (.num 15) v k w2 (h.below hb2) hl)
  have HHs := Lib.hid (show ∀ w2, Below w.heap.size w w2 → _ from fun w2 hb2 => has_any l (.num 15) v 1 w2 (h.below hb2) hl (hg.below hb2 hg.lt))
  obtain ⟨t, u, rfl⟩ := h.iface
  clear h hg
  dsimp only [Base.known, Base.is] at HK HIs ⊢
  go_enter Tryd.func8, Tryd.ntmps8
  go_wp2_with (first | (go_at_call 25; refine HK.out.mono ?_; rintro e w2 ⟨rfl, hb2⟩; have HI := Lib.hid (HIs.out w2 hb2); have HH := Lib.hid (HHs.out w2 hb2); have HZ := Lib.hid hb2; clear hb2) | (go_at_call 26; refine (HI.out _).mono ?_; rintro e w3 ⟨rfl, hw3⟩; obtain rfl := hw3.symm) | (go_at_call 24; refine HH.out.mono ?_; rintro e w4 ⟨rfl, hb4⟩; have HW := Lib.hid (HZ.out.trans (hb4.mono HZ.out.size)); clear hb4))
  go_ret
  exact ⟨rfl, HZ.out⟩
theorem out_16 (l : List Int)  (v : Value) (w : World) (h : Ch w l (.num 16) v) (hl : l.length ≤ 1000) (hg : Hg w) :
    Calls Tryd.prog 8 #[v] w fun e w' => e = .returned (.int .i64 6) ∧ Below w.heap.size w w' := by
  have HK := Lib.hid (known_any l (.num 16) v w h hl hg)
  have HIs := Lib.hid (show ∀ w2, Below w.heap.size w w2 → ∀ k, _ from fun w2 hb2 k => is_any l (.num 16) v k w2 (h.below hb2) hl)
  have HHs := Lib.hid (show ∀ w2, Below w.heap.size w w2 → _ from fun w2 hb2 => has_any l (.num 16) v 1 w2 (h.below hb2) hl (hg.below hb2 hg.lt))
  obtain ⟨t, u, rfl⟩ := h.iface
  clear h hg
  dsimp only [Base.known, Base.is] at HK HIs ⊢
  go_enter Tryd.func8, Tryd.ntmps8
  go_wp2_with (first | (go_at_call 25; refine HK.out.mono ?_; rintro e w2 ⟨rfl, hb2⟩; have HI := Lib.hid (HIs.out w2 hb2); have HH := Lib.hid (HHs.out w2 hb2); have HZ := Lib.hid hb2; clear hb2) | (go_at_call 26; refine (HI.out _).mono ?_; rintro e w3 ⟨rfl, hw3⟩; obtain rfl := hw3.symm) | (go_at_call 24; refine HH.out.mono ?_; rintro e w4 ⟨rfl, hb4⟩; have HW := Lib.hid (HZ.out.trans (hb4.mono HZ.out.size)); clear hb4))
  go_ret
  exact ⟨rfl, HZ.out⟩
theorem out_12 (l : List Int)  (v : Value) (w : World) (h : Ch w l (.num 12) v) (hl : l.length ≤ 1000) (hg : Hg w) :
    Calls Tryd.prog 8 #[v] w fun e w' => e = .returned (.int .i64 7) ∧ Below w.heap.size w w' := by
  have HK := Lib.hid (known_any l (.num 12) v w h hl hg)
  have HIs := Lib.hid (show ∀ w2, Below w.heap.size w w2 → ∀ k, _ from fun w2 hb2 k => is_any l (.num 12) v k w2 (h.below hb2) hl)
  have HHs := Lib.hid (show ∀ w2, Below w.heap.size w w2 → _ from fun w2 hb2 => has_any l (.num 12) v 1 w2 (h.below hb2) hl (hg.below hb2 hg.lt))
  obtain ⟨t, u, rfl⟩ := h.iface
  clear h hg
  dsimp only [Base.known, Base.is] at HK HIs ⊢
  go_enter Tryd.func8, Tryd.ntmps8
  go_wp2_with (first | (go_at_call 25; refine HK.out.mono ?_; rintro e w2 ⟨rfl, hb2⟩; have HI := Lib.hid (HIs.out w2 hb2); have HH := Lib.hid (HHs.out w2 hb2); have HZ := Lib.hid hb2; clear hb2) | (go_at_call 26; refine (HI.out _).mono ?_; rintro e w3 ⟨rfl, hw3⟩; obtain rfl := hw3.symm) | (go_at_call 24; refine HH.out.mono ?_; rintro e w4 ⟨rfl, hb4⟩; have HW := Lib.hid (HZ.out.trans (hb4.mono HZ.out.size)); clear hb4))
  go_ret
  exact ⟨rfl, HZ.out⟩
theorem out_11 (l : List Int)  (v : Value) (w : World) (h : Ch w l (.num 11) v) (hl : l.length ≤ 1000) (hg : Hg w) :
    Calls Tryd.prog 8 #[v] w fun e w' => e = .returned (.int .i64 8) ∧ Below w.heap.size w w' := by
  have HK := Lib.hid (known_any l (.num 11) v w h hl hg)
  have HIs := Lib.hid (show ∀ w2, Below w.heap.size w w2 → ∀ k, _ from fun w2 hb2 k => is_any l (.num 11) v k w2 (h.below hb2) hl)
  have HHs := Lib.hid (show ∀ w2, Below w.heap.size w w2 → _ from fun w2 hb2 => has_any l (.num 11) v 1 w2 (h.below hb2) hl (hg.below hb2 hg.lt))
  obtain ⟨t, u, rfl⟩ := h.iface
  clear h hg
  dsimp only [Base.known, Base.is] at HK HIs ⊢
  go_enter Tryd.func8, Tryd.ntmps8
  go_wp2_with (first | (go_at_call 25; refine HK.out.mono ?_; rintro e w2 ⟨rfl, hb2⟩; have HI := Lib.hid (HIs.out w2 hb2); have HH := Lib.hid (HHs.out w2 hb2); have HZ := Lib.hid hb2; clear hb2) | (go_at_call 26; refine (HI.out _).mono ?_; rintro e w3 ⟨rfl, hw3⟩; obtain rfl := hw3.symm) | (go_at_call 24; refine HH.out.mono ?_; rintro e w4 ⟨rfl, hb4⟩; have HW := Lib.hid (HZ.out.trans (hb4.mono HZ.out.size)); clear hb4))
  go_ret
  exact ⟨rfl, HZ.out⟩
theorem out_13l (l : List Int) (hp : hasP 1 l = true) (v : Value) (w : World) (h : Ch w l (.num 13) v) (hl : l.length ≤ 1000) (hg : Hg w) :
    Calls Tryd.prog 8 #[v] w fun e w' => e = .returned (.int .i64 2) ∧ Below w.heap.size w w' := by
  have HK := Lib.hid (known_any l (.num 13) v w h hl hg)
  have HIs := Lib.hid (show ∀ w2, Below w.heap.size w w2 → ∀ k, _ from fun w2 hb2 k => is_any l (.num 13) v k w2 (h.below hb2) hl)
  have HHs := Lib.hid (show ∀ w2, Below w.heap.size w w2 → _ from fun w2 hb2 => has_any l (.num 13) v 1 w2 (h.below hb2) hl (hg.below hb2 hg.lt))
  obtain ⟨t, u, rfl⟩ := h.iface
  clear h hg
  dsimp only [Base.known, Base.is] at HK HIs ⊢
  rw [hp] at HHs
  go_enter Tryd.func8, Tryd.ntmps8
  go_wp2_with (first | (go_at_call 25; refine HK.out.mono ?_; rintro e w2 ⟨rfl, hb2⟩; have HI := Lib.hid (HIs.out w2 hb2); have HH := Lib.hid (HHs.out w2 hb2); have HZ := Lib.hid hb2; clear hb2) | (go_at_call 26; refine (HI.out _).mono ?_; rintro e w3 ⟨rfl, hw3⟩; obtain rfl := hw3.symm) | (go_at_call 24; refine HH.out.mono ?_; rintro e w4 ⟨rfl, hb4⟩; have HW := Lib.hid (HZ.out.trans (hb4.mono HZ.out.size)); clear hb4))
  go_ret
  exact ⟨rfl, HW.out⟩
theorem out_13n (l : List Int) (hp : hasP 1 l = false) (v : Value) (w : World) (h : Ch w l (.num 13) v) (hl : l.length ≤ 1000) (hg : Hg w) :
    Calls Tryd.prog 8 #[v] w fun e w' => e = .returned (.int .i64 3) ∧ Below w.heap.size w w' := by
  have HK := Lib.hid (known_any l (.num 13) v w h hl hg)
  have HIs := Lib.hid (show ∀ w2, Below w.heap.size w w2 → ∀ k, _ from fun w2 hb2 k => is_any l (.num 13) v k w2 (h.below hb2) hl)
  have HHs := Lib.hid (show ∀ w2, Below w.heap.size w w2 → _ from fun w2 hb2 => has_any l (.num 13) v 1 w2 (h.below hb2) hl (hg.below hb2 hg.lt))
  obtain ⟨t, u, rfl⟩ := h.iface
  clear h hg
  dsimp only [Base.known, Base.is] at HK HIs ⊢
  rw [hp] at HHs
  go_enter Tryd.func8, Tryd.ntmps8
  go_wp2_with (first | (go_at_call 25; refine HK.out.mono ?_; rintro e w2 ⟨rfl, hb2⟩; have HI := Lib.hid (HIs.out w2 hb2); have HH := Lib.hid (HHs.out w2 hb2); have HZ := Lib.hid hb2; clear hb2) | (go_at_call 26; refine (HI.out _).mono ?_; rintro e w3 ⟨rfl, hw3⟩; obtain rfl := hw3.symm) | (go_at_call 24; refine HH.out.mono ?_; rintro e w4 ⟨rfl, hb4⟩; have HW := Lib.hid (HZ.out.trans (hb4.mono HZ.out.size)); clear hb4))
  go_ret
  exact ⟨rfl, HW.out⟩
theorem out_else (l : List Int) (c : Int) (n1 : c ≠ 1) (n13 : c ≠ 13) (n14 : c ≠ 14) (n15 : c ≠ 15) (n16 : c ≠ 16) (n12 : c ≠ 12) (n11 : c ≠ 11) (v : Value) (w : World) (h : Ch w l (.num c) v) (hl : l.length ≤ 1000) (hg : Hg w) :
    Calls Tryd.prog 8 #[v] w fun e w' => e = .returned (.int .i64 9) ∧ Below w.heap.size w w' := by
  have HK := Lib.hid (known_any l (.num c) v w h hl hg)
  have HIs := Lib.hid (show ∀ w2, Below w.heap.size w w2 → ∀ k, _ from fun w2 hb2 k => is_any l (.num c) v k w2 (h.below hb2) hl)
  have HHs := Lib.hid (show ∀ w2, Below w.heap.size w w2 → _ from fun w2 hb2 => has_any l (.num c) v 1 w2 (h.below hb2) hl (hg.below hb2 hg.lt))
  obtain ⟨t, u, rfl⟩ := h.iface
  clear h hg
  dsimp only [Base.known, Base.is] at HK HIs ⊢
  have f1 : (c == 1) = false := by simpa using n1
  have f13 : (c == 13) = false := by simpa using n13
  have f14 : (c == 14) = false := by simpa using n14
  have f15 : (c == 15) = false := by simpa using n15
  have f16 : (c == 16) = false := by simpa using n16
  have f12 : (c == 12) = false := by simpa using n12
  have f11 : (c == 11) = false := by simpa using n11
  go_enter Tryd.func8, Tryd.ntmps8
  go_wp2_with (first | (go_at_call 25; refine HK.out.mono ?_; rintro e w2 ⟨rfl, hb2⟩; have HI := Lib.hid (HIs.out w2 hb2); have HH := Lib.hid (HHs.out w2 hb2); have HZ := Lib.hid hb2; clear hb2) | (go_at_call 26; refine (HI.out _).mono ?_; rintro e w3 ⟨rfl, hw3⟩; obtain rfl := hw3.symm) | (go_at_call 24; refine HH.out.mono ?_; rintro e w4 ⟨rfl, hb4⟩; have HW := Lib.hid (HZ.out.trans (hb4.mono HZ.out.size)); clear hb4))
  go_ret
  exact ⟨rfl, HZ.out⟩
theorem out_any (l : List Int) (b : Base) (v : Value) (w : World) (h : Ch w l b v) (hl : l.length ≤ 1000) (hg : Hg w) (h0 : b ≠ .num 0) :
    Calls Tryd.prog 8 #[v] w fun e w' => e = .returned (.int .i64 (b.out (hasP 1 l))) ∧ Below w.heap.size w w' := by
  cases b with
  | text a => exact out_text l a v w h hl hg
  | num c =>
    by_cases n1 : c = 1
    · subst n1; exact out_1 l v w h hl hg
    by_cases n14 : c = 14
    · subst n14; exact out_14 l v w h hl hg
    by_cases n15 : c = 15
    · subst n15; exact out_15 l v w h hl hg
    by_cases n16 : c = 16
    · subst n16; exact out_16 l v w h hl hg
    by_cases n12 : c = 12
    · subst n12; exact out_12 l v w h hl hg
    by_cases n11 : c = 11
    · subst n11; exact out_11 l v w h hl hg
    by_cases n13 : c = 13
    · subst n13
      cases hp : hasP 1 l with
      | true => exact out_13l l hp v w h hl hg
      | false => exact out_13n l hp v w h hl hg
    have n0 : c ≠ 0 := fun e => h0 (by rw [e])
    have he : Base.out (hasP 1 l) (.num c) = 9 := by simp [Base.out, outK, n0, n13, n14, n15, n16, n12, n11]
    rw [he]
    exact out_else l c n1 n13 n14 n15 n16 n12 n11 v w h hl hg
theorem out_nil (w : World) : Calls Tryd.prog 8 #[.nilIface] w fun e w' => e = .returned (.int .i64 1) ∧ w' = w := by
  go_enter Tryd.func8, Tryd.ntmps8
  go_wp2
  go_ret
  exact ⟨rfl, rfl⟩

def opK (k : Int) : Int := if k = 0 then 0 else if k = 1 then 7 else if k = 2 then 9 else if k = 3 then 8 else if k = 4 then 8 else if k = 5 then 8 else if k = 6 then 8 else if k = 7 then 0 else if k = 8 then 8 else if k = 9 then 8 else 0
def againK (k : Int) : Bool := if k = 0 then false else if k = 1 then false else if k = 2 then true else if k = 3 then true else if k = 4 then true else if k = 5 then false else if k = 6 then true else if k = 7 then true else if k = 8 then true else if k = 9 then false else false
def nameK (k : Int) : ByteArray := if k = 0 then ⟨#[]⟩ else if k = 1 then ⟨#[116, 97, 107, 101, 110]⟩ else if k = 2 then ⟨#[115, 116, 97, 108, 101]⟩ else if k = 3 then ⟨#[97, 104, 101, 97, 100]⟩ else if k = 4 then ⟨#[99, 114, 111, 119, 100, 101, 100]⟩ else if k = 5 then ⟨#[114, 101, 100, 117, 110, 100, 97, 110, 116]⟩ else if k = 6 then ⟨#[114, 101, 106, 101, 99, 116, 101, 100]⟩ else if k = 7 then ⟨#[102, 101, 110, 99, 101, 100]⟩ else if k = 8 then ⟨#[115, 112, 101, 110, 116]⟩ else if k = 9 then ⟨#[119, 114, 111, 110, 103]⟩ else ⟨#[]⟩

set_option maxHeartbeats 1000000 in
theorem op_any (k : Int) (w : World) : Calls Tryd.prog 11 #[.int .i64 k] w fun e w' => e = .returned (.int .i64 (opK k)) ∧ w' = w := by
  have hk : k = 0 ∨ k = 1 ∨ k = 2 ∨ k = 3 ∨ k = 4 ∨ k = 5 ∨ k = 6 ∨ k = 7 ∨ k = 8 ∨ k = 9 ∨ k < 0 ∨ 9 < k := by omega
  rcases hk with rfl | rfl | rfl | rfl | rfl | rfl | rfl | rfl | rfl | rfl | hk | hk
  · go_enter Tryd.func11, Tryd.ntmps11
    go_wp2
    go_ret
    exact ⟨rfl, rfl⟩
  · go_enter Tryd.func11, Tryd.ntmps11
    go_wp2
    go_ret
    exact ⟨rfl, rfl⟩
  · go_enter Tryd.func11, Tryd.ntmps11
    go_wp2
    go_ret
    exact ⟨rfl, rfl⟩
  · go_enter Tryd.func11, Tryd.ntmps11
    go_wp2
    go_ret
    exact ⟨rfl, rfl⟩
  · go_enter Tryd.func11, Tryd.ntmps11
    go_wp2
    go_ret
    exact ⟨rfl, rfl⟩
  · go_enter Tryd.func11, Tryd.ntmps11
    go_wp2
    go_ret
    exact ⟨rfl, rfl⟩
  · go_enter Tryd.func11, Tryd.ntmps11
    go_wp2
    go_ret
    exact ⟨rfl, rfl⟩
  · go_enter Tryd.func11, Tryd.ntmps11
    go_wp2
    go_ret
    exact ⟨rfl, rfl⟩
  · go_enter Tryd.func11, Tryd.ntmps11
    go_wp2
    go_ret
    exact ⟨rfl, rfl⟩
  · go_enter Tryd.func11, Tryd.ntmps11
    go_wp2
    go_ret
    exact ⟨rfl, rfl⟩
  · have he : opK k = 0 := by unfold opK; rw [if_neg (by omega), if_neg (by omega), if_neg (by omega), if_neg (by omega), if_neg (by omega), if_neg (by omega), if_neg (by omega), if_neg (by omega), if_neg (by omega), if_neg (by omega)]
    rw [he]
    have e0 : (k == 0) = false := by simp; omega
    have e1 : (k == 1) = false := by simp; omega
    have e2 : (k == 2) = false := by simp; omega
    have e3 : (k == 3) = false := by simp; omega
    have e4 : (k == 4) = false := by simp; omega
    have e5 : (k == 5) = false := by simp; omega
    have e6 : (k == 6) = false := by simp; omega
    have e7 : (k == 7) = false := by simp; omega
    have e8 : (k == 8) = false := by simp; omega
    have e9 : (k == 9) = false := by simp; omega
    go_enter Tryd.func11, Tryd.ntmps11
    go_wp2
    go_ret
    exact ⟨rfl, rfl⟩
  · have he : opK k = 0 := by unfold opK; rw [if_neg (by omega), if_neg (by omega), if_neg (by omega), if_neg (by omega), if_neg (by omega), if_neg (by omega), if_neg (by omega), if_neg (by omega), if_neg (by omega), if_neg (by omega)]
    rw [he]
    have e0 : (k == 0) = false := by simp; omega
    have e1 : (k == 1) = false := by simp; omega
    have e2 : (k == 2) = false := by simp; omega
    have e3 : (k == 3) = false := by simp; omega
    have e4 : (k == 4) = false := by simp; omega
    have e5 : (k == 5) = false := by simp; omega
    have e6 : (k == 6) = false := by simp; omega
    have e7 : (k == 7) = false := by simp; omega
    have e8 : (k == 8) = false := by simp; omega
    have e9 : (k == 9) = false := by simp; omega
    go_enter Tryd.func11, Tryd.ntmps11
    go_wp2
    go_ret
    exact ⟨rfl, rfl⟩
set_option maxHeartbeats 1000000 in
theorem op_ref (k : Int) (w : World) : Calls Tryd.prog 12 #[.int .i64 k] w fun e w' => e = .returned (.int .i64 (opK k)) ∧ Below w.heap.size w w' := by
  have hk : k = 0 ∨ k = 1 ∨ k = 2 ∨ k = 3 ∨ k = 4 ∨ k = 5 ∨ k = 6 ∨ k = 7 ∨ k = 8 ∨ k = 9 ∨ k < 0 ∨ 9 < k := by omega
  rcases hk with rfl | rfl | rfl | rfl | rfl | rfl | rfl | rfl | rfl | rfl | hk | hk
  · go_enter Tryd.func12, Tryd.ntmps12
    go_wp2
    go_ret
    exact ⟨rfl, (Below.refl _ _).alloc (Nat.le_refl _) _⟩
  · go_enter Tryd.func12, Tryd.ntmps12
    go_wp2
    go_ret
    exact ⟨rfl, (Below.refl _ _).alloc (Nat.le_refl _) _⟩
  · go_enter Tryd.func12, Tryd.ntmps12
    go_wp2
    go_ret
    exact ⟨rfl, (Below.refl _ _).alloc (Nat.le_refl _) _⟩
  · go_enter Tryd.func12, Tryd.ntmps12
    go_wp2
    go_ret
    exact ⟨rfl, (Below.refl _ _).alloc (Nat.le_refl _) _⟩
  · go_enter Tryd.func12, Tryd.ntmps12
    go_wp2
    go_ret
    exact ⟨rfl, (Below.refl _ _).alloc (Nat.le_refl _) _⟩
  · go_enter Tryd.func12, Tryd.ntmps12
    go_wp2
    go_ret
    exact ⟨rfl, (Below.refl _ _).alloc (Nat.le_refl _) _⟩
  · go_enter Tryd.func12, Tryd.ntmps12
    go_wp2
    go_ret
    exact ⟨rfl, (Below.refl _ _).alloc (Nat.le_refl _) _⟩
  · go_enter Tryd.func12, Tryd.ntmps12
    go_wp2
    go_ret
    exact ⟨rfl, (Below.refl _ _).alloc (Nat.le_refl _) _⟩
  · go_enter Tryd.func12, Tryd.ntmps12
    go_wp2
    go_ret
    exact ⟨rfl, (Below.refl _ _).alloc (Nat.le_refl _) _⟩
  · go_enter Tryd.func12, Tryd.ntmps12
    go_wp2
    go_ret
    exact ⟨rfl, (Below.refl _ _).alloc (Nat.le_refl _) _⟩
  · have he : opK k = 0 := by unfold opK; rw [if_neg (by omega), if_neg (by omega), if_neg (by omega), if_neg (by omega), if_neg (by omega), if_neg (by omega), if_neg (by omega), if_neg (by omega), if_neg (by omega), if_neg (by omega)]
    rw [he]
    go_enter Tryd.func12, Tryd.ntmps12
    go_wp2
    go_ret
    exact ⟨rfl, (Below.refl _ _).alloc (Nat.le_refl _) _⟩
  · have he : opK k = 0 := by unfold opK; rw [if_neg (by omega), if_neg (by omega), if_neg (by omega), if_neg (by omega), if_neg (by omega), if_neg (by omega), if_neg (by omega), if_neg (by omega), if_neg (by omega), if_neg (by omega)]
    rw [he]
    go_enter Tryd.func12, Tryd.ntmps12
    go_wp2
    go_ret
    exact ⟨rfl, (Below.refl _ _).alloc (Nat.le_refl _) _⟩
set_option maxHeartbeats 1000000 in
theorem again_any (k : Int) (w : World) : Calls Tryd.prog 13 #[.int .i64 k] w fun e w' => e = .returned (.bool (againK k)) ∧ w' = w := by
  have hk : k = 0 ∨ k = 1 ∨ k = 2 ∨ k = 3 ∨ k = 4 ∨ k = 5 ∨ k = 6 ∨ k = 7 ∨ k = 8 ∨ k = 9 ∨ k < 0 ∨ 9 < k := by omega
  rcases hk with rfl | rfl | rfl | rfl | rfl | rfl | rfl | rfl | rfl | rfl | hk | hk
  · go_enter Tryd.func13, Tryd.ntmps13
    go_wp2
    go_ret
    exact ⟨rfl, rfl⟩
  · go_enter Tryd.func13, Tryd.ntmps13
    go_wp2
    go_ret
    exact ⟨rfl, rfl⟩
  · go_enter Tryd.func13, Tryd.ntmps13
    go_wp2
    go_ret
    exact ⟨rfl, rfl⟩
  · go_enter Tryd.func13, Tryd.ntmps13
    go_wp2
    go_ret
    exact ⟨rfl, rfl⟩
  · go_enter Tryd.func13, Tryd.ntmps13
    go_wp2
    go_ret
    exact ⟨rfl, rfl⟩
  · go_enter Tryd.func13, Tryd.ntmps13
    go_wp2
    go_ret
    exact ⟨rfl, rfl⟩
  · go_enter Tryd.func13, Tryd.ntmps13
    go_wp2
    go_ret
    exact ⟨rfl, rfl⟩
  · go_enter Tryd.func13, Tryd.ntmps13
    go_wp2
    go_ret
    exact ⟨rfl, rfl⟩
  · go_enter Tryd.func13, Tryd.ntmps13
    go_wp2
    go_ret
    exact ⟨rfl, rfl⟩
  · go_enter Tryd.func13, Tryd.ntmps13
    go_wp2
    go_ret
    exact ⟨rfl, rfl⟩
  · have he : againK k = false := by unfold againK; rw [if_neg (by omega), if_neg (by omega), if_neg (by omega), if_neg (by omega), if_neg (by omega), if_neg (by omega), if_neg (by omega), if_neg (by omega), if_neg (by omega), if_neg (by omega)]
    rw [he]
    have e0 : (k == 0) = false := by simp; omega
    have e1 : (k == 1) = false := by simp; omega
    have e2 : (k == 2) = false := by simp; omega
    have e3 : (k == 3) = false := by simp; omega
    have e4 : (k == 4) = false := by simp; omega
    have e5 : (k == 5) = false := by simp; omega
    have e6 : (k == 6) = false := by simp; omega
    have e7 : (k == 7) = false := by simp; omega
    have e8 : (k == 8) = false := by simp; omega
    have e9 : (k == 9) = false := by simp; omega
    go_enter Tryd.func13, Tryd.ntmps13
    go_wp2
    go_ret
    exact ⟨rfl, rfl⟩
  · have he : againK k = false := by unfold againK; rw [if_neg (by omega), if_neg (by omega), if_neg (by omega), if_neg (by omega), if_neg (by omega), if_neg (by omega), if_neg (by omega), if_neg (by omega), if_neg (by omega), if_neg (by omega)]
    rw [he]
    have e0 : (k == 0) = false := by simp; omega
    have e1 : (k == 1) = false := by simp; omega
    have e2 : (k == 2) = false := by simp; omega
    have e3 : (k == 3) = false := by simp; omega
    have e4 : (k == 4) = false := by simp; omega
    have e5 : (k == 5) = false := by simp; omega
    have e6 : (k == 6) = false := by simp; omega
    have e7 : (k == 7) = false := by simp; omega
    have e8 : (k == 8) = false := by simp; omega
    have e9 : (k == 9) = false := by simp; omega
    go_enter Tryd.func13, Tryd.ntmps13
    go_wp2
    go_ret
    exact ⟨rfl, rfl⟩
set_option maxHeartbeats 1000000 in
theorem again_ref (k : Int) (w : World) : Calls Tryd.prog 14 #[.int .i64 k] w fun e w' => e = .returned (.bool (againK k)) ∧ w' = w := by
  have hk : k = 0 ∨ k = 1 ∨ k = 2 ∨ k = 3 ∨ k = 4 ∨ k = 5 ∨ k = 6 ∨ k = 7 ∨ k = 8 ∨ k = 9 ∨ k < 0 ∨ 9 < k := by omega
  rcases hk with rfl | rfl | rfl | rfl | rfl | rfl | rfl | rfl | rfl | rfl | hk | hk
  · go_enter Tryd.func14, Tryd.ntmps14
    go_wp2
    go_ret
    exact ⟨rfl, rfl⟩
  · go_enter Tryd.func14, Tryd.ntmps14
    go_wp2
    go_ret
    exact ⟨rfl, rfl⟩
  · go_enter Tryd.func14, Tryd.ntmps14
    go_wp2
    go_ret
    exact ⟨rfl, rfl⟩
  · go_enter Tryd.func14, Tryd.ntmps14
    go_wp2
    go_ret
    exact ⟨rfl, rfl⟩
  · go_enter Tryd.func14, Tryd.ntmps14
    go_wp2
    go_ret
    exact ⟨rfl, rfl⟩
  · go_enter Tryd.func14, Tryd.ntmps14
    go_wp2
    go_ret
    exact ⟨rfl, rfl⟩
  · go_enter Tryd.func14, Tryd.ntmps14
    go_wp2
    go_ret
    exact ⟨rfl, rfl⟩
  · go_enter Tryd.func14, Tryd.ntmps14
    go_wp2
    go_ret
    exact ⟨rfl, rfl⟩
  · go_enter Tryd.func14, Tryd.ntmps14
    go_wp2
    go_ret
    exact ⟨rfl, rfl⟩
  · go_enter Tryd.func14, Tryd.ntmps14
    go_wp2
    go_ret
    exact ⟨rfl, rfl⟩
  · have he : againK k = false := by unfold againK; rw [if_neg (by omega), if_neg (by omega), if_neg (by omega), if_neg (by omega), if_neg (by omega), if_neg (by omega), if_neg (by omega), if_neg (by omega), if_neg (by omega), if_neg (by omega)]
    rw [he]
    have e0 : (k == 0) = false := by simp; omega
    have e1 : (k == 1) = false := by simp; omega
    have e2 : (k == 2) = false := by simp; omega
    have e3 : (k == 3) = false := by simp; omega
    have e4 : (k == 4) = false := by simp; omega
    have e5 : (k == 5) = false := by simp; omega
    have e6 : (k == 6) = false := by simp; omega
    have e7 : (k == 7) = false := by simp; omega
    have e8 : (k == 8) = false := by simp; omega
    have e9 : (k == 9) = false := by simp; omega
    have g1 : ¬ (2 ≤ k) := by omega
    go_enter Tryd.func14, Tryd.ntmps14
    go_wp2
    go_ret
    exact ⟨rfl, rfl⟩
  · have he : againK k = false := by unfold againK; rw [if_neg (by omega), if_neg (by omega), if_neg (by omega), if_neg (by omega), if_neg (by omega), if_neg (by omega), if_neg (by omega), if_neg (by omega), if_neg (by omega), if_neg (by omega)]
    rw [he]
    have e0 : (k == 0) = false := by simp; omega
    have e1 : (k == 1) = false := by simp; omega
    have e2 : (k == 2) = false := by simp; omega
    have e3 : (k == 3) = false := by simp; omega
    have e4 : (k == 4) = false := by simp; omega
    have e5 : (k == 5) = false := by simp; omega
    have e6 : (k == 6) = false := by simp; omega
    have e7 : (k == 7) = false := by simp; omega
    have e8 : (k == 8) = false := by simp; omega
    have e9 : (k == 9) = false := by simp; omega
    have g1 : 2 ≤ k := by omega
    have g2 : ¬ (k ≤ 8) := by omega
    go_enter Tryd.func14, Tryd.ntmps14
    go_wp2
    go_ret
    exact ⟨rfl, rfl⟩
set_option maxHeartbeats 1000000 in
theorem name_any (k : Int) (w : World) : Calls Tryd.prog 16 #[.int .i64 k] w fun e w' => e = .returned (.string (nameK k)) ∧ w' = w := by
  have hk : k = 0 ∨ k = 1 ∨ k = 2 ∨ k = 3 ∨ k = 4 ∨ k = 5 ∨ k = 6 ∨ k = 7 ∨ k = 8 ∨ k = 9 ∨ k < 0 ∨ 9 < k := by omega
  rcases hk with rfl | rfl | rfl | rfl | rfl | rfl | rfl | rfl | rfl | rfl | hk | hk
  · go_enter Tryd.func16, Tryd.ntmps16
    go_wp2
    go_ret
    exact ⟨rfl, rfl⟩
  · go_enter Tryd.func16, Tryd.ntmps16
    go_wp2
    go_ret
    exact ⟨rfl, rfl⟩
  · go_enter Tryd.func16, Tryd.ntmps16
    go_wp2
    go_ret
    exact ⟨rfl, rfl⟩
  · go_enter Tryd.func16, Tryd.ntmps16
    go_wp2
    go_ret
    exact ⟨rfl, rfl⟩
  · go_enter Tryd.func16, Tryd.ntmps16
    go_wp2
    go_ret
    exact ⟨rfl, rfl⟩
  · go_enter Tryd.func16, Tryd.ntmps16
    go_wp2
    go_ret
    exact ⟨rfl, rfl⟩
  · go_enter Tryd.func16, Tryd.ntmps16
    go_wp2
    go_ret
    exact ⟨rfl, rfl⟩
  · go_enter Tryd.func16, Tryd.ntmps16
    go_wp2
    go_ret
    exact ⟨rfl, rfl⟩
  · go_enter Tryd.func16, Tryd.ntmps16
    go_wp2
    go_ret
    exact ⟨rfl, rfl⟩
  · go_enter Tryd.func16, Tryd.ntmps16
    go_wp2
    go_ret
    exact ⟨rfl, rfl⟩
  · have he : nameK k = ⟨#[]⟩ := by unfold nameK; rw [if_neg (by omega), if_neg (by omega), if_neg (by omega), if_neg (by omega), if_neg (by omega), if_neg (by omega), if_neg (by omega), if_neg (by omega), if_neg (by omega), if_neg (by omega)]
    rw [he]
    have e0 : (k == 0) = false := by simp; omega
    have e1 : (k == 1) = false := by simp; omega
    have e2 : (k == 2) = false := by simp; omega
    have e3 : (k == 3) = false := by simp; omega
    have e4 : (k == 4) = false := by simp; omega
    have e5 : (k == 5) = false := by simp; omega
    have e6 : (k == 6) = false := by simp; omega
    have e7 : (k == 7) = false := by simp; omega
    have e8 : (k == 8) = false := by simp; omega
    have e9 : (k == 9) = false := by simp; omega
    go_enter Tryd.func16, Tryd.ntmps16
    go_wp2
    go_ret
    exact ⟨rfl, rfl⟩
  · have he : nameK k = ⟨#[]⟩ := by unfold nameK; rw [if_neg (by omega), if_neg (by omega), if_neg (by omega), if_neg (by omega), if_neg (by omega), if_neg (by omega), if_neg (by omega), if_neg (by omega), if_neg (by omega), if_neg (by omega)]
    rw [he]
    have e0 : (k == 0) = false := by simp; omega
    have e1 : (k == 1) = false := by simp; omega
    have e2 : (k == 2) = false := by simp; omega
    have e3 : (k == 3) = false := by simp; omega
    have e4 : (k == 4) = false := by simp; omega
    have e5 : (k == 5) = false := by simp; omega
    have e6 : (k == 6) = false := by simp; omega
    have e7 : (k == 7) = false := by simp; omega
    have e8 : (k == 8) = false := by simp; omega
    have e9 : (k == 9) = false := by simp; omega
    go_enter Tryd.func16, Tryd.ntmps16
    go_wp2
    go_ret
    exact ⟨rfl, rfl⟩
set_option maxHeartbeats 1000000 in
theorem name_ref (k : Int) (w : World) : Calls Tryd.prog 17 #[.int .i64 k] w fun e w' => e = .returned (.string (nameK k)) ∧ Below w.heap.size w w' := by
  have hk : k = 0 ∨ k = 1 ∨ k = 2 ∨ k = 3 ∨ k = 4 ∨ k = 5 ∨ k = 6 ∨ k = 7 ∨ k = 8 ∨ k = 9 ∨ k < 0 ∨ 9 < k := by omega
  rcases hk with rfl | rfl | rfl | rfl | rfl | rfl | rfl | rfl | rfl | rfl | hk | hk
  · go_enter Tryd.func17, Tryd.ntmps17
    go_wp2
    go_ret
    exact ⟨rfl, (Below.refl _ _).alloc (Nat.le_refl _) _⟩
  · go_enter Tryd.func17, Tryd.ntmps17
    go_wp2
    go_ret
    exact ⟨rfl, (Below.refl _ _).alloc (Nat.le_refl _) _⟩
  · go_enter Tryd.func17, Tryd.ntmps17
    go_wp2
    go_ret
    exact ⟨rfl, (Below.refl _ _).alloc (Nat.le_refl _) _⟩
  · go_enter Tryd.func17, Tryd.ntmps17
    go_wp2
    go_ret
    exact ⟨rfl, (Below.refl _ _).alloc (Nat.le_refl _) _⟩
  · go_enter Tryd.func17, Tryd.ntmps17
    go_wp2
    go_ret
    exact ⟨rfl, (Below.refl _ _).alloc (Nat.le_refl _) _⟩
  · go_enter Tryd.func17, Tryd.ntmps17
    go_wp2
    go_ret
    exact ⟨rfl, (Below.refl _ _).alloc (Nat.le_refl _) _⟩
  · go_enter Tryd.func17, Tryd.ntmps17
    go_wp2
    go_ret
    exact ⟨rfl, (Below.refl _ _).alloc (Nat.le_refl _) _⟩
  · go_enter Tryd.func17, Tryd.ntmps17
    go_wp2
    go_ret
    exact ⟨rfl, (Below.refl _ _).alloc (Nat.le_refl _) _⟩
  · go_enter Tryd.func17, Tryd.ntmps17
    go_wp2
    go_ret
    exact ⟨rfl, (Below.refl _ _).alloc (Nat.le_refl _) _⟩
  · go_enter Tryd.func17, Tryd.ntmps17
    go_wp2
    go_ret
    exact ⟨rfl, (Below.refl _ _).alloc (Nat.le_refl _) _⟩
  · have he : nameK k = ⟨#[]⟩ := by unfold nameK; rw [if_neg (by omega), if_neg (by omega), if_neg (by omega), if_neg (by omega), if_neg (by omega), if_neg (by omega), if_neg (by omega), if_neg (by omega), if_neg (by omega), if_neg (by omega)]
    rw [he]
    go_enter Tryd.func17, Tryd.ntmps17
    go_wp2
    go_ret
    exact ⟨rfl, (Below.refl _ _).alloc (Nat.le_refl _) _⟩
  · have he : nameK k = ⟨#[]⟩ := by unfold nameK; rw [if_neg (by omega), if_neg (by omega), if_neg (by omega), if_neg (by omega), if_neg (by omega), if_neg (by omega), if_neg (by omega), if_neg (by omega), if_neg (by omega), if_neg (by omega)]
    rw [he]
    go_enter Tryd.func17, Tryd.ntmps17
    go_wp2
    go_ret
    exact ⟨rfl, (Below.refl _ _).alloc (Nat.le_refl _) _⟩

end Go.Proofs.YtidpbinhcfbpmaaDoor.Errs
