import Derived.Test.YtdljphbfbiganaaGreatDoorTk
import Derived.Test.YtdljphbfbiganaaGreatDoorGLgBase
/- line: whether a packet fits an end in whatever state. -/
namespace Go.Proofs.YtdljphbfbiganaaGreatDoor.Lg
open Go Go.RowKit Packet Ln Mg
set_option linter.unusedVariables false

open Classical in
/-- whether a packet fits an end -/
noncomputable def fitG (s : St) (p : P5) (x : Int) : Bool := decide (p.right ∧ p.c = s.ch ∧ p.f = x)
open Classical in
theorem fitG_no (s : St) (p : P5) (x : Int) (h : ¬ (p.right ∧ p.c = s.ch ∧ p.f = x)) : fitG s p x = false := by unfold fitG; exact decide_eq_false h
open Classical in
theorem fitG_yes (s : St) (p : P5) (x : Int) (h : p.right) (hc : (p.c == s.ch) = true) : fitG s p x = (p.f == x) := by
  have hc' : p.c = s.ch := by simpa using hc
  unfold fitG
  by_cases hf : p.f = x
  · rw [decide_eq_true ⟨h, hc', hf⟩]; simp [hf]
  · rw [decide_eq_false (fun k => hf k.2.2)]; simp [hf]
open Classical in
theorem fitG_iff (s : St) (p : P5) (x : Int) : fitG s p x = true ↔ p.right ∧ p.c = s.ch ∧ p.f = x := by unfold fitG; exact decide_eq_true_iff
/-- the packet's box, and an end -/
def PL (w : World) (b : Nat) (p : P5) (E M N : Nat) (s : St) (W : World) : Prop := Below w.heap.size w W ∧ PkB W b p ∧ LG W E M N s
section
variable {w W V : World} {b E M N : Nat} {p : P5} {s : St}
theorem PL.drew (h : PL w b p E M N s W) : PL w b p E M N s W.drew := ⟨h.1.drew, h.2.1, h.2.2.below (Below.refl _ _).drew⟩
theorem PL.call (h : PL w b p E M N s W) (hb : Below W.heap.size W V) : PL w b p E M N s V := ⟨h.1.trans (hb.mono h.1.size), h.2.1.below hb, h.2.2.below hb⟩
theorem PL.new (h : LG w E M N s) : PL w w.heap.size p E M N s (w.alloc (.cells #[.int .i64 p.c, .int .i64 p.f, .int .u64 p.s, .int .u64 p.t, .string p.d] TPk)) :=
  have hb : Below w.heap.size w (w.alloc (.cells #[.int .i64 p.c, .int .i64 p.f, .int .u64 p.s, .int .u64 p.t, .string p.d] TPk)) := (Below.refl _ _).alloc (Nat.le_refl _) _
  ⟨hb, heap_alloc_new w _, h.below hb⟩
end
set_option maxRecDepth 20000 in
set_option maxHeartbeats 2000000 in
theorem fits_g {w : World} {E M N : Nat} {s : St} (p : P5) (x : Int) (h : LG w E M N s) : Calls Tryz.prog 19 #[.pointer (some ⟨E, 0, none⟩), pkv p, .int .i64 x] w fun e w' => e = .returned (.bool (fitG s p x)) ∧ Below w.heap.size w w' := by
  have H0 := PL.new (p := p) h
  clear h
  obtain ⟨V, hV⟩ : ∃ X, X = w.alloc (.cells #[.int .i64 p.c, .int .i64 p.f, .int .u64 p.s, .int .u64 p.t, .string p.d] TPk) := ⟨_, rfl⟩
  rw [← hV] at H0
  obtain ⟨b, HR, hb⟩ : ∃ b, Hid (∀ W, Calls Tryz.prog 42 #[.agg #[.int .i64 p.c, .int .i64 p.f, .int .u64 p.s, .int .u64 p.t, .string p.d]] W fun e w' => e = .returned (.bool b) ∧ Below W.heap.size W w') ∧ (p.right → b = true) ∧ (b = true → p.right) := by
    by_cases hr : p.right
    · exact ⟨true, Lib.hid (right_yes p hr), fun _ => rfl, fun _ => hr⟩
    · exact ⟨false, Lib.hid (right_no p hr), fun k => absurd k hr, fun k => by cases k⟩
  have HV := Lib.hid hV
  clear hV
  have Hq := Lib.hid hb
  clear hb
  cases b
  · go_enter Tryz.func19, Tryz.ntmps19
    go_upto_region 1 with fail
    rw [← HV.out]
    refine wp_region_held_drew (S := PL w w.heap.size p E M N s) (by kernel_rfl) (PL.drew H0) (fun hHeld => ?_)
    refine tk (i := 0) (v := ?_) rfl (by kernel_rfl) (fun _ _ _ h => h) (by rfl) ?_ (by assumption) ?_
    rotate_left
    · (intro W hSw; have hz := hSw.2.1.cells; have hy := hSw.2.2.cells; go_simp; try with_reducible rfl)
    try simp only [Act.put, gA, gZ, sA, sZ, sS]
    refine wpAnyH_ready (rs := [1]) (by kernel_rfl) (by simp) ?_
    refine AllReadyH.cons rfl (fun K hK => ?_) AllReadyH.nil
    simp only [gA, gS, gZ]
    rw [if_pos (by rfl)]
    go_simp
    (refine (HR.out _).mono ?_; rintro e w1 ⟨rfl, hb1⟩)
    go_wp2_with fail
    refine hK.out _ _ (PL.call (PL.drew H0) hb1) (fun hHeld => ?_)
    clear hK K
    try simp only [Act.put, gA, gS, gZ, sA, sZ, sS]
    refine tk (i := 2) (v := ?_) rfl (by kernel_rfl) (fun _ _ _ h => h) (by rfl) ?_ (by assumption) ?_
    rotate_left
    · (intro W hSw; have hz := hSw.2.1.cells; have hy := hSw.2.2.cells; go_simp; try with_reducible rfl)
    try simp only [Act.put, gA, gS, gZ, sA, sZ, sS]
    refine tn (i := 3) rfl (by kernel_rfl) (fun _ _ _ h => h) (by rfl) rfl (by assumption) ?_
    try simp only [Act.put, gA, gS, gZ, sA, sZ, sS]
    refine tn (i := 4) rfl (by kernel_rfl) (fun _ _ _ h => h) (by rfl) rfl (by assumption) ?_
    try simp only [Act.put, gA, gS, gZ, sA, sZ, sS]
    refine tn (i := 5) rfl (by kernel_rfl) (fun _ _ _ h => h) (by rfl) rfl (by assumption) ?_
    try simp only [Act.put, gA, gS, gZ, sA, sZ, sS]
    refine tn (i := 6) rfl (by kernel_rfl) (fun _ _ _ h => h) (by rfl) rfl (by assumption) ?_
    try simp only [Act.put, gA, gS, gZ, sA, sZ, sS]
    refine tn (i := 7) rfl (by kernel_rfl) (fun _ _ _ h => h) (by rfl) rfl (by assumption) ?_
    try simp only [Act.put, gA, gS, gZ, sA, sZ, sS]
    refine tn (i := 8) rfl (by kernel_rfl) (fun _ _ _ h => h) (by rfl) rfl (by assumption) ?_
    try simp only [Act.put, gA, gS, gZ, sA, sZ, sS]
    refine tn (i := 9) rfl (by kernel_rfl) (fun _ _ _ h => h) (by rfl) rfl (by assumption) ?_
    try simp only [Act.put, gA, gS, gZ, sA, sZ, sS]
    refine tk (i := 10) (v := ?_) rfl (by kernel_rfl) (fun _ _ _ h => h) (by rfl) ?_ (by assumption) ?_
    rotate_left
    · (intro W hSw; have hz := hSw.2.1.cells; have hy := hSw.2.2.cells; go_simp; try with_reducible rfl)
    try simp only [Act.put, gA, gS, gZ, sA, sZ, sS]
    refine tk (i := 11) (v := ?_) rfl (by kernel_rfl) (fun _ _ _ h => h) (by rfl) ?_ (by assumption) ?_
    rotate_left
    · (intro W hSw; have hz := hSw.2.1.cells; have hy := hSw.2.2.cells; go_simp; try with_reducible rfl)
    try simp only [Act.put, gA, gS, gZ, sA, sZ, sS]
    refine tn (i := 12) rfl (by kernel_rfl) (fun _ _ _ h => h) (by rfl) rfl (by assumption) ?_
    try simp only [Act.put, gA, gS, gZ, sA, sZ, sS]
    refine tn (i := 13) rfl (by kernel_rfl) (fun _ _ _ h => h) (by rfl) rfl (by assumption) ?_
    try simp only [Act.put, gA, gS, gZ, sA, sZ, sS]
    refine tn (i := 14) rfl (by kernel_rfl) (fun _ _ _ h => h) (by rfl) rfl (by assumption) ?_
    try simp only [Act.put, gA, gS, gZ, sA, sZ, sS]
    refine tn (i := 15) rfl (by kernel_rfl) (fun _ _ _ h => h) (by rfl) rfl (by assumption) ?_
    try simp only [Act.put, gA, gS, gZ, sA, sZ, sS]
    refine tk (i := 16) (v := ?_) rfl (by kernel_rfl) (fun _ _ _ h => h) (by rfl) ?_ (by assumption) ?_
    rotate_left
    · (intro W hSw; have hz := hSw.2.1.cells; have hy := hSw.2.2.cells; go_simp; try with_reducible rfl)
    try simp only [Act.put, gA, gS, gZ, sA, sZ, sS]
    refine tk (i := 17) (v := ?_) rfl (by kernel_rfl) (fun _ _ _ h => h) (by rfl) ?_ (by assumption) ?_
    rotate_left
    · (intro W hSw; have hz := hSw.2.1.cells; have hy := hSw.2.2.cells; go_simp; try with_reducible rfl)
    try simp only [Act.put, gA, gS, gZ, sA, sZ, sS]
    refine wpAnyH_done (by kernel_rfl) ?_ _
    go_wp2
    go_ret
    exact ⟨by rw [fitG_no s p x (fun y => absurd (Hq.out.1 y.1) (by decide))] <;> rfl, hHeld.1⟩
  · obtain ⟨bc, hbc, hb2⟩ : ∃ bc, (p.c == s.ch) = bc ∧ (p.c = s.ch → bc = true) := ⟨_, rfl, fun h => by simpa using h⟩
    obtain ⟨bf, hbf, hb3⟩ : ∃ bf, (p.f == x) = bf ∧ (p.f = x → bf = true) := ⟨_, rfl, fun h => by simpa using h⟩
    have H2 := Lib.hid hb2
    have H3 := Lib.hid hb3
    clear hb2 hb3
    cases bc
    · go_enter Tryz.func19, Tryz.ntmps19
      go_upto_region 1 with fail
      rw [← HV.out]
      refine wp_region_held_drew (S := PL w w.heap.size p E M N s) (by kernel_rfl) (PL.drew H0) (fun hHeld => ?_)
      refine tk (i := 0) (v := ?_) rfl (by kernel_rfl) (fun _ _ _ h => h) (by rfl) ?_ (by assumption) ?_
      rotate_left
      · (intro W hSw; have hz := hSw.2.1.cells; have hy := hSw.2.2.cells; go_simp; try with_reducible rfl)
      try simp only [Act.put, gA, gZ, sA, sZ, sS]
      refine wpAnyH_ready (rs := [1]) (by kernel_rfl) (by simp) ?_
      refine AllReadyH.cons rfl (fun K hK => ?_) AllReadyH.nil
      simp only [gA, gS, gZ]
      rw [if_pos (by rfl)]
      go_simp
      (refine (HR.out _).mono ?_; rintro e w1 ⟨rfl, hb1⟩)
      go_wp2_with fail
      refine hK.out _ _ (PL.call (PL.drew H0) hb1) (fun hHeld => ?_)
      clear hK K
      try simp only [Act.put, gA, gS, gZ, sA, sZ, sS]
      refine tk (i := 2) (v := ?_) rfl (by kernel_rfl) (fun _ _ _ h => h) (by rfl) ?_ (by assumption) ?_
      rotate_left
      · (intro W hSw; have hz := hSw.2.1.cells; have hy := hSw.2.2.cells; go_simp; try with_reducible rfl)
      try simp only [Act.put, gA, gS, gZ, sA, sZ, sS]
      refine tk (i := 3) (v := ?_) rfl (by kernel_rfl) (fun _ _ _ h => h) (by rfl) ?_ (by assumption) ?_
      rotate_left
      · (intro W hSw; have hz := hSw.2.1.cells; have hy := hSw.2.2.cells; go_simp; try with_reducible rfl)
      try simp only [Act.put, gA, gS, gZ, sA, sZ, sS]
      refine tk (i := 4) (v := ?_) rfl (by kernel_rfl) (fun _ _ _ h => h) (by rfl) ?_ (by assumption) ?_
      rotate_left
      · (intro W hSw; have hz := hSw.2.1.cells; have hy := hSw.2.2.cells; go_simp; try with_reducible rfl)
      try simp only [Act.put, gA, gS, gZ, sA, sZ, sS]
      refine tk (i := 5) (v := ?_) rfl (by kernel_rfl) (fun _ _ _ h => h) (by rfl) ?_ (by assumption) ?_
      rotate_left
      · (intro W hSw; have hz := hSw.2.1.cells; have hy := hSw.2.2.cells; go_simp; try with_reducible rfl)
      try simp only [Act.put, gA, gS, gZ, sA, sZ, sS]
      refine tk (i := 6) (v := ?_) rfl (by kernel_rfl) (fun _ _ _ h => h) (by rfl) ?_ (by assumption) ?_
      rotate_left
      · (intro W hSw; have hz := hSw.2.1.cells; have hy := hSw.2.2.cells; go_simp; try with_reducible rfl)
      try simp only [Act.put, gA, gS, gZ, sA, sZ, sS]
      refine tk (i := 7) (v := ?_) rfl (by kernel_rfl) (fun _ _ _ h => h) (by rfl) ?_ (by assumption) ?_
      rotate_left
      · (intro W hSw; have hz := hSw.2.1.cells; have hy := hSw.2.2.cells; go_simp; try with_reducible rfl)
      try simp only [Act.put, gA, gS, gZ, sA, sZ, sS]
      refine tk (i := 8) (v := ?_) rfl (by kernel_rfl) (fun _ _ _ h => h) (by rfl) ?_ (by assumption) ?_
      rotate_left
      · (intro W hSw; have hz := hSw.2.1.cells; have hy := hSw.2.2.cells; go_simp; try with_reducible rfl)
      try simp only [Act.put, gA, gS, gZ, sA, sZ, sS]
      refine tk (i := 9) (v := ?_) rfl (by kernel_rfl) (fun _ _ _ h => h) (by rfl) ?_ (by assumption) ?_
      rotate_left
      · (intro W hSw; have hz := hSw.2.1.cells; have hy := hSw.2.2.cells; go_simp; try with_reducible rfl)
      try simp only [Act.put, gA, gS, gZ, sA, sZ, sS]
      refine tk (i := 10) (v := ?_) rfl (by kernel_rfl) (fun _ _ _ h => h) (by rfl) ?_ (by assumption) ?_
      rotate_left
      · (intro W hSw; have hz := hSw.2.1.cells; have hy := hSw.2.2.cells; go_simp; try with_reducible rfl)
      try simp only [Act.put, gA, gS, gZ, sA, sZ, sS]
      refine tk (i := 11) (v := ?_) rfl (by kernel_rfl) (fun _ _ _ h => h) (by rfl) ?_ (by assumption) ?_
      rotate_left
      · (intro W hSw; have hz := hSw.2.1.cells; have hy := hSw.2.2.cells; go_simp; try with_reducible rfl)
      try simp only [Act.put, gA, gS, gZ, sA, sZ, sS]
      refine tn (i := 12) rfl (by kernel_rfl) (fun _ _ _ h => h) (by rfl) rfl (by assumption) ?_
      try simp only [Act.put, gA, gS, gZ, sA, sZ, sS]
      refine tn (i := 13) rfl (by kernel_rfl) (fun _ _ _ h => h) (by rfl) rfl (by assumption) ?_
      try simp only [Act.put, gA, gS, gZ, sA, sZ, sS]
      refine tn (i := 14) rfl (by kernel_rfl) (fun _ _ _ h => h) (by rfl) rfl (by assumption) ?_
      try simp only [Act.put, gA, gS, gZ, sA, sZ, sS]
      refine tn (i := 15) rfl (by kernel_rfl) (fun _ _ _ h => h) (by rfl) rfl (by assumption) ?_
      try simp only [Act.put, gA, gS, gZ, sA, sZ, sS]
      refine tk (i := 16) (v := ?_) rfl (by kernel_rfl) (fun _ _ _ h => h) (by rfl) ?_ (by assumption) ?_
      rotate_left
      · (intro W hSw; have hz := hSw.2.1.cells; have hy := hSw.2.2.cells; go_simp; try with_reducible rfl)
      try simp only [Act.put, gA, gS, gZ, sA, sZ, sS]
      refine tk (i := 17) (v := ?_) rfl (by kernel_rfl) (fun _ _ _ h => h) (by rfl) ?_ (by assumption) ?_
      rotate_left
      · (intro W hSw; have hz := hSw.2.1.cells; have hy := hSw.2.2.cells; go_simp; try with_reducible rfl)
      try simp only [Act.put, gA, gS, gZ, sA, sZ, sS]
      refine wpAnyH_done (by kernel_rfl) ?_ _
      go_wp2
      go_ret
      exact ⟨by rw [fitG_no s p x (fun y => absurd (H2.out y.2.1) (by decide))] <;> rfl, hHeld.1⟩
    · go_enter Tryz.func19, Tryz.ntmps19
      go_upto_region 1 with fail
      rw [← HV.out]
      refine wp_region_held_drew (S := PL w w.heap.size p E M N s) (by kernel_rfl) (PL.drew H0) (fun hHeld => ?_)
      refine tk (i := 0) (v := ?_) rfl (by kernel_rfl) (fun _ _ _ h => h) (by rfl) ?_ (by assumption) ?_
      rotate_left
      · (intro W hSw; have hz := hSw.2.1.cells; have hy := hSw.2.2.cells; go_simp; try with_reducible rfl)
      try simp only [Act.put, gA, gZ, sA, sZ, sS]
      refine wpAnyH_ready (rs := [1]) (by kernel_rfl) (by simp) ?_
      refine AllReadyH.cons rfl (fun K hK => ?_) AllReadyH.nil
      simp only [gA, gS, gZ]
      rw [if_pos (by rfl)]
      go_simp
      (refine (HR.out _).mono ?_; rintro e w1 ⟨rfl, hb1⟩)
      go_wp2_with fail
      refine hK.out _ _ (PL.call (PL.drew H0) hb1) (fun hHeld => ?_)
      clear hK K
      try simp only [Act.put, gA, gS, gZ, sA, sZ, sS]
      refine tk (i := 2) (v := ?_) rfl (by kernel_rfl) (fun _ _ _ h => h) (by rfl) ?_ (by assumption) ?_
      rotate_left
      · (intro W hSw; have hz := hSw.2.1.cells; have hy := hSw.2.2.cells; go_simp; try with_reducible rfl)
      try simp only [Act.put, gA, gS, gZ, sA, sZ, sS]
      refine tk (i := 3) (v := ?_) rfl (by kernel_rfl) (fun _ _ _ h => h) (by rfl) ?_ (by assumption) ?_
      rotate_left
      · (intro W hSw; have hz := hSw.2.1.cells; have hy := hSw.2.2.cells; go_simp; try with_reducible rfl)
      try simp only [Act.put, gA, gS, gZ, sA, sZ, sS]
      refine tk (i := 4) (v := ?_) rfl (by kernel_rfl) (fun _ _ _ h => h) (by rfl) ?_ (by assumption) ?_
      rotate_left
      · (intro W hSw; have hz := hSw.2.1.cells; have hy := hSw.2.2.cells; go_simp; try with_reducible rfl)
      try simp only [Act.put, gA, gS, gZ, sA, sZ, sS]
      refine tk (i := 5) (v := ?_) rfl (by kernel_rfl) (fun _ _ _ h => h) (by rfl) ?_ (by assumption) ?_
      rotate_left
      · (intro W hSw; have hz := hSw.2.1.cells; have hy := hSw.2.2.cells; go_simp; try with_reducible rfl)
      try simp only [Act.put, gA, gS, gZ, sA, sZ, sS]
      refine tk (i := 6) (v := ?_) rfl (by kernel_rfl) (fun _ _ _ h => h) (by rfl) ?_ (by assumption) ?_
      rotate_left
      · (intro W hSw; have hz := hSw.2.1.cells; have hy := hSw.2.2.cells; go_simp; try with_reducible rfl)
      try simp only [Act.put, gA, gS, gZ, sA, sZ, sS]
      refine tk (i := 7) (v := ?_) rfl (by kernel_rfl) (fun _ _ _ h => h) (by rfl) ?_ (by assumption) ?_
      rotate_left
      · (intro W hSw; have hz := hSw.2.1.cells; have hy := hSw.2.2.cells; go_simp; try with_reducible rfl)
      try simp only [Act.put, gA, gS, gZ, sA, sZ, sS]
      refine tk (i := 8) (v := ?_) rfl (by kernel_rfl) (fun _ _ _ h => h) (by rfl) ?_ (by assumption) ?_
      rotate_left
      · (intro W hSw; have hz := hSw.2.1.cells; have hy := hSw.2.2.cells; go_simp; try with_reducible rfl)
      try simp only [Act.put, gA, gS, gZ, sA, sZ, sS]
      refine tk (i := 9) (v := ?_) rfl (by kernel_rfl) (fun _ _ _ h => h) (by rfl) ?_ (by assumption) ?_
      rotate_left
      · (intro W hSw; have hz := hSw.2.1.cells; have hy := hSw.2.2.cells; go_simp; try with_reducible rfl)
      try simp only [Act.put, gA, gS, gZ, sA, sZ, sS]
      refine tk (i := 10) (v := ?_) rfl (by kernel_rfl) (fun _ _ _ h => h) (by rfl) ?_ (by assumption) ?_
      rotate_left
      · (intro W hSw; have hz := hSw.2.1.cells; have hy := hSw.2.2.cells; go_simp; try with_reducible rfl)
      try simp only [Act.put, gA, gS, gZ, sA, sZ, sS]
      refine tk (i := 11) (v := ?_) rfl (by kernel_rfl) (fun _ _ _ h => h) (by rfl) ?_ (by assumption) ?_
      rotate_left
      · (intro W hSw; have hz := hSw.2.1.cells; have hy := hSw.2.2.cells; go_simp; try with_reducible rfl)
      try simp only [Act.put, gA, gS, gZ, sA, sZ, sS]
      refine tk (i := 12) (v := ?_) rfl (by kernel_rfl) (fun _ _ _ h => h) (by rfl) ?_ (by assumption) ?_
      rotate_left
      · (intro W hSw; have hz := hSw.2.1.cells; have hy := hSw.2.2.cells; go_simp; try with_reducible rfl)
      try simp only [Act.put, gA, gS, gZ, sA, sZ, sS]
      refine tk (i := 13) (v := ?_) rfl (by kernel_rfl) (fun _ _ _ h => h) (by rfl) ?_ (by assumption) ?_
      rotate_left
      · (intro W hSw; have hz := hSw.2.1.cells; have hy := hSw.2.2.cells; go_simp; try with_reducible rfl)
      try simp only [Act.put, gA, gS, gZ, sA, sZ, sS]
      refine tk (i := 14) (v := ?_) rfl (by kernel_rfl) (fun _ _ _ h => h) (by rfl) ?_ (by assumption) ?_
      rotate_left
      · (intro W hSw; have hz := hSw.2.1.cells; have hy := hSw.2.2.cells; go_simp; try with_reducible rfl)
      try simp only [Act.put, gA, gS, gZ, sA, sZ, sS]
      refine tk (i := 15) (v := ?_) rfl (by kernel_rfl) (fun _ _ _ h => h) (by rfl) ?_ (by assumption) ?_
      rotate_left
      · (intro W hSw; have hz := hSw.2.1.cells; have hy := hSw.2.2.cells; go_simp; try with_reducible rfl)
      try simp only [Act.put, gA, gS, gZ, sA, sZ, sS]
      refine tk (i := 16) (v := ?_) rfl (by kernel_rfl) (fun _ _ _ h => h) (by rfl) ?_ (by assumption) ?_
      rotate_left
      · (intro W hSw; have hz := hSw.2.1.cells; have hy := hSw.2.2.cells; go_simp; try with_reducible rfl)
      try simp only [Act.put, gA, gS, gZ, sA, sZ, sS]
      refine tk (i := 17) (v := ?_) rfl (by kernel_rfl) (fun _ _ _ h => h) (by rfl) ?_ (by assumption) ?_
      rotate_left
      · (intro W hSw; have hz := hSw.2.1.cells; have hy := hSw.2.2.cells; go_simp; try with_reducible rfl)
      try simp only [Act.put, gA, gS, gZ, sA, sZ, sS]
      refine wpAnyH_done (by kernel_rfl) ?_ _
      go_wp2
      go_ret
      exact ⟨by rw [fitG_yes s p x (by have := Hq.out.2; simpa using this) hbc, hbf] <;> rfl, hHeld.1⟩
end Go.Proofs.YtdljphbfbiganaaGreatDoor.Lg
