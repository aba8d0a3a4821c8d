import Derived.Test.YtdljphbfbiganaaDoorLgBase
/- line: whether a packet fits an end in whatever state. -/
namespace Go.Proofs.YtdljphbfbiganaaDoor.Lg
open Go Go.RowKit Packet Ln Mg
set_option linter.unusedVariables false

open Classical in
/-- whether a packet fits an end -/
noncomputable def fitG (s : St) (p : P5) (x : Int) : Bool := decide (p.right ∧ p.c = s.ch ∧ p.f = x)
open Classical in
theorem fitG_no (s : St) (p : P5) (x : Int) (h : ¬ (p.right ∧ p.c = s.ch ∧ p.f = x)) : fitG s p x = false := by unfold fitG; exact decide_eq_false h
open Classical in
theorem fitG_yes (s : St) (p : P5) (x : Int) (h : p.right) (hc : (p.c == s.ch) = true) : fitG s p x = (p.f == x) := by
  have hc' : p.c = s.ch := by simpa using hc
  unfold fitG
  by_cases hf : p.f = x
  · rw [decide_eq_true ⟨h, hc', hf⟩]; simp [hf]
  · rw [decide_eq_false (fun k => hf k.2.2)]; simp [hf]
open Classical in
theorem fitG_iff (s : St) (p : P5) (x : Int) : fitG s p x = true ↔ p.right ∧ p.c = s.ch ∧ p.f = x := by unfold fitG; exact decide_eq_true_iff
/-- the packet's box, and an end -/
def PL (w : World) (b : Nat) (p : P5) (E M N : Nat) (s : St) (W : World) : Prop := Below w.heap.size w W ∧ PkB W b p ∧ LG W E M N s
section
variable {w W V : World} {b E M N : Nat} {p : P5} {s : St}
theorem PL.drew (h : PL w b p E M N s W) : PL w b p E M N s W.drew := ⟨h.1.drew, h.2.1, h.2.2.below (Below.refl _ _).drew⟩
theorem PL.call (h : PL w b p E M N s W) (hb : Below W.heap.size W V) : PL w b p E M N s V := ⟨h.1.trans (hb.mono h.1.size), h.2.1.below hb, h.2.2.below hb⟩
theorem PL.new (h : LG w E M N s) : PL w w.heap.size p E M N s (w.alloc (.cells #[.int .i64 p.c, .int .i64 p.f, .int .u64 p.s, .int .u64 p.t, .string p.d] TPk)) :=
  have hb : Below w.heap.size w (w.alloc (.cells #[.int .i64 p.c, .int .i64 p.f, .int .u64 p.s, .int .u64 p.t, .string p.d] TPk)) := (Below.refl _ _).alloc (Nat.le_refl _) _
  ⟨hb, heap_alloc_new w _, h.below hb⟩
end
set_option maxRecDepth 20000 in
set_option maxHeartbeats 2000000 in
theorem fits_g {w : World} {E M N : Nat} {s : St} (p : P5) (x : Int) (h : LG w E M N s) : Calls Tryd.prog 15 #[.pointer (some ⟨E, 0, none⟩), pkv p, .int .i64 x] w fun e w' => e = .returned (.bool (fitG s p x)) ∧ Below w.heap.size w w' := by
  have H0 := PL.new (p := p) h
  clear h
  obtain ⟨V, hV⟩ : ∃ X, X = w.alloc (.cells #[.int .i64 p.c, .int .i64 p.f, .int .u64 p.s, .int .u64 p.t, .string p.d] TPk) := ⟨_, rfl⟩
  rw [← hV] at H0
  obtain ⟨b, HR, hb⟩ : ∃ b, Hid (∀ W, Calls Tryd.prog 24 #[.agg #[.int .i64 p.c, .int .i64 p.f, .int .u64 p.s, .int .u64 p.t, .string p.d]] W fun e w' => e = .returned (.bool b) ∧ Below W.heap.size W w') ∧ (p.right → b = true) ∧ (b = true → p.right) := by
    by_cases hr : p.right
    · exact ⟨true, Lib.hid (right_yes p hr), fun _ => rfl, fun _ => hr⟩
    · exact ⟨false, Lib.hid (right_no p hr), fun k => absurd k hr, fun k => by cases k⟩
  have HV := Lib.hid hV
  clear hV
  have Hq := Lib.hid hb
  clear hb
  cases b
  · go_enter Tryd.func15, Tryd.ntmps15
    go_upto_region 1 with fail
    rw [← HV.out]
    refine wp_region_held_drew (S := PL w w.heap.size p E M N s) (by kernel_rfl) (PL.drew H0) (fun hHeld => ?_)
    refine wpAnyH_take (i := 0) (oi := _) (v := ?_) rfl (by kernel_rfl) (by kernel_rfl) (by kernel_rfl) (fun _ _ _ h => h) (Or.inl ⟨by rfl, ?_⟩) (by assumption) ?_
    rotate_left
    · (intro W hSw; obtain ⟨h0, h1, h2, h3, h4, hf0⟩ := hSw.2.1.cells; obtain ⟨e0, e1, e2, e3, e4, e5, e6, e7, e8, hf1⟩ := hSw.2.2.cells; go_simp; try with_reducible rfl)
    try simp only [Act.put, List.getElem_toArray, List.getElem_cons_zero, List.setIfInBounds_toArray, List.set_cons_zero, List.set_cons_succ]
    refine wpAnyH_ready (rs := [1]) (by kernel_rfl) (by simp) ?_
    refine AllReadyH.cons rfl (fun K hK => ?_) AllReadyH.nil
    simp only [List.getElem_toArray, List.getElem_cons_succ, List.getElem_cons_zero]
    rw [if_pos (by rfl)]
    go_simp
    (refine (HR.out _).mono ?_; rintro e w1 ⟨rfl, hb1⟩)
    go_wp2_with fail
    refine hK.out _ _ (PL.call (PL.drew H0) hb1) (fun hHeld => ?_)
    clear hK K
    try simp only [Act.put, List.getElem_toArray, List.getElem_cons_succ, List.getElem_cons_zero, List.setIfInBounds_toArray, List.set_cons_zero, List.set_cons_succ]
    refine wpAnyH_take (i := 2) (oi := _) (v := ?_) rfl (by kernel_rfl) (by kernel_rfl) (by kernel_rfl) (fun _ _ _ h => h) (Or.inl ⟨by rfl, ?_⟩) (by assumption) ?_
    rotate_left
    · (intro W hSw; obtain ⟨h0, h1, h2, h3, h4, hf0⟩ := hSw.2.1.cells; obtain ⟨e0, e1, e2, e3, e4, e5, e6, e7, e8, hf1⟩ := hSw.2.2.cells; go_simp; try with_reducible rfl)
    try simp only [Act.put, List.getElem_toArray, List.getElem_cons_succ, List.getElem_cons_zero, List.setIfInBounds_toArray, List.set_cons_zero, List.set_cons_succ]
    refine wpAnyH_take (i := 3) (oi := _) (v := undef) rfl (by kernel_rfl) (by kernel_rfl) (by kernel_rfl) (fun _ _ _ h => h) (Or.inr ⟨by rfl, rfl⟩) (by assumption) ?_
    try simp only [Act.put, List.getElem_toArray, List.getElem_cons_succ, List.getElem_cons_zero, List.setIfInBounds_toArray, List.set_cons_zero, List.set_cons_succ]
    refine wpAnyH_take (i := 4) (oi := _) (v := undef) rfl (by kernel_rfl) (by kernel_rfl) (by kernel_rfl) (fun _ _ _ h => h) (Or.inr ⟨by rfl, rfl⟩) (by assumption) ?_
    try simp only [Act.put, List.getElem_toArray, List.getElem_cons_succ, List.getElem_cons_zero, List.setIfInBounds_toArray, List.set_cons_zero, List.set_cons_succ]
    refine wpAnyH_take (i := 5) (oi := _) (v := undef) rfl (by kernel_rfl) (by kernel_rfl) (by kernel_rfl) (fun _ _ _ h => h) (Or.inr ⟨by rfl, rfl⟩) (by assumption) ?_
    try simp only [Act.put, List.getElem_toArray, List.getElem_cons_succ, List.getElem_cons_zero, List.setIfInBounds_toArray, List.set_cons_zero, List.set_cons_succ]
    refine wpAnyH_take (i := 6) (oi := _) (v := undef) rfl (by kernel_rfl) (by kernel_rfl) (by kernel_rfl) (fun _ _ _ h => h) (Or.inr ⟨by rfl, rfl⟩) (by assumption) ?_
    try simp only [Act.put, List.getElem_toArray, List.getElem_cons_succ, List.getElem_cons_zero, List.setIfInBounds_toArray, List.set_cons_zero, List.set_cons_succ]
    refine wpAnyH_take (i := 7) (oi := _) (v := undef) rfl (by kernel_rfl) (by kernel_rfl) (by kernel_rfl) (fun _ _ _ h => h) (Or.inr ⟨by rfl, rfl⟩) (by assumption) ?_
    try simp only [Act.put, List.getElem_toArray, List.getElem_cons_succ, List.getElem_cons_zero, List.setIfInBounds_toArray, List.set_cons_zero, List.set_cons_succ]
    refine wpAnyH_take (i := 8) (oi := _) (v := undef) rfl (by kernel_rfl) (by kernel_rfl) (by kernel_rfl) (fun _ _ _ h => h) (Or.inr ⟨by rfl, rfl⟩) (by assumption) ?_
    try simp only [Act.put, List.getElem_toArray, List.getElem_cons_succ, List.getElem_cons_zero, List.setIfInBounds_toArray, List.set_cons_zero, List.set_cons_succ]
    refine wpAnyH_take (i := 9) (oi := _) (v := undef) rfl (by kernel_rfl) (by kernel_rfl) (by kernel_rfl) (fun _ _ _ h => h) (Or.inr ⟨by rfl, rfl⟩) (by assumption) ?_
    try simp only [Act.put, List.getElem_toArray, List.getElem_cons_succ, List.getElem_cons_zero, List.setIfInBounds_toArray, List.set_cons_zero, List.set_cons_succ]
    refine wpAnyH_take (i := 10) (oi := _) (v := ?_) rfl (by kernel_rfl) (by kernel_rfl) (by kernel_rfl) (fun _ _ _ h => h) (Or.inl ⟨by rfl, ?_⟩) (by assumption) ?_
    rotate_left
    · (intro W hSw; obtain ⟨h0, h1, h2, h3, h4, hf0⟩ := hSw.2.1.cells; obtain ⟨e0, e1, e2, e3, e4, e5, e6, e7, e8, hf1⟩ := hSw.2.2.cells; go_simp; try with_reducible rfl)
    try simp only [Act.put, List.getElem_toArray, List.getElem_cons_succ, List.getElem_cons_zero, List.setIfInBounds_toArray, List.set_cons_zero, List.set_cons_succ]
    refine wpAnyH_take (i := 11) (oi := _) (v := ?_) rfl (by kernel_rfl) (by kernel_rfl) (by kernel_rfl) (fun _ _ _ h => h) (Or.inl ⟨by rfl, ?_⟩) (by assumption) ?_
    rotate_left
    · (intro W hSw; obtain ⟨h0, h1, h2, h3, h4, hf0⟩ := hSw.2.1.cells; obtain ⟨e0, e1, e2, e3, e4, e5, e6, e7, e8, hf1⟩ := hSw.2.2.cells; go_simp; try with_reducible rfl)
    try simp only [Act.put, List.getElem_toArray, List.getElem_cons_succ, List.getElem_cons_zero, List.setIfInBounds_toArray, List.set_cons_zero, List.set_cons_succ]
    refine wpAnyH_take (i := 12) (oi := _) (v := undef) rfl (by kernel_rfl) (by kernel_rfl) (by kernel_rfl) (fun _ _ _ h => h) (Or.inr ⟨by rfl, rfl⟩) (by assumption) ?_
    try simp only [Act.put, List.getElem_toArray, List.getElem_cons_succ, List.getElem_cons_zero, List.setIfInBounds_toArray, List.set_cons_zero, List.set_cons_succ]
    refine wpAnyH_take (i := 13) (oi := _) (v := undef) rfl (by kernel_rfl) (by kernel_rfl) (by kernel_rfl) (fun _ _ _ h => h) (Or.inr ⟨by rfl, rfl⟩) (by assumption) ?_
    try simp only [Act.put, List.getElem_toArray, List.getElem_cons_succ, List.getElem_cons_zero, List.setIfInBounds_toArray, List.set_cons_zero, List.set_cons_succ]
    refine wpAnyH_take (i := 14) (oi := _) (v := undef) rfl (by kernel_rfl) (by kernel_rfl) (by kernel_rfl) (fun _ _ _ h => h) (Or.inr ⟨by rfl, rfl⟩) (by assumption) ?_
    try simp only [Act.put, List.getElem_toArray, List.getElem_cons_succ, List.getElem_cons_zero, List.setIfInBounds_toArray, List.set_cons_zero, List.set_cons_succ]
    refine wpAnyH_take (i := 15) (oi := _) (v := undef) rfl (by kernel_rfl) (by kernel_rfl) (by kernel_rfl) (fun _ _ _ h => h) (Or.inr ⟨by rfl, rfl⟩) (by assumption) ?_
    try simp only [Act.put, List.getElem_toArray, List.getElem_cons_succ, List.getElem_cons_zero, List.setIfInBounds_toArray, List.set_cons_zero, List.set_cons_succ]
    refine wpAnyH_take (i := 16) (oi := _) (v := ?_) rfl (by kernel_rfl) (by kernel_rfl) (by kernel_rfl) (fun _ _ _ h => h) (Or.inl ⟨by rfl, ?_⟩) (by assumption) ?_
    rotate_left
    · (intro W hSw; obtain ⟨h0, h1, h2, h3, h4, hf0⟩ := hSw.2.1.cells; obtain ⟨e0, e1, e2, e3, e4, e5, e6, e7, e8, hf1⟩ := hSw.2.2.cells; go_simp; try with_reducible rfl)
    try simp only [Act.put, List.getElem_toArray, List.getElem_cons_succ, List.getElem_cons_zero, List.setIfInBounds_toArray, List.set_cons_zero, List.set_cons_succ]
    refine wpAnyH_take (i := 17) (oi := _) (v := ?_) rfl (by kernel_rfl) (by kernel_rfl) (by kernel_rfl) (fun _ _ _ h => h) (Or.inl ⟨by rfl, ?_⟩) (by assumption) ?_
    rotate_left
    · (intro W hSw; obtain ⟨h0, h1, h2, h3, h4, hf0⟩ := hSw.2.1.cells; obtain ⟨e0, e1, e2, e3, e4, e5, e6, e7, e8, hf1⟩ := hSw.2.2.cells; go_simp; try with_reducible rfl)
    try simp only [Act.put, List.getElem_toArray, List.getElem_cons_succ, List.getElem_cons_zero, List.setIfInBounds_toArray, List.set_cons_zero, List.set_cons_succ]
    refine wpAnyH_done (by kernel_rfl) ?_ _
    go_wp2
    go_ret
    exact ⟨by rw [fitG_no s p x (fun y => absurd (Hq.out.1 y.1) (by decide))] <;> rfl, hHeld.1⟩
  · obtain ⟨bc, hbc, hb2⟩ : ∃ bc, (p.c == s.ch) = bc ∧ (p.c = s.ch → bc = true) := ⟨_, rfl, fun h => by simpa using h⟩
    obtain ⟨bf, hbf, hb3⟩ : ∃ bf, (p.f == x) = bf ∧ (p.f = x → bf = true) := ⟨_, rfl, fun h => by simpa using h⟩
    have H2 := Lib.hid hb2
    have H3 := Lib.hid hb3
    clear hb2 hb3
    cases bc
    · go_enter Tryd.func15, Tryd.ntmps15
      go_upto_region 1 with fail
      rw [← HV.out]
      refine wp_region_held_drew (S := PL w w.heap.size p E M N s) (by kernel_rfl) (PL.drew H0) (fun hHeld => ?_)
      refine wpAnyH_take (i := 0) (oi := _) (v := ?_) rfl (by kernel_rfl) (by kernel_rfl) (by kernel_rfl) (fun _ _ _ h => h) (Or.inl ⟨by rfl, ?_⟩) (by assumption) ?_
      rotate_left
      · (intro W hSw; obtain ⟨h0, h1, h2, h3, h4, hf0⟩ := hSw.2.1.cells; obtain ⟨e0, e1, e2, e3, e4, e5, e6, e7, e8, hf1⟩ := hSw.2.2.cells; go_simp; try with_reducible rfl)
      try simp only [Act.put, List.getElem_toArray, List.getElem_cons_zero, List.setIfInBounds_toArray, List.set_cons_zero, List.set_cons_succ]
      refine wpAnyH_ready (rs := [1]) (by kernel_rfl) (by simp) ?_
      refine AllReadyH.cons rfl (fun K hK => ?_) AllReadyH.nil
      simp only [List.getElem_toArray, List.getElem_cons_succ, List.getElem_cons_zero]
      rw [if_pos (by rfl)]
      go_simp
      (refine (HR.out _).mono ?_; rintro e w1 ⟨rfl, hb1⟩)
      go_wp2_with fail
      refine hK.out _ _ (PL.call (PL.drew H0) hb1) (fun hHeld => ?_)
      clear hK K
      try simp only [Act.put, List.getElem_toArray, List.getElem_cons_succ, List.getElem_cons_zero, List.setIfInBounds_toArray, List.set_cons_zero, List.set_cons_succ]
      refine wpAnyH_take (i := 2) (oi := _) (v := ?_) rfl (by kernel_rfl) (by kernel_rfl) (by kernel_rfl) (fun _ _ _ h => h) (Or.inl ⟨by rfl, ?_⟩) (by assumption) ?_
      rotate_left
      · (intro W hSw; obtain ⟨h0, h1, h2, h3, h4, hf0⟩ := hSw.2.1.cells; obtain ⟨e0, e1, e2, e3, e4, e5, e6, e7, e8, hf1⟩ := hSw.2.2.cells; go_simp; try with_reducible rfl)
      try simp only [Act.put, List.getElem_toArray, List.getElem_cons_succ, List.getElem_cons_zero, List.setIfInBounds_toArray, List.set_cons_zero, List.set_cons_succ]
      refine wpAnyH_take (i := 3) (oi := _) (v := ?_) rfl (by kernel_rfl) (by kernel_rfl) (by kernel_rfl) (fun _ _ _ h => h) (Or.inl ⟨by rfl, ?_⟩) (by assumption) ?_
      rotate_left
      · (intro W hSw; obtain ⟨h0, h1, h2, h3, h4, hf0⟩ := hSw.2.1.cells; obtain ⟨e0, e1, e2, e3, e4, e5, e6, e7, e8, hf1⟩ := hSw.2.2.cells; go_simp; try with_reducible rfl)
      try simp only [Act.put, List.getElem_toArray, List.getElem_cons_succ, List.getElem_cons_zero, List.setIfInBounds_toArray, List.set_cons_zero, List.set_cons_succ]
      refine wpAnyH_take (i := 4) (oi := _) (v := ?_) rfl (by kernel_rfl) (by kernel_rfl) (by kernel_rfl) (fun _ _ _ h => h) (Or.inl ⟨by rfl, ?_⟩) (by assumption) ?_
      rotate_left
      · (intro W hSw; obtain ⟨h0, h1, h2, h3, h4, hf0⟩ := hSw.2.1.cells; obtain ⟨e0, e1, e2, e3, e4, e5, e6, e7, e8, hf1⟩ := hSw.2.2.cells; go_simp; try with_reducible rfl)
      try simp only [Act.put, List.getElem_toArray, List.getElem_cons_succ, List.getElem_cons_zero, List.setIfInBounds_toArray, List.set_cons_zero, List.set_cons_succ]
      refine wpAnyH_take (i := 5) (oi := _) (v := ?_) rfl (by kernel_rfl) (by kernel_rfl) (by kernel_rfl) (fun _ _ _ h => h) (Or.inl ⟨by rfl, ?_⟩) (by assumption) ?_
      rotate_left
      · (intro W hSw; obtain ⟨h0, h1, h2, h3, h4, hf0⟩ := hSw.2.1.cells; obtain ⟨e0, e1, e2, e3, e4, e5, e6, e7, e8, hf1⟩ := hSw.2.2.cells; go_simp; try with_reducible rfl)
      try simp only [Act.put, List.getElem_toArray, List.getElem_cons_succ, List.getElem_cons_zero, List.setIfInBounds_toArray, List.set_cons_zero, List.set_cons_succ]
      refine wpAnyH_take (i := 6) (oi := _) (v := ?_) rfl (by kernel_rfl) (by kernel_rfl) (by kernel_rfl) (fun _ _ _ h => h) (Or.inl ⟨by rfl, ?_⟩) (by assumption) ?_
      rotate_left
      · (intro W hSw; obtain ⟨h0, h1, h2, h3, h4, hf0⟩ := hSw.2.1.cells; obtain ⟨e0, e1, e2, e3, e4, e5, e6, e7, e8, hf1⟩ := hSw.2.2.cells; go_simp; try with_reducible rfl)
      try simp only [Act.put, List.getElem_toArray, List.getElem_cons_succ, List.getElem_cons_zero, List.setIfInBounds_toArray, List.set_cons_zero, List.set_cons_succ]
      refine wpAnyH_take (i := 7) (oi := _) (v := ?_) rfl (by kernel_rfl) (by kernel_rfl) (by kernel_rfl) (fun _ _ _ h => h) (Or.inl ⟨by rfl, ?_⟩) (by assumption) ?_
      rotate_left
      · (intro W hSw; obtain ⟨h0, h1, h2, h3, h4, hf0⟩ := hSw.2.1.cells; obtain ⟨e0, e1, e2, e3, e4, e5, e6, e7, e8, hf1⟩ := hSw.2.2.cells; go_simp; try with_reducible rfl)
      try simp only [Act.put, List.getElem_toArray, List.getElem_cons_succ, List.getElem_cons_zero, List.setIfInBounds_toArray, List.set_cons_zero, List.set_cons_succ]
      refine wpAnyH_take (i := 8) (oi := _) (v := ?_) rfl (by kernel_rfl) (by kernel_rfl) (by kernel_rfl) (fun _ _ _ h => h) (Or.inl ⟨by rfl, ?_⟩) (by assumption) ?_
      rotate_left
      · (intro W hSw; obtain ⟨h0, h1, h2, h3, h4, hf0⟩ := hSw.2.1.cells; obtain ⟨e0, e1, e2, e3, e4, e5, e6, e7, e8, hf1⟩ := hSw.2.2.cells; go_simp; try with_reducible rfl)
      try simp only [Act.put, List.getElem_toArray, List.getElem_cons_succ, List.getElem_cons_zero, List.setIfInBounds_toArray, List.set_cons_zero, List.set_cons_succ]
      refine wpAnyH_take (i := 9) (oi := _) (v := ?_) rfl (by kernel_rfl) (by kernel_rfl) (by kernel_rfl) (fun _ _ _ h => h) (Or.inl ⟨by rfl, ?_⟩) (by assumption) ?_
      rotate_left
      · (intro W hSw; obtain ⟨h0, h1, h2, h3, h4, hf0⟩ := hSw.2.1.cells; obtain ⟨e0, e1, e2, e3, e4, e5, e6, e7, e8, hf1⟩ := hSw.2.2.cells; go_simp; try with_reducible rfl)
      try simp only [Act.put, List.getElem_toArray, List.getElem_cons_succ, List.getElem_cons_zero, List.setIfInBounds_toArray, List.set_cons_zero, List.set_cons_succ]
      refine wpAnyH_take (i := 10) (oi := _) (v := ?_) rfl (by kernel_rfl) (by kernel_rfl) (by kernel_rfl) (fun _ _ _ h => h) (Or.inl ⟨by rfl, ?_⟩) (by assumption) ?_
      rotate_left
      · (intro W hSw; obtain ⟨h0, h1, h2, h3, h4, hf0⟩ := hSw.2.1.cells; obtain ⟨e0, e1, e2, e3, e4, e5, e6, e7, e8, hf1⟩ := hSw.2.2.cells; go_simp; try with_reducible rfl)
      try simp only [Act.put, List.getElem_toArray, List.getElem_cons_succ, List.getElem_cons_zero, List.setIfInBounds_toArray, List.set_cons_zero, List.set_cons_succ]
      refine wpAnyH_take (i := 11) (oi := _) (v := ?_) rfl (by kernel_rfl) (by kernel_rfl) (by kernel_rfl) (fun _ _ _ h => h) (Or.inl ⟨by rfl, ?_⟩) (by assumption) ?_
      rotate_left
      · (intro W hSw; obtain ⟨h0, h1, h2, h3, h4, hf0⟩ := hSw.2.1.cells; obtain ⟨e0, e1, e2, e3, e4, e5, e6, e7, e8, hf1⟩ := hSw.2.2.cells; go_simp; try with_reducible rfl)
      try simp only [Act.put, List.getElem_toArray, List.getElem_cons_succ, List.getElem_cons_zero, List.setIfInBounds_toArray, List.set_cons_zero, List.set_cons_succ]
      refine wpAnyH_take (i := 12) (oi := _) (v := undef) rfl (by kernel_rfl) (by kernel_rfl) (by kernel_rfl) (fun _ _ _ h => h) (Or.inr ⟨by rfl, rfl⟩) (by assumption) ?_
      try simp only [Act.put, List.getElem_toArray, List.getElem_cons_succ, List.getElem_cons_zero, List.setIfInBounds_toArray, List.set_cons_zero, List.set_cons_succ]
      refine wpAnyH_take (i := 13) (oi := _) (v := undef) rfl (by kernel_rfl) (by kernel_rfl) (by kernel_rfl) (fun _ _ _ h => h) (Or.inr ⟨by rfl, rfl⟩) (by assumption) ?_
      try simp only [Act.put, List.getElem_toArray, List.getElem_cons_succ, List.getElem_cons_zero, List.setIfInBounds_toArray, List.set_cons_zero, List.set_cons_succ]
      refine wpAnyH_take (i := 14) (oi := _) (v := undef) rfl (by kernel_rfl) (by kernel_rfl) (by kernel_rfl) (fun _ _ _ h => h) (Or.inr ⟨by rfl, rfl⟩) (by assumption) ?_
      try simp only [Act.put, List.getElem_toArray, List.getElem_cons_succ, List.getElem_cons_zero, List.setIfInBounds_toArray, List.set_cons_zero, List.set_cons_succ]
      refine wpAnyH_take (i := 15) (oi := _) (v := undef) rfl (by kernel_rfl) (by kernel_rfl) (by kernel_rfl) (fun _ _ _ h => h) (Or.inr ⟨by rfl, rfl⟩) (by assumption) ?_
      try simp only [Act.put, List.getElem_toArray, List.getElem_cons_succ, List.getElem_cons_zero, List.setIfInBounds_toArray, List.set_cons_zero, List.set_cons_succ]
      refine wpAnyH_take (i := 16) (oi := _) (v := ?_) rfl (by kernel_rfl) (by kernel_rfl) (by kernel_rfl) (fun _ _ _ h => h) (Or.inl ⟨by rfl, ?_⟩) (by assumption) ?_
      rotate_left
      · (intro W hSw; obtain ⟨h0, h1, h2, h3, h4, hf0⟩ := hSw.2.1.cells; obtain ⟨e0, e1, e2, e3, e4, e5, e6, e7, e8, hf1⟩ := hSw.2.2.cells; go_simp; try with_reducible rfl)
      try simp only [Act.put, List.getElem_toArray, List.getElem_cons_succ, List.getElem_cons_zero, List.setIfInBounds_toArray, List.set_cons_zero, List.set_cons_succ]
      refine wpAnyH_take (i := 17) (oi := _) (v := ?_) rfl (by kernel_rfl) (by kernel_rfl) (by kernel_rfl) (fun _ _ _ h => h) (Or.inl ⟨by rfl, ?_⟩) (by assumption) ?_
      rotate_left
      · (intro W hSw; obtain ⟨h0, h1, h2, h3, h4, hf0⟩ := hSw.2.1.cells; obtain ⟨e0, e1, e2, e3, e4, e5, e6, e7, e8, hf1⟩ := hSw.2.2.cells; go_simp; try with_reducible rfl)
      try simp only [Act.put, List.getElem_toArray, List.getElem_cons_succ, List.getElem_cons_zero, List.setIfInBounds_toArray, List.set_cons_zero, List.set_cons_succ]
      refine wpAnyH_done (by kernel_rfl) ?_ _
      go_wp2
      go_ret
      exact ⟨by rw [fitG_no s p x (fun y => absurd (H2.out y.2.1) (by decide))] <;> rfl, hHeld.1⟩
    · go_enter Tryd.func15, Tryd.ntmps15
      go_upto_region 1 with fail
      rw [← HV.out]
      refine wp_region_held_drew (S := PL w w.heap.size p E M N s) (by kernel_rfl) (PL.drew H0) (fun hHeld => ?_)
      refine wpAnyH_take (i := 0) (oi := _) (v := ?_) rfl (by kernel_rfl) (by kernel_rfl) (by kernel_rfl) (fun _ _ _ h => h) (Or.inl ⟨by rfl, ?_⟩) (by assumption) ?_
      rotate_left
      · (intro W hSw; obtain ⟨h0, h1, h2, h3, h4, hf0⟩ := hSw.2.1.cells; obtain ⟨e0, e1, e2, e3, e4, e5, e6, e7, e8, hf1⟩ := hSw.2.2.cells; go_simp; try with_reducible rfl)
      try simp only [Act.put, List.getElem_toArray, List.getElem_cons_zero, List.setIfInBounds_toArray, List.set_cons_zero, List.set_cons_succ]
      refine wpAnyH_ready (rs := [1]) (by kernel_rfl) (by simp) ?_
      refine AllReadyH.cons rfl (fun K hK => ?_) AllReadyH.nil
      simp only [List.getElem_toArray, List.getElem_cons_succ, List.getElem_cons_zero]
      rw [if_pos (by rfl)]
      go_simp
      (refine (HR.out _).mono ?_; rintro e w1 ⟨rfl, hb1⟩)
      go_wp2_with fail
      refine hK.out _ _ (PL.call (PL.drew H0) hb1) (fun hHeld => ?_)
      clear hK K
      try simp only [Act.put, List.getElem_toArray, List.getElem_cons_succ, List.getElem_cons_zero, List.setIfInBounds_toArray, List.set_cons_zero, List.set_cons_succ]
      refine wpAnyH_take (i := 2) (oi := _) (v := ?_) rfl (by kernel_rfl) (by kernel_rfl) (by kernel_rfl) (fun _ _ _ h => h) (Or.inl ⟨by rfl, ?_⟩) (by assumption) ?_
      rotate_left
      · (intro W hSw; obtain ⟨h0, h1, h2, h3, h4, hf0⟩ := hSw.2.1.cells; obtain ⟨e0, e1, e2, e3, e4, e5, e6, e7, e8, hf1⟩ := hSw.2.2.cells; go_simp; try with_reducible rfl)
      try simp only [Act.put, List.getElem_toArray, List.getElem_cons_succ, List.getElem_cons_zero, List.setIfInBounds_toArray, List.set_cons_zero, List.set_cons_succ]
      refine wpAnyH_take (i := 3) (oi := _) (v := ?_) rfl (by kernel_rfl) (by kernel_rfl) (by kernel_rfl) (fun _ _ _ h => h) (Or.inl ⟨by rfl, ?_⟩) (by assumption) ?_
      rotate_left
      · (intro W hSw; obtain ⟨h0, h1, h2, h3, h4, hf0⟩ := hSw.2.1.cells; obtain ⟨e0, e1, e2, e3, e4, e5, e6, e7, e8, hf1⟩ := hSw.2.2.cells; go_simp; try with_reducible rfl)
      try simp only [Act.put, List.getElem_toArray, List.getElem_cons_succ, List.getElem_cons_zero, List.setIfInBounds_toArray, List.set_cons_zero, List.set_cons_succ]
      refine wpAnyH_take (i := 4) (oi := _) (v := ?_) rfl (by kernel_rfl) (by kernel_rfl) (by kernel_rfl) (fun _ _ _ h => h) (Or.inl ⟨by rfl, ?_⟩) (by assumption) ?_
      rotate_left
      · (intro W hSw; obtain ⟨h0, h1, h2, h3, h4, hf0⟩ := hSw.2.1.cells; obtain ⟨e0, e1, e2, e3, e4, e5, e6, e7, e8, hf1⟩ := hSw.2.2.cells; go_simp; try with_reducible rfl)
      try simp only [Act.put, List.getElem_toArray, List.getElem_cons_succ, List.getElem_cons_zero, List.setIfInBounds_toArray, List.set_cons_zero, List.set_cons_succ]
      refine wpAnyH_take (i := 5) (oi := _) (v := ?_) rfl (by kernel_rfl) (by kernel_rfl) (by kernel_rfl) (fun _ _ _ h => h) (Or.inl ⟨by rfl, ?_⟩) (by assumption) ?_
      rotate_left
      · (intro W hSw; obtain ⟨h0, h1, h2, h3, h4, hf0⟩ := hSw.2.1.cells; obtain ⟨e0, e1, e2, e3, e4, e5, e6, e7, e8, hf1⟩ := hSw.2.2.cells; go_simp; try with_reducible rfl)
      try simp only [Act.put, List.getElem_toArray, List.getElem_cons_succ, List.getElem_cons_zero, List.setIfInBounds_toArray, List.set_cons_zero, List.set_cons_succ]
      refine wpAnyH_take (i := 6) (oi := _) (v := ?_) rfl (by kernel_rfl) (by kernel_rfl) (by kernel_rfl) (fun _ _ _ h => h) (Or.inl ⟨by rfl, ?_⟩) (by assumption) ?_
      rotate_left
      · (intro W hSw; obtain ⟨h0, h1, h2, h3, h4, hf0⟩ := hSw.2.1.cells; obtain ⟨e0, e1, e2, e3, e4, e5, e6, e7, e8, hf1⟩ := hSw.2.2.cells; go_simp; try with_reducible rfl)
      try simp only [Act.put, List.getElem_toArray, List.getElem_cons_succ, List.getElem_cons_zero, List.setIfInBounds_toArray, List.set_cons_zero, List.set_cons_succ]
      refine wpAnyH_take (i := 7) (oi := _) (v := ?_) rfl (by kernel_rfl) (by kernel_rfl) (by kernel_rfl) (fun _ _ _ h => h) (Or.inl ⟨by rfl, ?_⟩) (by assumption) ?_
      rotate_left
      · (intro W hSw; obtain ⟨h0, h1, h2, h3, h4, hf0⟩ := hSw.2.1.cells; obtain ⟨e0, e1, e2, e3, e4, e5, e6, e7, e8, hf1⟩ := hSw.2.2.cells; go_simp; try with_reducible rfl)
      try simp only [Act.put, List.getElem_toArray, List.getElem_cons_succ, List.getElem_cons_zero, List.setIfInBounds_toArray, List.set_cons_zero, List.set_cons_succ]
      refine wpAnyH_take (i := 8) (oi := _) (v := ?_) rfl (by kernel_rfl) (by kernel_rfl) (by kernel_rfl) (fun _ _ _ h => h) (Or.inl ⟨by rfl, ?_⟩) (by assumption) ?_
      rotate_left
      · (intro W hSw; obtain ⟨h0, h1, h2, h3, h4, hf0⟩ := hSw.2.1.cells; obtain ⟨e0, e1, e2, e3, e4, e5, e6, e7, e8, hf1⟩ := hSw.2.2.cells; go_simp; try with_reducible rfl)
      try simp only [Act.put, List.getElem_toArray, List.getElem_cons_succ, List.getElem_cons_zero, List.setIfInBounds_toArray, List.set_cons_zero, List.set_cons_succ]
      refine wpAnyH_take (i := 9) (oi := _) (v := ?_) rfl (by kernel_rfl) (by kernel_rfl) (by kernel_rfl) (fun _ _ _ h => h) (Or.inl ⟨by rfl, ?_⟩) (by assumption) ?_
      rotate_left
      · (intro W hSw; obtain ⟨h0, h1, h2, h3, h4, hf0⟩ := hSw.2.1.cells; obtain ⟨e0, e1, e2, e3, e4, e5, e6, e7, e8, hf1⟩ := hSw.2.2.cells; go_simp; try with_reducible rfl)
      try simp only [Act.put, List.getElem_toArray, List.getElem_cons_succ, List.getElem_cons_zero, List.setIfInBounds_toArray, List.set_cons_zero, List.set_cons_succ]
      refine wpAnyH_take (i := 10) (oi := _) (v := ?_) rfl (by kernel_rfl) (by kernel_rfl) (by kernel_rfl) (fun _ _ _ h => h) (Or.inl ⟨by rfl, ?_⟩) (by assumption) ?_
      rotate_left
      · (intro W hSw; obtain ⟨h0, h1, h2, h3, h4, hf0⟩ := hSw.2.1.cells; obtain ⟨e0, e1, e2, e3, e4, e5, e6, e7, e8, hf1⟩ := hSw.2.2.cells; go_simp; try with_reducible rfl)
      try simp only [Act.put, List.getElem_toArray, List.getElem_cons_succ, List.getElem_cons_zero, List.setIfInBounds_toArray, List.set_cons_zero, List.set_cons_succ]
      refine wpAnyH_take (i := 11) (oi := _) (v := ?_) rfl (by kernel_rfl) (by kernel_rfl) (by kernel_rfl) (fun _ _ _ h => h) (Or.inl ⟨by rfl, ?_⟩) (by assumption) ?_
      rotate_left
      · (intro W hSw; obtain ⟨h0, h1, h2, h3, h4, hf0⟩ := hSw.2.1.cells; obtain ⟨e0, e1, e2, e3, e4, e5, e6, e7, e8, hf1⟩ := hSw.2.2.cells; go_simp; try with_reducible rfl)
      try simp only [Act.put, List.getElem_toArray, List.getElem_cons_succ, List.getElem_cons_zero, List.setIfInBounds_toArray, List.set_cons_zero, List.set_cons_succ]
      refine wpAnyH_take (i := 12) (oi := _) (v := ?_) rfl (by kernel_rfl) (by kernel_rfl) (by kernel_rfl) (fun _ _ _ h => h) (Or.inl ⟨by rfl, ?_⟩) (by assumption) ?_
      rotate_left
      · (intro W hSw; obtain ⟨h0, h1, h2, h3, h4, hf0⟩ := hSw.2.1.cells; obtain ⟨e0, e1, e2, e3, e4, e5, e6, e7, e8, hf1⟩ := hSw.2.2.cells; go_simp; try with_reducible rfl)
      try simp only [Act.put, List.getElem_toArray, List.getElem_cons_succ, List.getElem_cons_zero, List.setIfInBounds_toArray, List.set_cons_zero, List.set_cons_succ]
      refine wpAnyH_take (i := 13) (oi := _) (v := ?_) rfl (by kernel_rfl) (by kernel_rfl) (by kernel_rfl) (fun _ _ _ h => h) (Or.inl ⟨by rfl, ?_⟩) (by assumption) ?_
      rotate_left
      · (intro W hSw; obtain ⟨h0, h1, h2, h3, h4, hf0⟩ := hSw.2.1.cells; obtain ⟨e0, e1, e2, e3, e4, e5, e6, e7, e8, hf1⟩ := hSw.2.2.cells; go_simp; try with_reducible rfl)
      try simp only [Act.put, List.getElem_toArray, List.getElem_cons_succ, List.getElem_cons_zero, List.setIfInBounds_toArray, List.set_cons_zero, List.set_cons_succ]
      refine wpAnyH_take (i := 14) (oi := _) (v := ?_) rfl (by kernel_rfl) (by kernel_rfl) (by kernel_rfl) (fun _ _ _ h => h) (Or.inl ⟨by rfl, ?_⟩) (by assumption) ?_
      rotate_left
      · (intro W hSw; obtain ⟨h0, h1, h2, h3, h4, hf0⟩ := hSw.2.1.cells; obtain ⟨e0, e1, e2, e3, e4, e5, e6, e7, e8, hf1⟩ := hSw.2.2.cells; go_simp; try with_reducible rfl)
      try simp only [Act.put, List.getElem_toArray, List.getElem_cons_succ, List.getElem_cons_zero, List.setIfInBounds_toArray, List.set_cons_zero, List.set_cons_succ]
      refine wpAnyH_take (i := 15) (oi := _) (v := ?_) rfl (by kernel_rfl) (by kernel_rfl) (by kernel_rfl) (fun _ _ _ h => h) (Or.inl ⟨by rfl, ?_⟩) (by assumption) ?_
      rotate_left
      · (intro W hSw; obtain ⟨h0, h1, h2, h3, h4, hf0⟩ := hSw.2.1.cells; obtain ⟨e0, e1, e2, e3, e4, e5, e6, e7, e8, hf1⟩ := hSw.2.2.cells; go_simp; try with_reducible rfl)
      try simp only [Act.put, List.getElem_toArray, List.getElem_cons_succ, List.getElem_cons_zero, List.setIfInBounds_toArray, List.set_cons_zero, List.set_cons_succ]
      refine wpAnyH_take (i := 16) (oi := _) (v := ?_) rfl (by kernel_rfl) (by kernel_rfl) (by kernel_rfl) (fun _ _ _ h => h) (Or.inl ⟨by rfl, ?_⟩) (by assumption) ?_
      rotate_left
      · (intro W hSw; obtain ⟨h0, h1, h2, h3, h4, hf0⟩ := hSw.2.1.cells; obtain ⟨e0, e1, e2, e3, e4, e5, e6, e7, e8, hf1⟩ := hSw.2.2.cells; go_simp; try with_reducible rfl)
      try simp only [Act.put, List.getElem_toArray, List.getElem_cons_succ, List.getElem_cons_zero, List.setIfInBounds_toArray, List.set_cons_zero, List.set_cons_succ]
      refine wpAnyH_take (i := 17) (oi := _) (v := ?_) rfl (by kernel_rfl) (by kernel_rfl) (by kernel_rfl) (fun _ _ _ h => h) (Or.inl ⟨by rfl, ?_⟩) (by assumption) ?_
      rotate_left
      · (intro W hSw; obtain ⟨h0, h1, h2, h3, h4, hf0⟩ := hSw.2.1.cells; obtain ⟨e0, e1, e2, e3, e4, e5, e6, e7, e8, hf1⟩ := hSw.2.2.cells; go_simp; try with_reducible rfl)
      try simp only [Act.put, List.getElem_toArray, List.getElem_cons_succ, List.getElem_cons_zero, List.setIfInBounds_toArray, List.set_cons_zero, List.set_cons_succ]
      refine wpAnyH_done (by kernel_rfl) ?_ _
      go_wp2
      go_ret
      exact ⟨by rw [fitG_yes s p x (by have := Hq.out.2; simpa using this) hbc, hbf] <;> rfl, hHeld.1⟩
end Go.Proofs.YtdljphbfbiganaaDoor.Lg
/- line: a packet is sent at an end in whatever state. -/
namespace Go.Proofs.YtdljphbfbiganaaDoor.Lg
open Go Go.RowKit Packet Ln Mg
set_option linter.unusedVariables false

/-- all that was there stands but an end's own blocks -/
structure FrL (E M N : Nat) (w w' : World) : Prop where
  os : w'.os = w.os
  tape : w'.tape = w.tape
  output : w'.output = w.output
  size : w.heap.size ≤ w'.heap.size
  block : ∀ k, k < w.heap.size → k ≠ E → k ≠ M → k ≠ N → w'.heap[k]? = w.heap[k]?
theorem FrL.of_below {E M N : Nat} {w w' : World} (h : Below w.heap.size w w') : FrL E M N w w' := ⟨h.os, h.tape, h.output, h.size, fun k hk _ _ _ => h.block k hk⟩
theorem FrL.call {E M N : Nat} {w W V : World} (h : FrL E M N w W) (hb : Below W.heap.size W V) : FrL E M N w V :=
  ⟨hb.os.trans h.os, hb.tape.trans h.tape, hb.output.trans h.output, Nat.le_trans h.size hb.size, fun k hk h1 h2 h3 => (hb.block k (Nat.lt_of_lt_of_le hk h.size)).trans (h.block k hk h1 h2 h3)⟩
theorem FrL.trans {E M N : Nat} {w W V : World} (h : FrL E M N w W) (hb : FrL E M N W V) : FrL E M N w V :=
  ⟨hb.os.trans h.os, hb.tape.trans h.tape, hb.output.trans h.output, Nat.le_trans h.size hb.size, fun k hk h1 h2 h3 => (hb.block k (Nat.lt_of_lt_of_le hk h.size) h1 h2 h3).trans (h.block k hk h1 h2 h3)⟩
theorem FrL.onB {E M N B : Nat} {w W V : World} (h : FrL E M N w W) (ho : OnB B W V) (hB : B = E ∨ B = M ∨ B = N ∨ w.heap.size ≤ B) : FrL E M N w V :=
  ⟨ho.os.trans h.os, ho.tape.trans h.tape, ho.output.trans h.output, by rw [ho.size]; exact h.size, fun k hk h1 h2 h3 => (ho.block k (fun e => by subst e; rcases hB with e | e | e | e <;> first | contradiction | omega)).trans (h.block k hk h1 h2 h3)⟩
theorem FrL.below {E M N lo : Nat} {a w w' : World} (h : FrL E M N w w') (hb : Below lo a w) (hl : lo ≤ w.heap.size) (h1 : lo ≤ E) (h2 : lo ≤ M) (h3 : lo ≤ N) : Below lo a w' :=
  ⟨h.os.trans hb.os, h.tape.trans hb.tape, h.output.trans hb.output, Nat.le_trans hb.size h.size, fun k hk => (h.block k (by omega) (by omega) (by omega) (by omega)).trans (hb.block k hk)⟩
theorem onB_setCell (w : World) (b i : Nat) (v : Value) : OnB b w (w.setCell ⟨b, i, none⟩ v) :=
  ⟨rfl, rfl, rfl, by simp [World.setCell], fun k hk => by simp [World.setCell, Array.getElem?_modify, Ne.symm hk]⟩
theorem onB_setRow (w : World) (b : Nat) (cs : Array Value) : OnB b w (w.setRow b cs) :=
  ⟨rfl, rfl, rfl, by simp [World.setRow], fun k hk => setRow_other w b k cs hk⟩
theorem set_at {V : World} {b i : Nat} {t : TypeId} {q : Nat × Nat} {cs : Array Value} (v : Value) (h : V.heap[b]? = some (.cells cs t q)) : (V.setCell ⟨b, i, none⟩ v).heap[b]? = some (.cells (cs.setIfInBounds i v) t q) := by
  simp [World.setCell, Array.getElem?_modify, h]
/-- a packet's sum -/
def sumP (p : P5) : Array Value := Sha.scells (Sha.ofSt p.bytes)
theorem sumP_ok (p : P5) : SumOk (sumP p) := ⟨rfl, Sha.u8_one _, _, rfl⟩
theorem sum_g (p : P5) (h : p.right) (ho : p.ok) (w : World) (ht : Sha.Tab w) : Calls Tryd.prog 17 #[pkv p] w fun e w' => e = .returned (.agg (sumP p)) ∧ Below w.heap.size w w' := Sha.psum_yes p h ho w ht
/-- an end, the packet's box, the result's -/
def PS (w : World) (p : P5) (E M N : Nat) (s : St) (W : World) : Prop := PL w w.heap.size p E M N s W ∧ W.heap[w.heap.size + 1]? = some (.cells #[.int .i64 0, .int .i64 0, .int .u64 0, .int .u64 0, .string ⟨#[]⟩] TPk (0, 0))
section
variable {w W V : World} {E M N : Nat} {p : P5} {s : St}
theorem PS.drew (h : PS w p E M N s W) : PS w p E M N s W.drew := ⟨h.1.drew, h.2⟩
theorem PS.call (h : PS w p E M N s W) (hb : Below W.heap.size W V) : PS w p E M N s V := ⟨h.1.call hb, (hb.block _ (lt_of h.2)).trans h.2⟩
theorem PS.new (h : LG w E M N s) : PS w p E M N s ((w.alloc (.cells #[.int .i64 p.c, .int .i64 p.f, .int .u64 p.s, .int .u64 p.t, .string p.d] TPk)).alloc (.cells #[.int .i64 0, .int .i64 0, .int .u64 0, .int .u64 0, .string ⟨#[]⟩] TPk)) :=
  ⟨(PL.new h).call ((Below.refl _ _).alloc (Nat.le_refl _) _), heap_at _ _ _ (by simp)⟩
end
set_option maxRecDepth 20000 in
set_option maxHeartbeats 4000000 in
theorem send_unfit {w : World} {E M N : Nat} {s : St} (p : P5) (h : Int) (hL : LG w E M N s) (hfb : fitG s p s.sd = false) :
    Calls Tryd.prog 8 #[.pointer (some ⟨E, 0, none⟩), pkv p, .int .u64 h] w fun e w' => e = .returned (.tuple #[.agg #[.int .i64 0, .int .i64 0, .int .u64 0, .int .u64 0, .string ⟨#[]⟩], .int .i64 1]) ∧ Below w.heap.size w w' := by
  have HF := Lib.hid (fun W (hW : LG W E M N s) => hfb ▸ fits_g p s.sd hW)
  have H0 := Lib.hid (PS.new (p := p) hL)
  clear hfb hL
  go_enter Tryd.func8, Tryd.ntmps8
  go_upto_region 1 with fail
  refine wp_region_held_drew (S := PS w p E M N s) (by kernel_rfl) (PS.drew H0.out) (fun hHeld => ?_)
  refine wpAnyH_take (i := 0) (oi := _) (v := ?_) rfl (by kernel_rfl) (by kernel_rfl) (by kernel_rfl) (fun _ _ _ h => h) (Or.inl ⟨by rfl, ?_⟩) (by assumption) ?_
  rotate_left
  · (intro W hSw; obtain ⟨h0, h1, h2, h3, h4, hf0⟩ := hSw.1.2.1.cells; obtain ⟨e0, e1, e2, e3, e4, e5, e6, e7, e8, hf1⟩ := hSw.1.2.2.cells; go_simp; try with_reducible rfl)
  try simp only [Act.put, List.getElem_toArray, List.getElem_cons_zero, List.setIfInBounds_toArray, List.set_cons_zero, List.set_cons_succ]
  refine wpAnyH_ready (rs := [1]) (by kernel_rfl) (by simp) ?_
  refine AllReadyH.cons rfl (fun K hK => ?_) AllReadyH.nil
  simp only [List.getElem_toArray, List.getElem_cons_succ, List.getElem_cons_zero]
  rw [if_pos (by rfl)]
  go_simp
  (refine (made_g hHeld.1.2.2).mono ?_; rintro e w1 ⟨rfl, hw⟩; obtain rfl := hw.symm; clear hw)
  go_wp2_with fail
  refine hK.out _ _ hHeld (fun hHeld => ?_)
  clear hK K
  try simp only [Act.put, List.getElem_toArray, List.getElem_cons_succ, List.getElem_cons_zero, List.setIfInBounds_toArray, List.set_cons_zero, List.set_cons_succ]
  refine wpAnyH_take (i := 2) (oi := _) (v := ?_) rfl (by kernel_rfl) (by kernel_rfl) (by kernel_rfl) (fun _ _ _ h => h) (Or.inl ⟨by rfl, ?_⟩) (by assumption) ?_
  rotate_left
  · (intro W hSw; obtain ⟨h0, h1, h2, h3, h4, hf0⟩ := hSw.1.2.1.cells; obtain ⟨e0, e1, e2, e3, e4, e5, e6, e7, e8, hf1⟩ := hSw.1.2.2.cells; go_simp; try with_reducible rfl)
  try simp only [Act.put, List.getElem_toArray, List.getElem_cons_succ, List.getElem_cons_zero, List.setIfInBounds_toArray, List.set_cons_zero, List.set_cons_succ]
  refine wpAnyH_take (i := 3) (oi := _) (v := ?_) rfl (by kernel_rfl) (by kernel_rfl) (by kernel_rfl) (fun _ _ _ h => h) (Or.inl ⟨by rfl, ?_⟩) (by assumption) ?_
  rotate_left
  · (intro W hSw; obtain ⟨h0, h1, h2, h3, h4, hf0⟩ := hSw.1.2.1.cells; obtain ⟨e0, e1, e2, e3, e4, e5, e6, e7, e8, hf1⟩ := hSw.1.2.2.cells; go_simp; try with_reducible rfl)
  try simp only [Act.put, List.getElem_toArray, List.getElem_cons_succ, List.getElem_cons_zero, List.setIfInBounds_toArray, List.set_cons_zero, List.set_cons_succ]
  refine wpAnyH_take (i := 4) (oi := _) (v := ?_) rfl (by kernel_rfl) (by kernel_rfl) (by kernel_rfl) (fun _ _ _ h => h) (Or.inl ⟨by rfl, ?_⟩) (by assumption) ?_
  rotate_left
  · (intro W hSw; obtain ⟨h0, h1, h2, h3, h4, hf0⟩ := hSw.1.2.1.cells; obtain ⟨e0, e1, e2, e3, e4, e5, e6, e7, e8, hf1⟩ := hSw.1.2.2.cells; go_simp; try with_reducible rfl)
  try simp only [Act.put, List.getElem_toArray, List.getElem_cons_succ, List.getElem_cons_zero, List.setIfInBounds_toArray, List.set_cons_zero, List.set_cons_succ]
  refine wpAnyH_take (i := 5) (oi := _) (v := ?_) rfl (by kernel_rfl) (by kernel_rfl) (by kernel_rfl) (fun _ _ _ h => h) (Or.inl ⟨by rfl, ?_⟩) (by assumption) ?_
  rotate_left
  · (intro W hSw; obtain ⟨h0, h1, h2, h3, h4, hf0⟩ := hSw.1.2.1.cells; obtain ⟨e0, e1, e2, e3, e4, e5, e6, e7, e8, hf1⟩ := hSw.1.2.2.cells; go_simp; try with_reducible rfl)
  try simp only [Act.put, List.getElem_toArray, List.getElem_cons_succ, List.getElem_cons_zero, List.setIfInBounds_toArray, List.set_cons_zero, List.set_cons_succ]
  refine wpAnyH_take (i := 6) (oi := _) (v := ?_) rfl (by kernel_rfl) (by kernel_rfl) (by kernel_rfl) (fun _ _ _ h => h) (Or.inl ⟨by rfl, ?_⟩) (by assumption) ?_
  rotate_left
  · (intro W hSw; obtain ⟨h0, h1, h2, h3, h4, hf0⟩ := hSw.1.2.1.cells; obtain ⟨e0, e1, e2, e3, e4, e5, e6, e7, e8, hf1⟩ := hSw.1.2.2.cells; go_simp; try with_reducible rfl)
  try simp only [Act.put, List.getElem_toArray, List.getElem_cons_succ, List.getElem_cons_zero, List.setIfInBounds_toArray, List.set_cons_zero, List.set_cons_succ]
  refine wpAnyH_take (i := 7) (oi := _) (v := ?_) rfl (by kernel_rfl) (by kernel_rfl) (by kernel_rfl) (fun _ _ _ h => h) (Or.inl ⟨by rfl, ?_⟩) (by assumption) ?_
  rotate_left
  · (intro W hSw; obtain ⟨h0, h1, h2, h3, h4, hf0⟩ := hSw.1.2.1.cells; obtain ⟨e0, e1, e2, e3, e4, e5, e6, e7, e8, hf1⟩ := hSw.1.2.2.cells; go_simp; try with_reducible rfl)
  try simp only [Act.put, List.getElem_toArray, List.getElem_cons_succ, List.getElem_cons_zero, List.setIfInBounds_toArray, List.set_cons_zero, List.set_cons_succ]
  refine wpAnyH_take (i := 8) (oi := _) (v := ?_) rfl (by kernel_rfl) (by kernel_rfl) (by kernel_rfl) (fun _ _ _ h => h) (Or.inl ⟨by rfl, ?_⟩) (by assumption) ?_
  rotate_left
  · (intro W hSw; obtain ⟨h0, h1, h2, h3, h4, hf0⟩ := hSw.1.2.1.cells; obtain ⟨e0, e1, e2, e3, e4, e5, e6, e7, e8, hf1⟩ := hSw.1.2.2.cells; go_simp; try with_reducible rfl)
  try simp only [Act.put, List.getElem_toArray, List.getElem_cons_succ, List.getElem_cons_zero, List.setIfInBounds_toArray, List.set_cons_zero, List.set_cons_succ]
  refine wpAnyH_take (i := 9) (oi := _) (v := ?_) rfl (by kernel_rfl) (by kernel_rfl) (by kernel_rfl) (fun _ _ _ h => h) (Or.inl ⟨by rfl, ?_⟩) (by assumption) ?_
  rotate_left
  · (intro W hSw; obtain ⟨h0, h1, h2, h3, h4, hf0⟩ := hSw.1.2.1.cells; obtain ⟨e0, e1, e2, e3, e4, e5, e6, e7, e8, hf1⟩ := hSw.1.2.2.cells; go_simp; try with_reducible rfl)
  try simp only [Act.put, List.getElem_toArray, List.getElem_cons_succ, List.getElem_cons_zero, List.setIfInBounds_toArray, List.set_cons_zero, List.set_cons_succ]
  refine wpAnyH_ready (rs := [10]) (by kernel_rfl) (by simp) ?_
  refine AllReadyH.cons rfl (fun K hK => ?_) AllReadyH.nil
  simp only [List.getElem_toArray, List.getElem_cons_succ, List.getElem_cons_zero]
  rw [if_pos (by rfl)]
  go_simp
  (refine (HF.out _ hHeld.1.2.2).mono ?_; rintro e w1 ⟨rfl, hb1⟩)
  go_wp2_with fail
  refine hK.out _ _ (PS.call hHeld hb1) (fun hHeld => ?_)
  clear hK K
  try simp only [Act.put, List.getElem_toArray, List.getElem_cons_succ, List.getElem_cons_zero, List.setIfInBounds_toArray, List.set_cons_zero, List.set_cons_succ]
  refine wpAnyH_take (i := 11) (oi := _) (v := ?_) rfl (by kernel_rfl) (by kernel_rfl) (by kernel_rfl) (fun _ _ _ h => h) (Or.inl ⟨by rfl, ?_⟩) (by assumption) ?_
  rotate_left
  · (intro W hSw; obtain ⟨h0, h1, h2, h3, h4, hf0⟩ := hSw.1.2.1.cells; obtain ⟨e0, e1, e2, e3, e4, e5, e6, e7, e8, hf1⟩ := hSw.1.2.2.cells; go_simp; try with_reducible rfl)
  try simp only [Act.put, List.getElem_toArray, List.getElem_cons_succ, List.getElem_cons_zero, List.setIfInBounds_toArray, List.set_cons_zero, List.set_cons_succ]
  refine wpAnyH_take (i := 12) (oi := _) (v := ?_) rfl (by kernel_rfl) (by kernel_rfl) (by kernel_rfl) (fun _ _ _ h => h) (Or.inl ⟨by rfl, ?_⟩) (by assumption) ?_
  rotate_left
  · (intro W hSw; obtain ⟨h0, h1, h2, h3, h4, hf0⟩ := hSw.1.2.1.cells; obtain ⟨e0, e1, e2, e3, e4, e5, e6, e7, e8, hf1⟩ := hSw.1.2.2.cells; go_simp; try with_reducible rfl)
  try simp only [Act.put, List.getElem_toArray, List.getElem_cons_succ, List.getElem_cons_zero, List.setIfInBounds_toArray, List.set_cons_zero, List.set_cons_succ]
  refine wpAnyH_take (i := 13) (oi := _) (v := ?_) rfl (by kernel_rfl) (by kernel_rfl) (by kernel_rfl) (fun _ _ _ h => h) (Or.inl ⟨by rfl, ?_⟩) (by assumption) ?_
  rotate_left
  · (intro W hSw; obtain ⟨h0, h1, h2, h3, h4, hf0⟩ := hSw.1.2.1.cells; obtain ⟨e0, e1, e2, e3, e4, e5, e6, e7, e8, hf1⟩ := hSw.1.2.2.cells; go_simp; try with_reducible rfl)
  try simp only [Act.put, List.getElem_toArray, List.getElem_cons_succ, List.getElem_cons_zero, List.setIfInBounds_toArray, List.set_cons_zero, List.set_cons_succ]
  refine wpAnyH_take (i := 14) (oi := _) (v := undef) rfl (by kernel_rfl) (by kernel_rfl) (by kernel_rfl) (fun _ _ _ h => h) (Or.inr ⟨by rfl, rfl⟩) (by assumption) ?_
  try simp only [Act.put, List.getElem_toArray, List.getElem_cons_succ, List.getElem_cons_zero, List.setIfInBounds_toArray, List.set_cons_zero, List.set_cons_succ]
  refine wpAnyH_take (i := 15) (oi := _) (v := undef) rfl (by kernel_rfl) (by kernel_rfl) (by kernel_rfl) (fun _ _ _ h => h) (Or.inr ⟨by rfl, rfl⟩) (by assumption) ?_
  try simp only [Act.put, List.getElem_toArray, List.getElem_cons_succ, List.getElem_cons_zero, List.setIfInBounds_toArray, List.set_cons_zero, List.set_cons_succ]
  refine wpAnyH_take (i := 16) (oi := _) (v := undef) rfl (by kernel_rfl) (by kernel_rfl) (by kernel_rfl) (fun _ _ _ h => h) (Or.inr ⟨by rfl, rfl⟩) (by assumption) ?_
  try simp only [Act.put, List.getElem_toArray, List.getElem_cons_succ, List.getElem_cons_zero, List.setIfInBounds_toArray, List.set_cons_zero, List.set_cons_succ]
  refine wpAnyH_take (i := 17) (oi := _) (v := ?_) rfl (by kernel_rfl) (by kernel_rfl) (by kernel_rfl) (fun _ _ _ h => h) (Or.inl ⟨by rfl, ?_⟩) (by assumption) ?_
  rotate_left
  · (intro W hSw; obtain ⟨h0, h1, h2, h3, h4, hf0⟩ := hSw.1.2.1.cells; obtain ⟨e0, e1, e2, e3, e4, e5, e6, e7, e8, hf1⟩ := hSw.1.2.2.cells; go_simp; try with_reducible rfl)
  try simp only [Act.put, List.getElem_toArray, List.getElem_cons_succ, List.getElem_cons_zero, List.setIfInBounds_toArray, List.set_cons_zero, List.set_cons_succ]
  refine wpAnyH_take (i := 18) (oi := _) (v := ?_) rfl (by kernel_rfl) (by kernel_rfl) (by kernel_rfl) (fun _ _ _ h => h) (Or.inl ⟨by rfl, ?_⟩) (by assumption) ?_
  rotate_left
  · (intro W hSw; obtain ⟨h0, h1, h2, h3, h4, hf0⟩ := hSw.1.2.1.cells; obtain ⟨e0, e1, e2, e3, e4, e5, e6, e7, e8, hf1⟩ := hSw.1.2.2.cells; go_simp; try with_reducible rfl)
  try simp only [Act.put, List.getElem_toArray, List.getElem_cons_succ, List.getElem_cons_zero, List.setIfInBounds_toArray, List.set_cons_zero, List.set_cons_succ]
  refine wpAnyH_done (by kernel_rfl) ?_ _
  have H1 := Lib.hid hHeld
  clear hHeld H0
  obtain ⟨h0, h1, h2, h3, h4, hf0⟩ := H1.out.1.2.1.cells
  obtain ⟨e0, e1, e2, e3, e4, e5, e6, e7, e8, hf1⟩ := H1.out.1.2.2.cells
  have HR := Lib.hid H1.out.2
  have HB := Lib.hid H1.out.1.1
  go_upto_region 2 with fail
  clear h0 h1 h2 h3 h4 hf0 e0 e1 e2 e3 e4 e5 e6 e7 e8 hf1
  refine wp_region_lit ?_
  refine wpList_step (fun K hK => ?_)
  go_simp
  refine hK _ _ ?_
  clear hK K
  refine wpList_store_rowTo rfl TPk _ _ rfl rfl (w.heap.size + 1) #[.int .i64 0, .int .i64 0, .int .u64 0, .int .u64 0, .string ⟨#[]⟩] rfl rfl TPk _ HR.out (by kernel_rfl) rfl (by kernel_rfl) ?_
  refine wpList_step (fun K hK => ?_)
  go_simp
  refine hK _ _ ?_
  clear hK K
  refine wpList_nil ?_
  have HR' := setRow_heap w1 (w.heap.size + 1) _ #[.int .i64 0, .int .i64 0, .int .u64 0, .int .u64 0, .string ⟨#[]⟩] TPk (0, 0) HR.out
  have hB9 := Ln.below_setRow HB.out (Nat.le_succ _) #[.int .i64 0, .int .i64 0, .int .u64 0, .int .u64 0, .string ⟨#[]⟩]
  obtain ⟨w9, hw9⟩ : ∃ X, X = w1.setRow (w.heap.size + 1) #[.int .i64 0, .int .i64 0, .int .u64 0, .int .u64 0, .string ⟨#[]⟩] := ⟨_, rfl⟩
  rw [← hw9] at HR' hB9 ⊢
  clear hw9
  go_wp2_with fail
  refine bodyPost_ret (v := .tuple #[.agg #[.int .i64 0, .int .i64 0, .int .u64 0, .int .u64 0, .string ⟨#[]⟩], .int .i64 1]) (res_cb Tryd.results8 _ _ (w.heap.size + 1) #[.int .i64 0, .int .i64 0, .int .u64 0, .int .u64 0, .string ⟨#[]⟩] rfl (run_loadVar_row w9 (w.heap.size + 1) TPk TPk #[.int .i64 0, .int .i64 0, .int .u64 0, .int .u64 0, .string ⟨#[]⟩] (0, 0) _ HR' Tryd.underlying33 rfl (by kernel_rfl))) rfl ⟨rfl, hB9⟩
set_option maxRecDepth 20000 in
set_option maxHeartbeats 4000000 in
theorem send_seq {w : World} {E M N : Nat} {s : St} (p : P5) (h : Int) (hL : LG w E M N s) (hfb : fitG s p s.sd = true) (hs : (p.s != 0) = true) :
    Calls Tryd.prog 8 #[.pointer (some ⟨E, 0, none⟩), pkv p, .int .u64 h] w fun e w' => e = .returned (.tuple #[.agg #[.int .i64 0, .int .i64 0, .int .u64 0, .int .u64 0, .string ⟨#[]⟩], .int .i64 1]) ∧ Below w.heap.size w w' := by
  have HF := Lib.hid (fun W (hW : LG W E M N s) => hfb ▸ fits_g p s.sd hW)
  have H0 := Lib.hid (PS.new (p := p) hL)
  clear hfb hL
  go_enter Tryd.func8, Tryd.ntmps8
  go_upto_region 1 with fail
  refine wp_region_held_drew (S := PS w p E M N s) (by kernel_rfl) (PS.drew H0.out) (fun hHeld => ?_)
  refine wpAnyH_take (i := 0) (oi := _) (v := ?_) rfl (by kernel_rfl) (by kernel_rfl) (by kernel_rfl) (fun _ _ _ h => h) (Or.inl ⟨by rfl, ?_⟩) (by assumption) ?_
  rotate_left
  · (intro W hSw; obtain ⟨h0, h1, h2, h3, h4, hf0⟩ := hSw.1.2.1.cells; obtain ⟨e0, e1, e2, e3, e4, e5, e6, e7, e8, hf1⟩ := hSw.1.2.2.cells; go_simp; try with_reducible rfl)
  try simp only [Act.put, List.getElem_toArray, List.getElem_cons_zero, List.setIfInBounds_toArray, List.set_cons_zero, List.set_cons_succ]
  refine wpAnyH_ready (rs := [1]) (by kernel_rfl) (by simp) ?_
  refine AllReadyH.cons rfl (fun K hK => ?_) AllReadyH.nil
  simp only [List.getElem_toArray, List.getElem_cons_succ, List.getElem_cons_zero]
  rw [if_pos (by rfl)]
  go_simp
  (refine (made_g hHeld.1.2.2).mono ?_; rintro e w1 ⟨rfl, hw⟩; obtain rfl := hw.symm; clear hw)
  go_wp2_with fail
  refine hK.out _ _ hHeld (fun hHeld => ?_)
  clear hK K
  try simp only [Act.put, List.getElem_toArray, List.getElem_cons_succ, List.getElem_cons_zero, List.setIfInBounds_toArray, List.set_cons_zero, List.set_cons_succ]
  refine wpAnyH_take (i := 2) (oi := _) (v := ?_) rfl (by kernel_rfl) (by kernel_rfl) (by kernel_rfl) (fun _ _ _ h => h) (Or.inl ⟨by rfl, ?_⟩) (by assumption) ?_
  rotate_left
  · (intro W hSw; obtain ⟨h0, h1, h2, h3, h4, hf0⟩ := hSw.1.2.1.cells; obtain ⟨e0, e1, e2, e3, e4, e5, e6, e7, e8, hf1⟩ := hSw.1.2.2.cells; go_simp; try with_reducible rfl)
  try simp only [Act.put, List.getElem_toArray, List.getElem_cons_succ, List.getElem_cons_zero, List.setIfInBounds_toArray, List.set_cons_zero, List.set_cons_succ]
  refine wpAnyH_take (i := 3) (oi := _) (v := ?_) rfl (by kernel_rfl) (by kernel_rfl) (by kernel_rfl) (fun _ _ _ h => h) (Or.inl ⟨by rfl, ?_⟩) (by assumption) ?_
  rotate_left
  · (intro W hSw; obtain ⟨h0, h1, h2, h3, h4, hf0⟩ := hSw.1.2.1.cells; obtain ⟨e0, e1, e2, e3, e4, e5, e6, e7, e8, hf1⟩ := hSw.1.2.2.cells; go_simp; try with_reducible rfl)
  try simp only [Act.put, List.getElem_toArray, List.getElem_cons_succ, List.getElem_cons_zero, List.setIfInBounds_toArray, List.set_cons_zero, List.set_cons_succ]
  refine wpAnyH_take (i := 4) (oi := _) (v := ?_) rfl (by kernel_rfl) (by kernel_rfl) (by kernel_rfl) (fun _ _ _ h => h) (Or.inl ⟨by rfl, ?_⟩) (by assumption) ?_
  rotate_left
  · (intro W hSw; obtain ⟨h0, h1, h2, h3, h4, hf0⟩ := hSw.1.2.1.cells; obtain ⟨e0, e1, e2, e3, e4, e5, e6, e7, e8, hf1⟩ := hSw.1.2.2.cells; go_simp; try with_reducible rfl)
  try simp only [Act.put, List.getElem_toArray, List.getElem_cons_succ, List.getElem_cons_zero, List.setIfInBounds_toArray, List.set_cons_zero, List.set_cons_succ]
  refine wpAnyH_take (i := 5) (oi := _) (v := ?_) rfl (by kernel_rfl) (by kernel_rfl) (by kernel_rfl) (fun _ _ _ h => h) (Or.inl ⟨by rfl, ?_⟩) (by assumption) ?_
  rotate_left
  · (intro W hSw; obtain ⟨h0, h1, h2, h3, h4, hf0⟩ := hSw.1.2.1.cells; obtain ⟨e0, e1, e2, e3, e4, e5, e6, e7, e8, hf1⟩ := hSw.1.2.2.cells; go_simp; try with_reducible rfl)
  try simp only [Act.put, List.getElem_toArray, List.getElem_cons_succ, List.getElem_cons_zero, List.setIfInBounds_toArray, List.set_cons_zero, List.set_cons_succ]
  refine wpAnyH_take (i := 6) (oi := _) (v := ?_) rfl (by kernel_rfl) (by kernel_rfl) (by kernel_rfl) (fun _ _ _ h => h) (Or.inl ⟨by rfl, ?_⟩) (by assumption) ?_
  rotate_left
  · (intro W hSw; obtain ⟨h0, h1, h2, h3, h4, hf0⟩ := hSw.1.2.1.cells; obtain ⟨e0, e1, e2, e3, e4, e5, e6, e7, e8, hf1⟩ := hSw.1.2.2.cells; go_simp; try with_reducible rfl)
  try simp only [Act.put, List.getElem_toArray, List.getElem_cons_succ, List.getElem_cons_zero, List.setIfInBounds_toArray, List.set_cons_zero, List.set_cons_succ]
  refine wpAnyH_take (i := 7) (oi := _) (v := ?_) rfl (by kernel_rfl) (by kernel_rfl) (by kernel_rfl) (fun _ _ _ h => h) (Or.inl ⟨by rfl, ?_⟩) (by assumption) ?_
  rotate_left
  · (intro W hSw; obtain ⟨h0, h1, h2, h3, h4, hf0⟩ := hSw.1.2.1.cells; obtain ⟨e0, e1, e2, e3, e4, e5, e6, e7, e8, hf1⟩ := hSw.1.2.2.cells; go_simp; try with_reducible rfl)
  try simp only [Act.put, List.getElem_toArray, List.getElem_cons_succ, List.getElem_cons_zero, List.setIfInBounds_toArray, List.set_cons_zero, List.set_cons_succ]
  refine wpAnyH_take (i := 8) (oi := _) (v := ?_) rfl (by kernel_rfl) (by kernel_rfl) (by kernel_rfl) (fun _ _ _ h => h) (Or.inl ⟨by rfl, ?_⟩) (by assumption) ?_
  rotate_left
  · (intro W hSw; obtain ⟨h0, h1, h2, h3, h4, hf0⟩ := hSw.1.2.1.cells; obtain ⟨e0, e1, e2, e3, e4, e5, e6, e7, e8, hf1⟩ := hSw.1.2.2.cells; go_simp; try with_reducible rfl)
  try simp only [Act.put, List.getElem_toArray, List.getElem_cons_succ, List.getElem_cons_zero, List.setIfInBounds_toArray, List.set_cons_zero, List.set_cons_succ]
  refine wpAnyH_take (i := 9) (oi := _) (v := ?_) rfl (by kernel_rfl) (by kernel_rfl) (by kernel_rfl) (fun _ _ _ h => h) (Or.inl ⟨by rfl, ?_⟩) (by assumption) ?_
  rotate_left
  · (intro W hSw; obtain ⟨h0, h1, h2, h3, h4, hf0⟩ := hSw.1.2.1.cells; obtain ⟨e0, e1, e2, e3, e4, e5, e6, e7, e8, hf1⟩ := hSw.1.2.2.cells; go_simp; try with_reducible rfl)
  try simp only [Act.put, List.getElem_toArray, List.getElem_cons_succ, List.getElem_cons_zero, List.setIfInBounds_toArray, List.set_cons_zero, List.set_cons_succ]
  refine wpAnyH_ready (rs := [10]) (by kernel_rfl) (by simp) ?_
  refine AllReadyH.cons rfl (fun K hK => ?_) AllReadyH.nil
  simp only [List.getElem_toArray, List.getElem_cons_succ, List.getElem_cons_zero]
  rw [if_pos (by rfl)]
  go_simp
  (refine (HF.out _ hHeld.1.2.2).mono ?_; rintro e w1 ⟨rfl, hb1⟩)
  go_wp2_with fail
  refine hK.out _ _ (PS.call hHeld hb1) (fun hHeld => ?_)
  clear hK K
  try simp only [Act.put, List.getElem_toArray, List.getElem_cons_succ, List.getElem_cons_zero, List.setIfInBounds_toArray, List.set_cons_zero, List.set_cons_succ]
  refine wpAnyH_take (i := 11) (oi := _) (v := ?_) rfl (by kernel_rfl) (by kernel_rfl) (by kernel_rfl) (fun _ _ _ h => h) (Or.inl ⟨by rfl, ?_⟩) (by assumption) ?_
  rotate_left
  · (intro W hSw; obtain ⟨h0, h1, h2, h3, h4, hf0⟩ := hSw.1.2.1.cells; obtain ⟨e0, e1, e2, e3, e4, e5, e6, e7, e8, hf1⟩ := hSw.1.2.2.cells; go_simp; try with_reducible rfl)
  try simp only [Act.put, List.getElem_toArray, List.getElem_cons_succ, List.getElem_cons_zero, List.setIfInBounds_toArray, List.set_cons_zero, List.set_cons_succ]
  refine wpAnyH_take (i := 12) (oi := _) (v := ?_) rfl (by kernel_rfl) (by kernel_rfl) (by kernel_rfl) (fun _ _ _ h => h) (Or.inl ⟨by rfl, ?_⟩) (by assumption) ?_
  rotate_left
  · (intro W hSw; obtain ⟨h0, h1, h2, h3, h4, hf0⟩ := hSw.1.2.1.cells; obtain ⟨e0, e1, e2, e3, e4, e5, e6, e7, e8, hf1⟩ := hSw.1.2.2.cells; go_simp; try with_reducible rfl)
  try simp only [Act.put, List.getElem_toArray, List.getElem_cons_succ, List.getElem_cons_zero, List.setIfInBounds_toArray, List.set_cons_zero, List.set_cons_succ]
  refine wpAnyH_take (i := 13) (oi := _) (v := ?_) rfl (by kernel_rfl) (by kernel_rfl) (by kernel_rfl) (fun _ _ _ h => h) (Or.inl ⟨by rfl, ?_⟩) (by assumption) ?_
  rotate_left
  · (intro W hSw; obtain ⟨h0, h1, h2, h3, h4, hf0⟩ := hSw.1.2.1.cells; obtain ⟨e0, e1, e2, e3, e4, e5, e6, e7, e8, hf1⟩ := hSw.1.2.2.cells; go_simp; try with_reducible rfl)
  try simp only [Act.put, List.getElem_toArray, List.getElem_cons_succ, List.getElem_cons_zero, List.setIfInBounds_toArray, List.set_cons_zero, List.set_cons_succ]
  refine wpAnyH_take (i := 14) (oi := _) (v := ?_) rfl (by kernel_rfl) (by kernel_rfl) (by kernel_rfl) (fun _ _ _ h => h) (Or.inl ⟨by rfl, ?_⟩) (by assumption) ?_
  rotate_left
  · (intro W hSw; obtain ⟨h0, h1, h2, h3, h4, hf0⟩ := hSw.1.2.1.cells; obtain ⟨e0, e1, e2, e3, e4, e5, e6, e7, e8, hf1⟩ := hSw.1.2.2.cells; go_simp; try with_reducible rfl)
  try simp only [Act.put, List.getElem_toArray, List.getElem_cons_succ, List.getElem_cons_zero, List.setIfInBounds_toArray, List.set_cons_zero, List.set_cons_succ]
  refine wpAnyH_take (i := 15) (oi := _) (v := ?_) rfl (by kernel_rfl) (by kernel_rfl) (by kernel_rfl) (fun _ _ _ h => h) (Or.inl ⟨by rfl, ?_⟩) (by assumption) ?_
  rotate_left
  · (intro W hSw; obtain ⟨h0, h1, h2, h3, h4, hf0⟩ := hSw.1.2.1.cells; obtain ⟨e0, e1, e2, e3, e4, e5, e6, e7, e8, hf1⟩ := hSw.1.2.2.cells; go_simp; try with_reducible rfl)
  try simp only [Act.put, List.getElem_toArray, List.getElem_cons_succ, List.getElem_cons_zero, List.setIfInBounds_toArray, List.set_cons_zero, List.set_cons_succ]
  refine wpAnyH_take (i := 16) (oi := _) (v := ?_) rfl (by kernel_rfl) (by kernel_rfl) (by kernel_rfl) (fun _ _ _ h => h) (Or.inl ⟨by rfl, ?_⟩) (by assumption) ?_
  rotate_left
  · (intro W hSw; obtain ⟨h0, h1, h2, h3, h4, hf0⟩ := hSw.1.2.1.cells; obtain ⟨e0, e1, e2, e3, e4, e5, e6, e7, e8, hf1⟩ := hSw.1.2.2.cells; go_simp; try with_reducible rfl)
  try simp only [Act.put, List.getElem_toArray, List.getElem_cons_succ, List.getElem_cons_zero, List.setIfInBounds_toArray, List.set_cons_zero, List.set_cons_succ]
  refine wpAnyH_take (i := 17) (oi := _) (v := ?_) rfl (by kernel_rfl) (by kernel_rfl) (by kernel_rfl) (fun _ _ _ h => h) (Or.inl ⟨by rfl, ?_⟩) (by assumption) ?_
  rotate_left
  · (intro W hSw; obtain ⟨h0, h1, h2, h3, h4, hf0⟩ := hSw.1.2.1.cells; obtain ⟨e0, e1, e2, e3, e4, e5, e6, e7, e8, hf1⟩ := hSw.1.2.2.cells; go_simp; try with_reducible rfl)
  try simp only [Act.put, List.getElem_toArray, List.getElem_cons_succ, List.getElem_cons_zero, List.setIfInBounds_toArray, List.set_cons_zero, List.set_cons_succ]
  refine wpAnyH_take (i := 18) (oi := _) (v := ?_) rfl (by kernel_rfl) (by kernel_rfl) (by kernel_rfl) (fun _ _ _ h => h) (Or.inl ⟨by rfl, ?_⟩) (by assumption) ?_
  rotate_left
  · (intro W hSw; obtain ⟨h0, h1, h2, h3, h4, hf0⟩ := hSw.1.2.1.cells; obtain ⟨e0, e1, e2, e3, e4, e5, e6, e7, e8, hf1⟩ := hSw.1.2.2.cells; go_simp; try with_reducible rfl)
  try simp only [Act.put, List.getElem_toArray, List.getElem_cons_succ, List.getElem_cons_zero, List.setIfInBounds_toArray, List.set_cons_zero, List.set_cons_succ]
  refine wpAnyH_done (by kernel_rfl) ?_ _
  have H1 := Lib.hid hHeld
  clear hHeld H0
  obtain ⟨h0, h1, h2, h3, h4, hf0⟩ := H1.out.1.2.1.cells
  obtain ⟨e0, e1, e2, e3, e4, e5, e6, e7, e8, hf1⟩ := H1.out.1.2.2.cells
  have HR := Lib.hid H1.out.2
  have HB := Lib.hid H1.out.1.1
  go_upto_region 2 with fail
  clear h0 h1 h2 h3 h4 hf0 e0 e1 e2 e3 e4 e5 e6 e7 e8 hf1
  refine wp_region_lit ?_
  refine wpList_step (fun K hK => ?_)
  go_simp
  refine hK _ _ ?_
  clear hK K
  refine wpList_store_rowTo rfl TPk _ _ rfl rfl (w.heap.size + 1) #[.int .i64 0, .int .i64 0, .int .u64 0, .int .u64 0, .string ⟨#[]⟩] rfl rfl TPk _ HR.out (by kernel_rfl) rfl (by kernel_rfl) ?_
  refine wpList_step (fun K hK => ?_)
  go_simp
  refine hK _ _ ?_
  clear hK K
  refine wpList_nil ?_
  have HR' := setRow_heap w1 (w.heap.size + 1) _ #[.int .i64 0, .int .i64 0, .int .u64 0, .int .u64 0, .string ⟨#[]⟩] TPk (0, 0) HR.out
  have hB9 := Ln.below_setRow HB.out (Nat.le_succ _) #[.int .i64 0, .int .i64 0, .int .u64 0, .int .u64 0, .string ⟨#[]⟩]
  obtain ⟨w9, hw9⟩ : ∃ X, X = w1.setRow (w.heap.size + 1) #[.int .i64 0, .int .i64 0, .int .u64 0, .int .u64 0, .string ⟨#[]⟩] := ⟨_, rfl⟩
  rw [← hw9] at HR' hB9 ⊢
  clear hw9
  go_wp2_with fail
  refine bodyPost_ret (v := .tuple #[.agg #[.int .i64 0, .int .i64 0, .int .u64 0, .int .u64 0, .string ⟨#[]⟩], .int .i64 1]) (res_cb Tryd.results8 _ _ (w.heap.size + 1) #[.int .i64 0, .int .i64 0, .int .u64 0, .int .u64 0, .string ⟨#[]⟩] rfl (run_loadVar_row w9 (w.heap.size + 1) TPk TPk #[.int .i64 0, .int .i64 0, .int .u64 0, .int .u64 0, .string ⟨#[]⟩] (0, 0) _ HR' Tryd.underlying33 rfl (by kernel_rfl))) rfl ⟨rfl, hB9⟩
set_option maxRecDepth 20000 in
set_option maxHeartbeats 4000000 in
theorem send_closed {w : World} {E M N : Nat} {s : St} (p : P5) (h : Int) (hL : LG w E M N s) (hfb : fitG s p s.sd = true) (hs : (p.s != 0) = false) (hcl : s.cl = true) :
    Calls Tryd.prog 8 #[.pointer (some ⟨E, 0, none⟩), pkv p, .int .u64 h] w fun e w' => e = .returned (.tuple #[.agg #[.int .i64 0, .int .i64 0, .int .u64 0, .int .u64 0, .string ⟨#[]⟩], .int .i64 17]) ∧ Below w.heap.size w w' := by
  have HF := Lib.hid (fun W (hW : LG W E M N s) => hfb ▸ fits_g p s.sd hW)
  have H0 := Lib.hid (PS.new (p := p) hL)
  clear hfb hL
  go_enter Tryd.func8, Tryd.ntmps8
  go_upto_region 1 with fail
  refine wp_region_held_drew (S := PS w p E M N s) (by kernel_rfl) (PS.drew H0.out) (fun hHeld => ?_)
  refine wpAnyH_take (i := 0) (oi := _) (v := ?_) rfl (by kernel_rfl) (by kernel_rfl) (by kernel_rfl) (fun _ _ _ h => h) (Or.inl ⟨by rfl, ?_⟩) (by assumption) ?_
  rotate_left
  · (intro W hSw; obtain ⟨h0, h1, h2, h3, h4, hf0⟩ := hSw.1.2.1.cells; obtain ⟨e0, e1, e2, e3, e4, e5, e6, e7, e8, hf1⟩ := hSw.1.2.2.cells; go_simp; try with_reducible rfl)
  try simp only [Act.put, List.getElem_toArray, List.getElem_cons_zero, List.setIfInBounds_toArray, List.set_cons_zero, List.set_cons_succ]
  refine wpAnyH_ready (rs := [1]) (by kernel_rfl) (by simp) ?_
  refine AllReadyH.cons rfl (fun K hK => ?_) AllReadyH.nil
  simp only [List.getElem_toArray, List.getElem_cons_succ, List.getElem_cons_zero]
  rw [if_pos (by rfl)]
  go_simp
  (refine (made_g hHeld.1.2.2).mono ?_; rintro e w1 ⟨rfl, hw⟩; obtain rfl := hw.symm; clear hw)
  go_wp2_with fail
  refine hK.out _ _ hHeld (fun hHeld => ?_)
  clear hK K
  try simp only [Act.put, List.getElem_toArray, List.getElem_cons_succ, List.getElem_cons_zero, List.setIfInBounds_toArray, List.set_cons_zero, List.set_cons_succ]
  refine wpAnyH_take (i := 2) (oi := _) (v := ?_) rfl (by kernel_rfl) (by kernel_rfl) (by kernel_rfl) (fun _ _ _ h => h) (Or.inl ⟨by rfl, ?_⟩) (by assumption) ?_
  rotate_left
  · (intro W hSw; obtain ⟨h0, h1, h2, h3, h4, hf0⟩ := hSw.1.2.1.cells; obtain ⟨e0, e1, e2, e3, e4, e5, e6, e7, e8, hf1⟩ := hSw.1.2.2.cells; go_simp; try with_reducible rfl)
  try simp only [Act.put, List.getElem_toArray, List.getElem_cons_succ, List.getElem_cons_zero, List.setIfInBounds_toArray, List.set_cons_zero, List.set_cons_succ]
  refine wpAnyH_take (i := 3) (oi := _) (v := ?_) rfl (by kernel_rfl) (by kernel_rfl) (by kernel_rfl) (fun _ _ _ h => h) (Or.inl ⟨by rfl, ?_⟩) (by assumption) ?_
  rotate_left
  · (intro W hSw; obtain ⟨h0, h1, h2, h3, h4, hf0⟩ := hSw.1.2.1.cells; obtain ⟨e0, e1, e2, e3, e4, e5, e6, e7, e8, hf1⟩ := hSw.1.2.2.cells; go_simp; try with_reducible rfl)
  try simp only [Act.put, List.getElem_toArray, List.getElem_cons_succ, List.getElem_cons_zero, List.setIfInBounds_toArray, List.set_cons_zero, List.set_cons_succ]
  refine wpAnyH_take (i := 4) (oi := _) (v := ?_) rfl (by kernel_rfl) (by kernel_rfl) (by kernel_rfl) (fun _ _ _ h => h) (Or.inl ⟨by rfl, ?_⟩) (by assumption) ?_
  rotate_left
  · (intro W hSw; obtain ⟨h0, h1, h2, h3, h4, hf0⟩ := hSw.1.2.1.cells; obtain ⟨e0, e1, e2, e3, e4, e5, e6, e7, e8, hf1⟩ := hSw.1.2.2.cells; go_simp; try with_reducible rfl)
  try simp only [Act.put, List.getElem_toArray, List.getElem_cons_succ, List.getElem_cons_zero, List.setIfInBounds_toArray, List.set_cons_zero, List.set_cons_succ]
  refine wpAnyH_take (i := 5) (oi := _) (v := ?_) rfl (by kernel_rfl) (by kernel_rfl) (by kernel_rfl) (fun _ _ _ h => h) (Or.inl ⟨by rfl, ?_⟩) (by assumption) ?_
  rotate_left
  · (intro W hSw; obtain ⟨h0, h1, h2, h3, h4, hf0⟩ := hSw.1.2.1.cells; obtain ⟨e0, e1, e2, e3, e4, e5, e6, e7, e8, hf1⟩ := hSw.1.2.2.cells; go_simp; try with_reducible rfl)
  try simp only [Act.put, List.getElem_toArray, List.getElem_cons_succ, List.getElem_cons_zero, List.setIfInBounds_toArray, List.set_cons_zero, List.set_cons_succ]
  refine wpAnyH_take (i := 6) (oi := _) (v := ?_) rfl (by kernel_rfl) (by kernel_rfl) (by kernel_rfl) (fun _ _ _ h => h) (Or.inl ⟨by rfl, ?_⟩) (by assumption) ?_
  rotate_left
  · (intro W hSw; obtain ⟨h0, h1, h2, h3, h4, hf0⟩ := hSw.1.2.1.cells; obtain ⟨e0, e1, e2, e3, e4, e5, e6, e7, e8, hf1⟩ := hSw.1.2.2.cells; go_simp; try with_reducible rfl)
  try simp only [Act.put, List.getElem_toArray, List.getElem_cons_succ, List.getElem_cons_zero, List.setIfInBounds_toArray, List.set_cons_zero, List.set_cons_succ]
  refine wpAnyH_take (i := 7) (oi := _) (v := ?_) rfl (by kernel_rfl) (by kernel_rfl) (by kernel_rfl) (fun _ _ _ h => h) (Or.inl ⟨by rfl, ?_⟩) (by assumption) ?_
  rotate_left
  · (intro W hSw; obtain ⟨h0, h1, h2, h3, h4, hf0⟩ := hSw.1.2.1.cells; obtain ⟨e0, e1, e2, e3, e4, e5, e6, e7, e8, hf1⟩ := hSw.1.2.2.cells; go_simp; try with_reducible rfl)
  try simp only [Act.put, List.getElem_toArray, List.getElem_cons_succ, List.getElem_cons_zero, List.setIfInBounds_toArray, List.set_cons_zero, List.set_cons_succ]
  refine wpAnyH_take (i := 8) (oi := _) (v := ?_) rfl (by kernel_rfl) (by kernel_rfl) (by kernel_rfl) (fun _ _ _ h => h) (Or.inl ⟨by rfl, ?_⟩) (by assumption) ?_
  rotate_left
  · (intro W hSw; obtain ⟨h0, h1, h2, h3, h4, hf0⟩ := hSw.1.2.1.cells; obtain ⟨e0, e1, e2, e3, e4, e5, e6, e7, e8, hf1⟩ := hSw.1.2.2.cells; go_simp; try with_reducible rfl)
  try simp only [Act.put, List.getElem_toArray, List.getElem_cons_succ, List.getElem_cons_zero, List.setIfInBounds_toArray, List.set_cons_zero, List.set_cons_succ]
  refine wpAnyH_take (i := 9) (oi := _) (v := ?_) rfl (by kernel_rfl) (by kernel_rfl) (by kernel_rfl) (fun _ _ _ h => h) (Or.inl ⟨by rfl, ?_⟩) (by assumption) ?_
  rotate_left
  · (intro W hSw; obtain ⟨h0, h1, h2, h3, h4, hf0⟩ := hSw.1.2.1.cells; obtain ⟨e0, e1, e2, e3, e4, e5, e6, e7, e8, hf1⟩ := hSw.1.2.2.cells; go_simp; try with_reducible rfl)
  try simp only [Act.put, List.getElem_toArray, List.getElem_cons_succ, List.getElem_cons_zero, List.setIfInBounds_toArray, List.set_cons_zero, List.set_cons_succ]
  refine wpAnyH_ready (rs := [10]) (by kernel_rfl) (by simp) ?_
  refine AllReadyH.cons rfl (fun K hK => ?_) AllReadyH.nil
  simp only [List.getElem_toArray, List.getElem_cons_succ, List.getElem_cons_zero]
  rw [if_pos (by rfl)]
  go_simp
  (refine (HF.out _ hHeld.1.2.2).mono ?_; rintro e w1 ⟨rfl, hb1⟩)
  go_wp2_with fail
  refine hK.out _ _ (PS.call hHeld hb1) (fun hHeld => ?_)
  clear hK K
  try simp only [Act.put, List.getElem_toArray, List.getElem_cons_succ, List.getElem_cons_zero, List.setIfInBounds_toArray, List.set_cons_zero, List.set_cons_succ]
  refine wpAnyH_take (i := 11) (oi := _) (v := ?_) rfl (by kernel_rfl) (by kernel_rfl) (by kernel_rfl) (fun _ _ _ h => h) (Or.inl ⟨by rfl, ?_⟩) (by assumption) ?_
  rotate_left
  · (intro W hSw; obtain ⟨h0, h1, h2, h3, h4, hf0⟩ := hSw.1.2.1.cells; obtain ⟨e0, e1, e2, e3, e4, e5, e6, e7, e8, hf1⟩ := hSw.1.2.2.cells; go_simp; try with_reducible rfl)
  try simp only [Act.put, List.getElem_toArray, List.getElem_cons_succ, List.getElem_cons_zero, List.setIfInBounds_toArray, List.set_cons_zero, List.set_cons_succ]
  refine wpAnyH_take (i := 12) (oi := _) (v := ?_) rfl (by kernel_rfl) (by kernel_rfl) (by kernel_rfl) (fun _ _ _ h => h) (Or.inl ⟨by rfl, ?_⟩) (by assumption) ?_
  rotate_left
  · (intro W hSw; obtain ⟨h0, h1, h2, h3, h4, hf0⟩ := hSw.1.2.1.cells; obtain ⟨e0, e1, e2, e3, e4, e5, e6, e7, e8, hf1⟩ := hSw.1.2.2.cells; go_simp; try with_reducible rfl)
  try simp only [Act.put, List.getElem_toArray, List.getElem_cons_succ, List.getElem_cons_zero, List.setIfInBounds_toArray, List.set_cons_zero, List.set_cons_succ]
  refine wpAnyH_take (i := 13) (oi := _) (v := ?_) rfl (by kernel_rfl) (by kernel_rfl) (by kernel_rfl) (fun _ _ _ h => h) (Or.inl ⟨by rfl, ?_⟩) (by assumption) ?_
  rotate_left
  · (intro W hSw; obtain ⟨h0, h1, h2, h3, h4, hf0⟩ := hSw.1.2.1.cells; obtain ⟨e0, e1, e2, e3, e4, e5, e6, e7, e8, hf1⟩ := hSw.1.2.2.cells; go_simp; try with_reducible rfl)
  try simp only [Act.put, List.getElem_toArray, List.getElem_cons_succ, List.getElem_cons_zero, List.setIfInBounds_toArray, List.set_cons_zero, List.set_cons_succ]
  refine wpAnyH_take (i := 14) (oi := _) (v := ?_) rfl (by kernel_rfl) (by kernel_rfl) (by kernel_rfl) (fun _ _ _ h => h) (Or.inl ⟨by rfl, ?_⟩) (by assumption) ?_
  rotate_left
  · (intro W hSw; obtain ⟨h0, h1, h2, h3, h4, hf0⟩ := hSw.1.2.1.cells; obtain ⟨e0, e1, e2, e3, e4, e5, e6, e7, e8, hf1⟩ := hSw.1.2.2.cells; go_simp; try with_reducible rfl)
  try simp only [Act.put, List.getElem_toArray, List.getElem_cons_succ, List.getElem_cons_zero, List.setIfInBounds_toArray, List.set_cons_zero, List.set_cons_succ]
  refine wpAnyH_take (i := 15) (oi := _) (v := ?_) rfl (by kernel_rfl) (by kernel_rfl) (by kernel_rfl) (fun _ _ _ h => h) (Or.inl ⟨by rfl, ?_⟩) (by assumption) ?_
  rotate_left
  · (intro W hSw; obtain ⟨h0, h1, h2, h3, h4, hf0⟩ := hSw.1.2.1.cells; obtain ⟨e0, e1, e2, e3, e4, e5, e6, e7, e8, hf1⟩ := hSw.1.2.2.cells; go_simp; try with_reducible rfl)
  try simp only [Act.put, List.getElem_toArray, List.getElem_cons_succ, List.getElem_cons_zero, List.setIfInBounds_toArray, List.set_cons_zero, List.set_cons_succ]
  refine wpAnyH_take (i := 16) (oi := _) (v := ?_) rfl (by kernel_rfl) (by kernel_rfl) (by kernel_rfl) (fun _ _ _ h => h) (Or.inl ⟨by rfl, ?_⟩) (by assumption) ?_
  rotate_left
  · (intro W hSw; obtain ⟨h0, h1, h2, h3, h4, hf0⟩ := hSw.1.2.1.cells; obtain ⟨e0, e1, e2, e3, e4, e5, e6, e7, e8, hf1⟩ := hSw.1.2.2.cells; go_simp; try with_reducible rfl)
  try simp only [Act.put, List.getElem_toArray, List.getElem_cons_succ, List.getElem_cons_zero, List.setIfInBounds_toArray, List.set_cons_zero, List.set_cons_succ]
  refine wpAnyH_take (i := 17) (oi := _) (v := ?_) rfl (by kernel_rfl) (by kernel_rfl) (by kernel_rfl) (fun _ _ _ h => h) (Or.inl ⟨by rfl, ?_⟩) (by assumption) ?_
  rotate_left
  · (intro W hSw; obtain ⟨h0, h1, h2, h3, h4, hf0⟩ := hSw.1.2.1.cells; obtain ⟨e0, e1, e2, e3, e4, e5, e6, e7, e8, hf1⟩ := hSw.1.2.2.cells; go_simp; try with_reducible rfl)
  try simp only [Act.put, List.getElem_toArray, List.getElem_cons_succ, List.getElem_cons_zero, List.setIfInBounds_toArray, List.set_cons_zero, List.set_cons_succ]
  refine wpAnyH_take (i := 18) (oi := _) (v := ?_) rfl (by kernel_rfl) (by kernel_rfl) (by kernel_rfl) (fun _ _ _ h => h) (Or.inl ⟨by rfl, ?_⟩) (by assumption) ?_
  rotate_left
  · (intro W hSw; obtain ⟨h0, h1, h2, h3, h4, hf0⟩ := hSw.1.2.1.cells; obtain ⟨e0, e1, e2, e3, e4, e5, e6, e7, e8, hf1⟩ := hSw.1.2.2.cells; go_simp; try with_reducible rfl)
  try simp only [Act.put, List.getElem_toArray, List.getElem_cons_succ, List.getElem_cons_zero, List.setIfInBounds_toArray, List.set_cons_zero, List.set_cons_succ]
  refine wpAnyH_done (by kernel_rfl) ?_ _
  have H1 := Lib.hid hHeld
  clear hHeld H0
  obtain ⟨h0, h1, h2, h3, h4, hf0⟩ := H1.out.1.2.1.cells
  obtain ⟨e0, e1, e2, e3, e4, e5, e6, e7, e8, hf1⟩ := H1.out.1.2.2.cells
  have HR := Lib.hid H1.out.2
  have HB := Lib.hid H1.out.1.1
  go_upto_region 4 with fail
  clear h0 h1 h2 h3 h4 hf0 e0 e1 e2 e3 e4 e5 e6 e7 e8 hf1
  refine wp_region_lit ?_
  refine wpList_step (fun K hK => ?_)
  go_simp
  refine hK _ _ ?_
  clear hK K
  refine wpList_store_rowTo rfl TPk _ _ rfl rfl (w.heap.size + 1) #[.int .i64 0, .int .i64 0, .int .u64 0, .int .u64 0, .string ⟨#[]⟩] rfl rfl TPk _ HR.out (by kernel_rfl) rfl (by kernel_rfl) ?_
  refine wpList_step (fun K hK => ?_)
  go_simp
  refine hK _ _ ?_
  clear hK K
  refine wpList_nil ?_
  have HR' := setRow_heap w1 (w.heap.size + 1) _ #[.int .i64 0, .int .i64 0, .int .u64 0, .int .u64 0, .string ⟨#[]⟩] TPk (0, 0) HR.out
  have hB9 := Ln.below_setRow HB.out (Nat.le_succ _) #[.int .i64 0, .int .i64 0, .int .u64 0, .int .u64 0, .string ⟨#[]⟩]
  obtain ⟨w9, hw9⟩ : ∃ X, X = w1.setRow (w.heap.size + 1) #[.int .i64 0, .int .i64 0, .int .u64 0, .int .u64 0, .string ⟨#[]⟩] := ⟨_, rfl⟩
  rw [← hw9] at HR' hB9 ⊢
  clear hw9
  go_wp2_with fail
  refine bodyPost_ret (v := .tuple #[.agg #[.int .i64 0, .int .i64 0, .int .u64 0, .int .u64 0, .string ⟨#[]⟩], .int .i64 17]) (res_cb Tryd.results8 _ _ (w.heap.size + 1) #[.int .i64 0, .int .i64 0, .int .u64 0, .int .u64 0, .string ⟨#[]⟩] rfl (run_loadVar_row w9 (w.heap.size + 1) TPk TPk #[.int .i64 0, .int .i64 0, .int .u64 0, .int .u64 0, .string ⟨#[]⟩] (0, 0) _ HR' Tryd.underlying33 rfl (by kernel_rfl))) rfl ⟨rfl, hB9⟩
set_option maxRecDepth 20000 in
set_option maxHeartbeats 4000000 in
theorem send_late {w : World} {E M N : Nat} {s : St} (p : P5) (h : Int) (hL : LG w E M N s) (hfb : fitG s p s.sd = true) (hs : (p.s != 0) = false) (hcl : s.cl = false) (hlt : lateB p h = true) :
    Calls Tryd.prog 8 #[.pointer (some ⟨E, 0, none⟩), pkv p, .int .u64 h] w fun e w' => e = .returned (.tuple #[.agg #[.int .i64 0, .int .i64 0, .int .u64 0, .int .u64 0, .string ⟨#[]⟩], .int .i64 20]) ∧ Below w.heap.size w w' := by
  have HLt := Lib.hid (fun W => hlt ▸ late_g p h W)
  clear hlt
  have HF := Lib.hid (fun W (hW : LG W E M N s) => hfb ▸ fits_g p s.sd hW)
  have H0 := Lib.hid (PS.new (p := p) hL)
  clear hfb hL
  go_enter Tryd.func8, Tryd.ntmps8
  go_upto_region 1 with fail
  refine wp_region_held_drew (S := PS w p E M N s) (by kernel_rfl) (PS.drew H0.out) (fun hHeld => ?_)
  refine wpAnyH_take (i := 0) (oi := _) (v := ?_) rfl (by kernel_rfl) (by kernel_rfl) (by kernel_rfl) (fun _ _ _ h => h) (Or.inl ⟨by rfl, ?_⟩) (by assumption) ?_
  rotate_left
  · (intro W hSw; obtain ⟨h0, h1, h2, h3, h4, hf0⟩ := hSw.1.2.1.cells; obtain ⟨e0, e1, e2, e3, e4, e5, e6, e7, e8, hf1⟩ := hSw.1.2.2.cells; go_simp; try with_reducible rfl)
  try simp only [Act.put, List.getElem_toArray, List.getElem_cons_zero, List.setIfInBounds_toArray, List.set_cons_zero, List.set_cons_succ]
  refine wpAnyH_ready (rs := [1]) (by kernel_rfl) (by simp) ?_
  refine AllReadyH.cons rfl (fun K hK => ?_) AllReadyH.nil
  simp only [List.getElem_toArray, List.getElem_cons_succ, List.getElem_cons_zero]
  rw [if_pos (by rfl)]
  go_simp
  (refine (made_g hHeld.1.2.2).mono ?_; rintro e w1 ⟨rfl, hw⟩; obtain rfl := hw.symm; clear hw)
  go_wp2_with fail
  refine hK.out _ _ hHeld (fun hHeld => ?_)
  clear hK K
  try simp only [Act.put, List.getElem_toArray, List.getElem_cons_succ, List.getElem_cons_zero, List.setIfInBounds_toArray, List.set_cons_zero, List.set_cons_succ]
  refine wpAnyH_take (i := 2) (oi := _) (v := ?_) rfl (by kernel_rfl) (by kernel_rfl) (by kernel_rfl) (fun _ _ _ h => h) (Or.inl ⟨by rfl, ?_⟩) (by assumption) ?_
  rotate_left
  · (intro W hSw; obtain ⟨h0, h1, h2, h3, h4, hf0⟩ := hSw.1.2.1.cells; obtain ⟨e0, e1, e2, e3, e4, e5, e6, e7, e8, hf1⟩ := hSw.1.2.2.cells; go_simp; try with_reducible rfl)
  try simp only [Act.put, List.getElem_toArray, List.getElem_cons_succ, List.getElem_cons_zero, List.setIfInBounds_toArray, List.set_cons_zero, List.set_cons_succ]
  refine wpAnyH_take (i := 3) (oi := _) (v := ?_) rfl (by kernel_rfl) (by kernel_rfl) (by kernel_rfl) (fun _ _ _ h => h) (Or.inl ⟨by rfl, ?_⟩) (by assumption) ?_
  rotate_left
  · (intro W hSw; obtain ⟨h0, h1, h2, h3, h4, hf0⟩ := hSw.1.2.1.cells; obtain ⟨e0, e1, e2, e3, e4, e5, e6, e7, e8, hf1⟩ := hSw.1.2.2.cells; go_simp; try with_reducible rfl)
  try simp only [Act.put, List.getElem_toArray, List.getElem_cons_succ, List.getElem_cons_zero, List.setIfInBounds_toArray, List.set_cons_zero, List.set_cons_succ]
  refine wpAnyH_take (i := 4) (oi := _) (v := ?_) rfl (by kernel_rfl) (by kernel_rfl) (by kernel_rfl) (fun _ _ _ h => h) (Or.inl ⟨by rfl, ?_⟩) (by assumption) ?_
  rotate_left
  · (intro W hSw; obtain ⟨h0, h1, h2, h3, h4, hf0⟩ := hSw.1.2.1.cells; obtain ⟨e0, e1, e2, e3, e4, e5, e6, e7, e8, hf1⟩ := hSw.1.2.2.cells; go_simp; try with_reducible rfl)
  try simp only [Act.put, List.getElem_toArray, List.getElem_cons_succ, List.getElem_cons_zero, List.setIfInBounds_toArray, List.set_cons_zero, List.set_cons_succ]
  refine wpAnyH_take (i := 5) (oi := _) (v := ?_) rfl (by kernel_rfl) (by kernel_rfl) (by kernel_rfl) (fun _ _ _ h => h) (Or.inl ⟨by rfl, ?_⟩) (by assumption) ?_
  rotate_left
  · (intro W hSw; obtain ⟨h0, h1, h2, h3, h4, hf0⟩ := hSw.1.2.1.cells; obtain ⟨e0, e1, e2, e3, e4, e5, e6, e7, e8, hf1⟩ := hSw.1.2.2.cells; go_simp; try with_reducible rfl)
  try simp only [Act.put, List.getElem_toArray, List.getElem_cons_succ, List.getElem_cons_zero, List.setIfInBounds_toArray, List.set_cons_zero, List.set_cons_succ]
  refine wpAnyH_take (i := 6) (oi := _) (v := ?_) rfl (by kernel_rfl) (by kernel_rfl) (by kernel_rfl) (fun _ _ _ h => h) (Or.inl ⟨by rfl, ?_⟩) (by assumption) ?_
  rotate_left
  · (intro W hSw; obtain ⟨h0, h1, h2, h3, h4, hf0⟩ := hSw.1.2.1.cells; obtain ⟨e0, e1, e2, e3, e4, e5, e6, e7, e8, hf1⟩ := hSw.1.2.2.cells; go_simp; try with_reducible rfl)
  try simp only [Act.put, List.getElem_toArray, List.getElem_cons_succ, List.getElem_cons_zero, List.setIfInBounds_toArray, List.set_cons_zero, List.set_cons_succ]
  refine wpAnyH_take (i := 7) (oi := _) (v := ?_) rfl (by kernel_rfl) (by kernel_rfl) (by kernel_rfl) (fun _ _ _ h => h) (Or.inl ⟨by rfl, ?_⟩) (by assumption) ?_
  rotate_left
  · (intro W hSw; obtain ⟨h0, h1, h2, h3, h4, hf0⟩ := hSw.1.2.1.cells; obtain ⟨e0, e1, e2, e3, e4, e5, e6, e7, e8, hf1⟩ := hSw.1.2.2.cells; go_simp; try with_reducible rfl)
  try simp only [Act.put, List.getElem_toArray, List.getElem_cons_succ, List.getElem_cons_zero, List.setIfInBounds_toArray, List.set_cons_zero, List.set_cons_succ]
  refine wpAnyH_take (i := 8) (oi := _) (v := ?_) rfl (by kernel_rfl) (by kernel_rfl) (by kernel_rfl) (fun _ _ _ h => h) (Or.inl ⟨by rfl, ?_⟩) (by assumption) ?_
  rotate_left
  · (intro W hSw; obtain ⟨h0, h1, h2, h3, h4, hf0⟩ := hSw.1.2.1.cells; obtain ⟨e0, e1, e2, e3, e4, e5, e6, e7, e8, hf1⟩ := hSw.1.2.2.cells; go_simp; try with_reducible rfl)
  try simp only [Act.put, List.getElem_toArray, List.getElem_cons_succ, List.getElem_cons_zero, List.setIfInBounds_toArray, List.set_cons_zero, List.set_cons_succ]
  refine wpAnyH_take (i := 9) (oi := _) (v := ?_) rfl (by kernel_rfl) (by kernel_rfl) (by kernel_rfl) (fun _ _ _ h => h) (Or.inl ⟨by rfl, ?_⟩) (by assumption) ?_
  rotate_left
  · (intro W hSw; obtain ⟨h0, h1, h2, h3, h4, hf0⟩ := hSw.1.2.1.cells; obtain ⟨e0, e1, e2, e3, e4, e5, e6, e7, e8, hf1⟩ := hSw.1.2.2.cells; go_simp; try with_reducible rfl)
  try simp only [Act.put, List.getElem_toArray, List.getElem_cons_succ, List.getElem_cons_zero, List.setIfInBounds_toArray, List.set_cons_zero, List.set_cons_succ]
  refine wpAnyH_ready (rs := [10]) (by kernel_rfl) (by simp) ?_
  refine AllReadyH.cons rfl (fun K hK => ?_) AllReadyH.nil
  simp only [List.getElem_toArray, List.getElem_cons_succ, List.getElem_cons_zero]
  rw [if_pos (by rfl)]
  go_simp
  (refine (HF.out _ hHeld.1.2.2).mono ?_; rintro e w1 ⟨rfl, hb1⟩)
  go_wp2_with fail
  refine hK.out _ _ (PS.call hHeld hb1) (fun hHeld => ?_)
  clear hK K
  try simp only [Act.put, List.getElem_toArray, List.getElem_cons_succ, List.getElem_cons_zero, List.setIfInBounds_toArray, List.set_cons_zero, List.set_cons_succ]
  refine wpAnyH_take (i := 11) (oi := _) (v := ?_) rfl (by kernel_rfl) (by kernel_rfl) (by kernel_rfl) (fun _ _ _ h => h) (Or.inl ⟨by rfl, ?_⟩) (by assumption) ?_
  rotate_left
  · (intro W hSw; obtain ⟨h0, h1, h2, h3, h4, hf0⟩ := hSw.1.2.1.cells; obtain ⟨e0, e1, e2, e3, e4, e5, e6, e7, e8, hf1⟩ := hSw.1.2.2.cells; go_simp; try with_reducible rfl)
  try simp only [Act.put, List.getElem_toArray, List.getElem_cons_succ, List.getElem_cons_zero, List.setIfInBounds_toArray, List.set_cons_zero, List.set_cons_succ]
  refine wpAnyH_take (i := 12) (oi := _) (v := ?_) rfl (by kernel_rfl) (by kernel_rfl) (by kernel_rfl) (fun _ _ _ h => h) (Or.inl ⟨by rfl, ?_⟩) (by assumption) ?_
  rotate_left
  · (intro W hSw; obtain ⟨h0, h1, h2, h3, h4, hf0⟩ := hSw.1.2.1.cells; obtain ⟨e0, e1, e2, e3, e4, e5, e6, e7, e8, hf1⟩ := hSw.1.2.2.cells; go_simp; try with_reducible rfl)
  try simp only [Act.put, List.getElem_toArray, List.getElem_cons_succ, List.getElem_cons_zero, List.setIfInBounds_toArray, List.set_cons_zero, List.set_cons_succ]
  refine wpAnyH_take (i := 13) (oi := _) (v := ?_) rfl (by kernel_rfl) (by kernel_rfl) (by kernel_rfl) (fun _ _ _ h => h) (Or.inl ⟨by rfl, ?_⟩) (by assumption) ?_
  rotate_left
  · (intro W hSw; obtain ⟨h0, h1, h2, h3, h4, hf0⟩ := hSw.1.2.1.cells; obtain ⟨e0, e1, e2, e3, e4, e5, e6, e7, e8, hf1⟩ := hSw.1.2.2.cells; go_simp; try with_reducible rfl)
  try simp only [Act.put, List.getElem_toArray, List.getElem_cons_succ, List.getElem_cons_zero, List.setIfInBounds_toArray, List.set_cons_zero, List.set_cons_succ]
  refine wpAnyH_take (i := 14) (oi := _) (v := ?_) rfl (by kernel_rfl) (by kernel_rfl) (by kernel_rfl) (fun _ _ _ h => h) (Or.inl ⟨by rfl, ?_⟩) (by assumption) ?_
  rotate_left
  · (intro W hSw; obtain ⟨h0, h1, h2, h3, h4, hf0⟩ := hSw.1.2.1.cells; obtain ⟨e0, e1, e2, e3, e4, e5, e6, e7, e8, hf1⟩ := hSw.1.2.2.cells; go_simp; try with_reducible rfl)
  try simp only [Act.put, List.getElem_toArray, List.getElem_cons_succ, List.getElem_cons_zero, List.setIfInBounds_toArray, List.set_cons_zero, List.set_cons_succ]
  refine wpAnyH_take (i := 15) (oi := _) (v := ?_) rfl (by kernel_rfl) (by kernel_rfl) (by kernel_rfl) (fun _ _ _ h => h) (Or.inl ⟨by rfl, ?_⟩) (by assumption) ?_
  rotate_left
  · (intro W hSw; obtain ⟨h0, h1, h2, h3, h4, hf0⟩ := hSw.1.2.1.cells; obtain ⟨e0, e1, e2, e3, e4, e5, e6, e7, e8, hf1⟩ := hSw.1.2.2.cells; go_simp; try with_reducible rfl)
  try simp only [Act.put, List.getElem_toArray, List.getElem_cons_succ, List.getElem_cons_zero, List.setIfInBounds_toArray, List.set_cons_zero, List.set_cons_succ]
  refine wpAnyH_take (i := 16) (oi := _) (v := ?_) rfl (by kernel_rfl) (by kernel_rfl) (by kernel_rfl) (fun _ _ _ h => h) (Or.inl ⟨by rfl, ?_⟩) (by assumption) ?_
  rotate_left
  · (intro W hSw; obtain ⟨h0, h1, h2, h3, h4, hf0⟩ := hSw.1.2.1.cells; obtain ⟨e0, e1, e2, e3, e4, e5, e6, e7, e8, hf1⟩ := hSw.1.2.2.cells; go_simp; try with_reducible rfl)
  try simp only [Act.put, List.getElem_toArray, List.getElem_cons_succ, List.getElem_cons_zero, List.setIfInBounds_toArray, List.set_cons_zero, List.set_cons_succ]
  refine wpAnyH_take (i := 17) (oi := _) (v := ?_) rfl (by kernel_rfl) (by kernel_rfl) (by kernel_rfl) (fun _ _ _ h => h) (Or.inl ⟨by rfl, ?_⟩) (by assumption) ?_
  rotate_left
  · (intro W hSw; obtain ⟨h0, h1, h2, h3, h4, hf0⟩ := hSw.1.2.1.cells; obtain ⟨e0, e1, e2, e3, e4, e5, e6, e7, e8, hf1⟩ := hSw.1.2.2.cells; go_simp; try with_reducible rfl)
  try simp only [Act.put, List.getElem_toArray, List.getElem_cons_succ, List.getElem_cons_zero, List.setIfInBounds_toArray, List.set_cons_zero, List.set_cons_succ]
  refine wpAnyH_take (i := 18) (oi := _) (v := ?_) rfl (by kernel_rfl) (by kernel_rfl) (by kernel_rfl) (fun _ _ _ h => h) (Or.inl ⟨by rfl, ?_⟩) (by assumption) ?_
  rotate_left
  · (intro W hSw; obtain ⟨h0, h1, h2, h3, h4, hf0⟩ := hSw.1.2.1.cells; obtain ⟨e0, e1, e2, e3, e4, e5, e6, e7, e8, hf1⟩ := hSw.1.2.2.cells; go_simp; try with_reducible rfl)
  try simp only [Act.put, List.getElem_toArray, List.getElem_cons_succ, List.getElem_cons_zero, List.setIfInBounds_toArray, List.set_cons_zero, List.set_cons_succ]
  refine wpAnyH_done (by kernel_rfl) ?_ _
  have H1 := Lib.hid hHeld
  clear hHeld H0
  obtain ⟨h0, h1, h2, h3, h4, hf0⟩ := H1.out.1.2.1.cells
  obtain ⟨e0, e1, e2, e3, e4, e5, e6, e7, e8, hf1⟩ := H1.out.1.2.2.cells
  go_wp2_with fail
  refine (HLt.out _).mono ?_
  rintro _ w2 ⟨rfl, hb2⟩
  have H2 := Lib.hid (PS.call H1.out hb2)
  clear h0 h1 h2 h3 h4 hf0 e0 e1 e2 e3 e4 e5 e6 e7 e8 hf1 H1 hb2
  obtain ⟨h0, h1, h2, h3, h4, hf0⟩ := H2.out.1.2.1.cells
  obtain ⟨e0, e1, e2, e3, e4, e5, e6, e7, e8, hf1⟩ := H2.out.1.2.2.cells
  have HR := Lib.hid H2.out.2
  have HB := Lib.hid H2.out.1.1
  go_upto_region 6 with fail
  clear h0 h1 h2 h3 h4 hf0 e0 e1 e2 e3 e4 e5 e6 e7 e8 hf1
  refine wp_region_lit ?_
  refine wpList_step (fun K hK => ?_)
  go_simp
  refine hK _ _ ?_
  clear hK K
  refine wpList_store_rowTo rfl TPk _ _ rfl rfl (w.heap.size + 1) #[.int .i64 0, .int .i64 0, .int .u64 0, .int .u64 0, .string ⟨#[]⟩] rfl rfl TPk _ HR.out (by kernel_rfl) rfl (by kernel_rfl) ?_
  refine wpList_step (fun K hK => ?_)
  go_simp
  refine hK _ _ ?_
  clear hK K
  refine wpList_nil ?_
  have HR' := setRow_heap w2 (w.heap.size + 1) _ #[.int .i64 0, .int .i64 0, .int .u64 0, .int .u64 0, .string ⟨#[]⟩] TPk (0, 0) HR.out
  have hB9 := Ln.below_setRow HB.out (Nat.le_succ _) #[.int .i64 0, .int .i64 0, .int .u64 0, .int .u64 0, .string ⟨#[]⟩]
  obtain ⟨w9, hw9⟩ : ∃ X, X = w2.setRow (w.heap.size + 1) #[.int .i64 0, .int .i64 0, .int .u64 0, .int .u64 0, .string ⟨#[]⟩] := ⟨_, rfl⟩
  rw [← hw9] at HR' hB9 ⊢
  clear hw9
  go_wp2_with fail
  refine bodyPost_ret (v := .tuple #[.agg #[.int .i64 0, .int .i64 0, .int .u64 0, .int .u64 0, .string ⟨#[]⟩], .int .i64 20]) (res_cb Tryd.results8 _ _ (w.heap.size + 1) #[.int .i64 0, .int .i64 0, .int .u64 0, .int .u64 0, .string ⟨#[]⟩] rfl (run_loadVar_row w9 (w.heap.size + 1) TPk TPk #[.int .i64 0, .int .i64 0, .int .u64 0, .int .u64 0, .string ⟨#[]⟩] (0, 0) _ HR' Tryd.underlying33 rfl (by kernel_rfl))) rfl ⟨rfl, hB9⟩
set_option maxRecDepth 20000 in
set_option maxHeartbeats 4000000 in
theorem send_full {w : World} {E M N : Nat} {s : St} (p : P5) (h : Int) (hL : LG w E M N s) (hfb : fitG s p s.sd = true) (hs : (p.s != 0) = false) (hcl : s.cl = false) (hlt : lateB p h = false) (hsn : (s.sn == 18446744073709551615) = true) :
    Calls Tryd.prog 8 #[.pointer (some ⟨E, 0, none⟩), pkv p, .int .u64 h] w fun e w' => e = .returned (.tuple #[.agg #[.int .i64 0, .int .i64 0, .int .u64 0, .int .u64 0, .string ⟨#[]⟩], .int .i64 11]) ∧ Below w.heap.size w w' := by
  have HLt := Lib.hid (fun W => hlt ▸ late_g p h W)
  clear hlt
  have HF := Lib.hid (fun W (hW : LG W E M N s) => hfb ▸ fits_g p s.sd hW)
  have H0 := Lib.hid (PS.new (p := p) hL)
  clear hfb hL
  go_enter Tryd.func8, Tryd.ntmps8
  go_upto_region 1 with fail
  refine wp_region_held_drew (S := PS w p E M N s) (by kernel_rfl) (PS.drew H0.out) (fun hHeld => ?_)
  refine wpAnyH_take (i := 0) (oi := _) (v := ?_) rfl (by kernel_rfl) (by kernel_rfl) (by kernel_rfl) (fun _ _ _ h => h) (Or.inl ⟨by rfl, ?_⟩) (by assumption) ?_
  rotate_left
  · (intro W hSw; obtain ⟨h0, h1, h2, h3, h4, hf0⟩ := hSw.1.2.1.cells; obtain ⟨e0, e1, e2, e3, e4, e5, e6, e7, e8, hf1⟩ := hSw.1.2.2.cells; go_simp; try with_reducible rfl)
  try simp only [Act.put, List.getElem_toArray, List.getElem_cons_zero, List.setIfInBounds_toArray, List.set_cons_zero, List.set_cons_succ]
  refine wpAnyH_ready (rs := [1]) (by kernel_rfl) (by simp) ?_
  refine AllReadyH.cons rfl (fun K hK => ?_) AllReadyH.nil
  simp only [List.getElem_toArray, List.getElem_cons_succ, List.getElem_cons_zero]
  rw [if_pos (by rfl)]
  go_simp
  (refine (made_g hHeld.1.2.2).mono ?_; rintro e w1 ⟨rfl, hw⟩; obtain rfl := hw.symm; clear hw)
  go_wp2_with fail
  refine hK.out _ _ hHeld (fun hHeld => ?_)
  clear hK K
  try simp only [Act.put, List.getElem_toArray, List.getElem_cons_succ, List.getElem_cons_zero, List.setIfInBounds_toArray, List.set_cons_zero, List.set_cons_succ]
  refine wpAnyH_take (i := 2) (oi := _) (v := ?_) rfl (by kernel_rfl) (by kernel_rfl) (by kernel_rfl) (fun _ _ _ h => h) (Or.inl ⟨by rfl, ?_⟩) (by assumption) ?_
  rotate_left
  · (intro W hSw; obtain ⟨h0, h1, h2, h3, h4, hf0⟩ := hSw.1.2.1.cells; obtain ⟨e0, e1, e2, e3, e4, e5, e6, e7, e8, hf1⟩ := hSw.1.2.2.cells; go_simp; try with_reducible rfl)
  try simp only [Act.put, List.getElem_toArray, List.getElem_cons_succ, List.getElem_cons_zero, List.setIfInBounds_toArray, List.set_cons_zero, List.set_cons_succ]
  refine wpAnyH_take (i := 3) (oi := _) (v := ?_) rfl (by kernel_rfl) (by kernel_rfl) (by kernel_rfl) (fun _ _ _ h => h) (Or.inl ⟨by rfl, ?_⟩) (by assumption) ?_
  rotate_left
  · (intro W hSw; obtain ⟨h0, h1, h2, h3, h4, hf0⟩ := hSw.1.2.1.cells; obtain ⟨e0, e1, e2, e3, e4, e5, e6, e7, e8, hf1⟩ := hSw.1.2.2.cells; go_simp; try with_reducible rfl)
  try simp only [Act.put, List.getElem_toArray, List.getElem_cons_succ, List.getElem_cons_zero, List.setIfInBounds_toArray, List.set_cons_zero, List.set_cons_succ]
  refine wpAnyH_take (i := 4) (oi := _) (v := ?_) rfl (by kernel_rfl) (by kernel_rfl) (by kernel_rfl) (fun _ _ _ h => h) (Or.inl ⟨by rfl, ?_⟩) (by assumption) ?_
  rotate_left
  · (intro W hSw; obtain ⟨h0, h1, h2, h3, h4, hf0⟩ := hSw.1.2.1.cells; obtain ⟨e0, e1, e2, e3, e4, e5, e6, e7, e8, hf1⟩ := hSw.1.2.2.cells; go_simp; try with_reducible rfl)
  try simp only [Act.put, List.getElem_toArray, List.getElem_cons_succ, List.getElem_cons_zero, List.setIfInBounds_toArray, List.set_cons_zero, List.set_cons_succ]
  refine wpAnyH_take (i := 5) (oi := _) (v := ?_) rfl (by kernel_rfl) (by kernel_rfl) (by kernel_rfl) (fun _ _ _ h => h) (Or.inl ⟨by rfl, ?_⟩) (by assumption) ?_
  rotate_left
  · (intro W hSw; obtain ⟨h0, h1, h2, h3, h4, hf0⟩ := hSw.1.2.1.cells; obtain ⟨e0, e1, e2, e3, e4, e5, e6, e7, e8, hf1⟩ := hSw.1.2.2.cells; go_simp; try with_reducible rfl)
  try simp only [Act.put, List.getElem_toArray, List.getElem_cons_succ, List.getElem_cons_zero, List.setIfInBounds_toArray, List.set_cons_zero, List.set_cons_succ]
  refine wpAnyH_take (i := 6) (oi := _) (v := ?_) rfl (by kernel_rfl) (by kernel_rfl) (by kernel_rfl) (fun _ _ _ h => h) (Or.inl ⟨by rfl, ?_⟩) (by assumption) ?_
  rotate_left
  · (intro W hSw; obtain ⟨h0, h1, h2, h3, h4, hf0⟩ := hSw.1.2.1.cells; obtain ⟨e0, e1, e2, e3, e4, e5, e6, e7, e8, hf1⟩ := hSw.1.2.2.cells; go_simp; try with_reducible rfl)
  try simp only [Act.put, List.getElem_toArray, List.getElem_cons_succ, List.getElem_cons_zero, List.setIfInBounds_toArray, List.set_cons_zero, List.set_cons_succ]
  refine wpAnyH_take (i := 7) (oi := _) (v := ?_) rfl (by kernel_rfl) (by kernel_rfl) (by kernel_rfl) (fun _ _ _ h => h) (Or.inl ⟨by rfl, ?_⟩) (by assumption) ?_
  rotate_left
  · (intro W hSw; obtain ⟨h0, h1, h2, h3, h4, hf0⟩ := hSw.1.2.1.cells; obtain ⟨e0, e1, e2, e3, e4, e5, e6, e7, e8, hf1⟩ := hSw.1.2.2.cells; go_simp; try with_reducible rfl)
  try simp only [Act.put, List.getElem_toArray, List.getElem_cons_succ, List.getElem_cons_zero, List.setIfInBounds_toArray, List.set_cons_zero, List.set_cons_succ]
  refine wpAnyH_take (i := 8) (oi := _) (v := ?_) rfl (by kernel_rfl) (by kernel_rfl) (by kernel_rfl) (fun _ _ _ h => h) (Or.inl ⟨by rfl, ?_⟩) (by assumption) ?_
  rotate_left
  · (intro W hSw; obtain ⟨h0, h1, h2, h3, h4, hf0⟩ := hSw.1.2.1.cells; obtain ⟨e0, e1, e2, e3, e4, e5, e6, e7, e8, hf1⟩ := hSw.1.2.2.cells; go_simp; try with_reducible rfl)
  try simp only [Act.put, List.getElem_toArray, List.getElem_cons_succ, List.getElem_cons_zero, List.setIfInBounds_toArray, List.set_cons_zero, List.set_cons_succ]
  refine wpAnyH_take (i := 9) (oi := _) (v := ?_) rfl (by kernel_rfl) (by kernel_rfl) (by kernel_rfl) (fun _ _ _ h => h) (Or.inl ⟨by rfl, ?_⟩) (by assumption) ?_
  rotate_left
  · (intro W hSw; obtain ⟨h0, h1, h2, h3, h4, hf0⟩ := hSw.1.2.1.cells; obtain ⟨e0, e1, e2, e3, e4, e5, e6, e7, e8, hf1⟩ := hSw.1.2.2.cells; go_simp; try with_reducible rfl)
  try simp only [Act.put, List.getElem_toArray, List.getElem_cons_succ, List.getElem_cons_zero, List.setIfInBounds_toArray, List.set_cons_zero, List.set_cons_succ]
  refine wpAnyH_ready (rs := [10]) (by kernel_rfl) (by simp) ?_
  refine AllReadyH.cons rfl (fun K hK => ?_) AllReadyH.nil
  simp only [List.getElem_toArray, List.getElem_cons_succ, List.getElem_cons_zero]
  rw [if_pos (by rfl)]
  go_simp
  (refine (HF.out _ hHeld.1.2.2).mono ?_; rintro e w1 ⟨rfl, hb1⟩)
  go_wp2_with fail
  refine hK.out _ _ (PS.call hHeld hb1) (fun hHeld => ?_)
  clear hK K
  try simp only [Act.put, List.getElem_toArray, List.getElem_cons_succ, List.getElem_cons_zero, List.setIfInBounds_toArray, List.set_cons_zero, List.set_cons_succ]
  refine wpAnyH_take (i := 11) (oi := _) (v := ?_) rfl (by kernel_rfl) (by kernel_rfl) (by kernel_rfl) (fun _ _ _ h => h) (Or.inl ⟨by rfl, ?_⟩) (by assumption) ?_
  rotate_left
  · (intro W hSw; obtain ⟨h0, h1, h2, h3, h4, hf0⟩ := hSw.1.2.1.cells; obtain ⟨e0, e1, e2, e3, e4, e5, e6, e7, e8, hf1⟩ := hSw.1.2.2.cells; go_simp; try with_reducible rfl)
  try simp only [Act.put, List.getElem_toArray, List.getElem_cons_succ, List.getElem_cons_zero, List.setIfInBounds_toArray, List.set_cons_zero, List.set_cons_succ]
  refine wpAnyH_take (i := 12) (oi := _) (v := ?_) rfl (by kernel_rfl) (by kernel_rfl) (by kernel_rfl) (fun _ _ _ h => h) (Or.inl ⟨by rfl, ?_⟩) (by assumption) ?_
  rotate_left
  · (intro W hSw; obtain ⟨h0, h1, h2, h3, h4, hf0⟩ := hSw.1.2.1.cells; obtain ⟨e0, e1, e2, e3, e4, e5, e6, e7, e8, hf1⟩ := hSw.1.2.2.cells; go_simp; try with_reducible rfl)
  try simp only [Act.put, List.getElem_toArray, List.getElem_cons_succ, List.getElem_cons_zero, List.setIfInBounds_toArray, List.set_cons_zero, List.set_cons_succ]
  refine wpAnyH_take (i := 13) (oi := _) (v := ?_) rfl (by kernel_rfl) (by kernel_rfl) (by kernel_rfl) (fun _ _ _ h => h) (Or.inl ⟨by rfl, ?_⟩) (by assumption) ?_
  rotate_left
  · (intro W hSw; obtain ⟨h0, h1, h2, h3, h4, hf0⟩ := hSw.1.2.1.cells; obtain ⟨e0, e1, e2, e3, e4, e5, e6, e7, e8, hf1⟩ := hSw.1.2.2.cells; go_simp; try with_reducible rfl)
  try simp only [Act.put, List.getElem_toArray, List.getElem_cons_succ, List.getElem_cons_zero, List.setIfInBounds_toArray, List.set_cons_zero, List.set_cons_succ]
  refine wpAnyH_take (i := 14) (oi := _) (v := ?_) rfl (by kernel_rfl) (by kernel_rfl) (by kernel_rfl) (fun _ _ _ h => h) (Or.inl ⟨by rfl, ?_⟩) (by assumption) ?_
  rotate_left
  · (intro W hSw; obtain ⟨h0, h1, h2, h3, h4, hf0⟩ := hSw.1.2.1.cells; obtain ⟨e0, e1, e2, e3, e4, e5, e6, e7, e8, hf1⟩ := hSw.1.2.2.cells; go_simp; try with_reducible rfl)
  try simp only [Act.put, List.getElem_toArray, List.getElem_cons_succ, List.getElem_cons_zero, List.setIfInBounds_toArray, List.set_cons_zero, List.set_cons_succ]
  refine wpAnyH_take (i := 15) (oi := _) (v := ?_) rfl (by kernel_rfl) (by kernel_rfl) (by kernel_rfl) (fun _ _ _ h => h) (Or.inl ⟨by rfl, ?_⟩) (by assumption) ?_
  rotate_left
  · (intro W hSw; obtain ⟨h0, h1, h2, h3, h4, hf0⟩ := hSw.1.2.1.cells; obtain ⟨e0, e1, e2, e3, e4, e5, e6, e7, e8, hf1⟩ := hSw.1.2.2.cells; go_simp; try with_reducible rfl)
  try simp only [Act.put, List.getElem_toArray, List.getElem_cons_succ, List.getElem_cons_zero, List.setIfInBounds_toArray, List.set_cons_zero, List.set_cons_succ]
  refine wpAnyH_take (i := 16) (oi := _) (v := ?_) rfl (by kernel_rfl) (by kernel_rfl) (by kernel_rfl) (fun _ _ _ h => h) (Or.inl ⟨by rfl, ?_⟩) (by assumption) ?_
  rotate_left
  · (intro W hSw; obtain ⟨h0, h1, h2, h3, h4, hf0⟩ := hSw.1.2.1.cells; obtain ⟨e0, e1, e2, e3, e4, e5, e6, e7, e8, hf1⟩ := hSw.1.2.2.cells; go_simp; try with_reducible rfl)
  try simp only [Act.put, List.getElem_toArray, List.getElem_cons_succ, List.getElem_cons_zero, List.setIfInBounds_toArray, List.set_cons_zero, List.set_cons_succ]
  refine wpAnyH_take (i := 17) (oi := _) (v := ?_) rfl (by kernel_rfl) (by kernel_rfl) (by kernel_rfl) (fun _ _ _ h => h) (Or.inl ⟨by rfl, ?_⟩) (by assumption) ?_
  rotate_left
  · (intro W hSw; obtain ⟨h0, h1, h2, h3, h4, hf0⟩ := hSw.1.2.1.cells; obtain ⟨e0, e1, e2, e3, e4, e5, e6, e7, e8, hf1⟩ := hSw.1.2.2.cells; go_simp; try with_reducible rfl)
  try simp only [Act.put, List.getElem_toArray, List.getElem_cons_succ, List.getElem_cons_zero, List.setIfInBounds_toArray, List.set_cons_zero, List.set_cons_succ]
  refine wpAnyH_take (i := 18) (oi := _) (v := ?_) rfl (by kernel_rfl) (by kernel_rfl) (by kernel_rfl) (fun _ _ _ h => h) (Or.inl ⟨by rfl, ?_⟩) (by assumption) ?_
  rotate_left
  · (intro W hSw; obtain ⟨h0, h1, h2, h3, h4, hf0⟩ := hSw.1.2.1.cells; obtain ⟨e0, e1, e2, e3, e4, e5, e6, e7, e8, hf1⟩ := hSw.1.2.2.cells; go_simp; try with_reducible rfl)
  try simp only [Act.put, List.getElem_toArray, List.getElem_cons_succ, List.getElem_cons_zero, List.setIfInBounds_toArray, List.set_cons_zero, List.set_cons_succ]
  refine wpAnyH_done (by kernel_rfl) ?_ _
  have H1 := Lib.hid hHeld
  clear hHeld H0
  obtain ⟨h0, h1, h2, h3, h4, hf0⟩ := H1.out.1.2.1.cells
  obtain ⟨e0, e1, e2, e3, e4, e5, e6, e7, e8, hf1⟩ := H1.out.1.2.2.cells
  go_wp2_with fail
  refine (HLt.out _).mono ?_
  rintro _ w2 ⟨rfl, hb2⟩
  have H2 := Lib.hid (PS.call H1.out hb2)
  clear h0 h1 h2 h3 h4 hf0 e0 e1 e2 e3 e4 e5 e6 e7 e8 hf1 H1 hb2
  obtain ⟨h0, h1, h2, h3, h4, hf0⟩ := H2.out.1.2.1.cells
  obtain ⟨e0, e1, e2, e3, e4, e5, e6, e7, e8, hf1⟩ := H2.out.1.2.2.cells
  have HR := Lib.hid H2.out.2
  have HB := Lib.hid H2.out.1.1
  go_upto_region 8 with fail
  clear h0 h1 h2 h3 h4 hf0 e0 e1 e2 e3 e4 e5 e6 e7 e8 hf1
  refine wp_region_lit ?_
  refine wpList_step (fun K hK => ?_)
  go_simp
  refine hK _ _ ?_
  clear hK K
  refine wpList_store_rowTo rfl TPk _ _ rfl rfl (w.heap.size + 1) #[.int .i64 0, .int .i64 0, .int .u64 0, .int .u64 0, .string ⟨#[]⟩] rfl rfl TPk _ HR.out (by kernel_rfl) rfl (by kernel_rfl) ?_
  refine wpList_step (fun K hK => ?_)
  go_simp
  refine hK _ _ ?_
  clear hK K
  refine wpList_nil ?_
  have HR' := setRow_heap w2 (w.heap.size + 1) _ #[.int .i64 0, .int .i64 0, .int .u64 0, .int .u64 0, .string ⟨#[]⟩] TPk (0, 0) HR.out
  have hB9 := Ln.below_setRow HB.out (Nat.le_succ _) #[.int .i64 0, .int .i64 0, .int .u64 0, .int .u64 0, .string ⟨#[]⟩]
  obtain ⟨w9, hw9⟩ : ∃ X, X = w2.setRow (w.heap.size + 1) #[.int .i64 0, .int .i64 0, .int .u64 0, .int .u64 0, .string ⟨#[]⟩] := ⟨_, rfl⟩
  rw [← hw9] at HR' hB9 ⊢
  clear hw9
  go_wp2_with fail
  refine bodyPost_ret (v := .tuple #[.agg #[.int .i64 0, .int .i64 0, .int .u64 0, .int .u64 0, .string ⟨#[]⟩], .int .i64 11]) (res_cb Tryd.results8 _ _ (w.heap.size + 1) #[.int .i64 0, .int .i64 0, .int .u64 0, .int .u64 0, .string ⟨#[]⟩] rfl (run_loadVar_row w9 (w.heap.size + 1) TPk TPk #[.int .i64 0, .int .i64 0, .int .u64 0, .int .u64 0, .string ⟨#[]⟩] (0, 0) _ HR' Tryd.underlying33 rfl (by kernel_rfl))) rfl ⟨rfl, hB9⟩
end Go.Proofs.YtdljphbfbiganaaDoor.Lg
/- line: what an end in whatever state is asked. -/
namespace Go.Proofs.YtdljphbfbiganaaDoor.Lg
open Go Go.RowKit Packet Ln Mg
set_option linter.unusedVariables false

/-- a number's sum -/
def sumOf (k : Int) (l : List (Int × Array Value)) : Array Value := (lk k l).getD zs32
theorem sumOf_ok {k : Int} {l : List (Int × Array Value)} (h : ∀ x ∈ l, SumOk x.2) : SumOk (sumOf k l) := by
  unfold sumOf
  cases hl : lk k l with
  | none => exact sumOk_zero
  | some C => exact h _ (lk_some hl)
theorem look_g (k : Int) (B : Nat) (l : List (Int × Array Value)) (W : World) (h : MG KS W B l) :
    (Instr.lookup TMp (.map (some B)) (.int .u64 k) true).run Tryd.prog W = .ok (.tuple #[.agg (sumOf k l), .bool (lk k l).isSome]) W := by
  have := look_run ks_ok k B l W h
  have e : ((lk k l).map KS.vv).getD KS.zv = .agg (sumOf k l) := by unfold sumOf; cases lk k l <;> rfl
  rw [e] at this
  exact this
set_option maxRecDepth 20000 in
set_option maxHeartbeats 2000000 in
theorem acked_g {V : World} {E M N : Nat} {s : St} (k : Int) (hL : LG V E M N s) : Calls Tryd.prog 26 #[.pointer (some ⟨E, 0, none⟩), .int .u64 k] V fun e w' => e = .returned (.tuple #[.agg (sumOf k s.ac), .bool (lk k s.ac).isSome]) ∧ Below V.heap.size V w' := by
  have hCs := sumOf_ok (k := k) hL.aok
  have hlk := fun W (hW : LG W E M N s) => look_g k N s.ac W hW.ack
  obtain ⟨C, hC⟩ : ∃ C, C = sumOf k s.ac := ⟨_, rfl⟩
  rw [← hC] at hCs ⊢
  simp only [← hC] at hlk
  obtain ⟨Zz, hZ⟩ : ∃ Zz, Zz = zs32 := ⟨_, rfl⟩
  have hZs : Zz.size = 32 := by rw [hZ]; rfl
  have hRz := heap_alloc_new V (.cells #[.int .u8 0, .int .u8 0, .int .u8 0, .int .u8 0, .int .u8 0, .int .u8 0, .int .u8 0, .int .u8 0, .int .u8 0, .int .u8 0, .int .u8 0, .int .u8 0, .int .u8 0, .int .u8 0, .int .u8 0, .int .u8 0, .int .u8 0, .int .u8 0, .int .u8 0, .int .u8 0, .int .u8 0, .int .u8 0, .int .u8 0, .int .u8 0, .int .u8 0, .int .u8 0, .int .u8 0, .int .u8 0, .int .u8 0, .int .u8 0, .int .u8 0, .int .u8 0] TSm)
  have hR : (V.alloc (.cells #[.int .u8 0, .int .u8 0, .int .u8 0, .int .u8 0, .int .u8 0, .int .u8 0, .int .u8 0, .int .u8 0, .int .u8 0, .int .u8 0, .int .u8 0, .int .u8 0, .int .u8 0, .int .u8 0, .int .u8 0, .int .u8 0, .int .u8 0, .int .u8 0, .int .u8 0, .int .u8 0, .int .u8 0, .int .u8 0, .int .u8 0, .int .u8 0, .int .u8 0, .int .u8 0, .int .u8 0, .int .u8 0, .int .u8 0, .int .u8 0, .int .u8 0, .int .u8 0] TSm)).heap[V.heap.size]? = some (.cells Zz TSm (0, 0)) := by rw [hZ]; exact hRz
  have hb := (Below.refl V.heap.size V).alloc (Nat.le_refl _) (.cells #[.int .u8 0, .int .u8 0, .int .u8 0, .int .u8 0, .int .u8 0, .int .u8 0, .int .u8 0, .int .u8 0, .int .u8 0, .int .u8 0, .int .u8 0, .int .u8 0, .int .u8 0, .int .u8 0, .int .u8 0, .int .u8 0, .int .u8 0, .int .u8 0, .int .u8 0, .int .u8 0, .int .u8 0, .int .u8 0, .int .u8 0, .int .u8 0, .int .u8 0, .int .u8 0, .int .u8 0, .int .u8 0, .int .u8 0, .int .u8 0, .int .u8 0, .int .u8 0] TSm)
  have HC := Lib.hid hCs
  have HZs := Lib.hid hZs
  have HLk := Lib.hid hlk
  have hE := hL.below hb
  obtain ⟨w0, hw0⟩ : ∃ X, X = V.alloc (.cells #[.int .u8 0, .int .u8 0, .int .u8 0, .int .u8 0, .int .u8 0, .int .u8 0, .int .u8 0, .int .u8 0, .int .u8 0, .int .u8 0, .int .u8 0, .int .u8 0, .int .u8 0, .int .u8 0, .int .u8 0, .int .u8 0, .int .u8 0, .int .u8 0, .int .u8 0, .int .u8 0, .int .u8 0, .int .u8 0, .int .u8 0, .int .u8 0, .int .u8 0, .int .u8 0, .int .u8 0, .int .u8 0, .int .u8 0, .int .u8 0, .int .u8 0, .int .u8 0] TSm) := ⟨_, rfl⟩
  rw [← hw0] at hR hb hE
  have H0 := Lib.hid (And.intro hR hb)
  clear hRz hR hb hC hlk hL hCs hZs hZ
  have c7 := cell_of_row w0 E 8 _ _ (0, 0) hE.box
  have hlk := HLk.out w0 hE
  clear hE
  go_enter Tryd.func26, Tryd.ntmps26
  go_upto_region 3 with fail
  rw [← hw0]
  clear hw0
  have hst := run_storeCells_new (P := Tryd.prog) w0 TSm #[.int .u8 0, .int .u8 0, .int .u8 0, .int .u8 0, .int .u8 0, .int .u8 0, .int .u8 0, .int .u8 0, .int .u8 0, .int .u8 0, .int .u8 0, .int .u8 0, .int .u8 0, .int .u8 0, .int .u8 0, .int .u8 0, .int .u8 0, .int .u8 0, .int .u8 0, .int .u8 0, .int .u8 0, .int .u8 0, .int .u8 0, .int .u8 0, .int .u8 0, .int .u8 0, .int .u8 0, .int .u8 0, .int .u8 0, .int .u8 0, .int .u8 0, .int .u8 0] C (i32 C HC.out.1) (by rw [HC.out.1]; rfl) HC.out.2.1
  have hCz := HC.out.1
  go_upto_region 4 with fail
  have hx := heap_alloc_new w0 (.cells C TSm)
  have hr := (Below.heap_alloc w0 (.cells C TSm) V.heap.size (lt_of H0.out.1)).trans H0.out.1
  have hb := H0.out.2.alloc H0.out.2.size (.cells C TSm)
  obtain ⟨w2, hw2⟩ : ∃ X, X = w0.alloc (.cells C TSm) := ⟨_, rfl⟩
  obtain ⟨G, hG⟩ : ∃ X, X = w0.heap.size := ⟨_, rfl⟩
  rw [← hw2] at hx hr hb ⊢
  rw [← hG] at hx ⊢
  clear hst hw2 hG hlk c7
  refine wp_region_lit ?_
  refine wpList_load_row rfl TSm _ rfl G rfl TSm C (0, 0) _ hx Tryd.underlying55 rfl (i32 C HC.out.1) ?_
  refine wpList_step (fun K hK => ?_)
  go_simp
  refine hK _ _ ?_
  clear hK K
  refine wpList_store_rowTo rfl TSm _ _ rfl rfl V.heap.size C rfl rfl TSm _ hr (i32 C HC.out.1) (by rw [HC.out.1, HZs.out]) HC.out.2.1 ?_
  refine wpList_step (fun K hK => ?_)
  go_simp
  refine hK _ _ ?_
  clear hK K
  refine wpList_nil ?_
  have HR' := setRow_heap w2 V.heap.size _ C TSm (0, 0) hr
  have HB9 := Ln.below_setRow hb (Nat.le_refl _) C
  obtain ⟨w9, hw9⟩ : ∃ X, X = w2.setRow V.heap.size C := ⟨_, rfl⟩
  rw [← hw9] at HR' HB9 ⊢
  clear hw9
  go_wp2_with fail
  refine bodyPost_ret (v := .tuple #[.agg C, .bool (lk k s.ac).isSome]) (res_cb Tryd.results26 _ _ V.heap.size C rfl (run_loadVar_row w9 V.heap.size TSm TSm C (0, 0) _ HR' Tryd.underlying55 rfl (i32 C HC.out.1))) rfl ⟨rfl, HB9⟩
set_option maxRecDepth 20000 in
set_option maxHeartbeats 2000000 in
theorem received_g {V : World} {E M N : Nat} {s : St} (k : Int) (hL : LG V E M N s) : Calls Tryd.prog 18 #[.pointer (some ⟨E, 0, none⟩), .int .u64 k] V fun e w' => e = .returned (.bool (lk k s.ac).isSome) ∧ Below V.heap.size V w' := by
  have HA := acked_g k hL
  have hCs := sumOf_ok (k := k) hL.aok
  generalize sumOf k s.ac = C at HA hCs
  have HA := Lib.hid HA
  have HC := Lib.hid hCs
  have hCz := hCs.1
  clear hL hCs
  go_enter Tryd.func18, Tryd.ntmps18
  go_wp2_with fail
  refine HA.out.mono ?_
  rintro _ w1 ⟨rfl, b1⟩
  have hst := run_storeCells_new (P := Tryd.prog) w1 TSm #[.int .u8 0, .int .u8 0, .int .u8 0, .int .u8 0, .int .u8 0, .int .u8 0, .int .u8 0, .int .u8 0, .int .u8 0, .int .u8 0, .int .u8 0, .int .u8 0, .int .u8 0, .int .u8 0, .int .u8 0, .int .u8 0, .int .u8 0, .int .u8 0, .int .u8 0, .int .u8 0, .int .u8 0, .int .u8 0, .int .u8 0, .int .u8 0, .int .u8 0, .int .u8 0, .int .u8 0, .int .u8 0, .int .u8 0, .int .u8 0, .int .u8 0, .int .u8 0] C (i32 C HC.out.1) (by rw [HC.out.1]; rfl) HC.out.2.1
  go_wp2
  go_ret
  exact ⟨rfl, b1.alloc b1.size _⟩
end Go.Proofs.YtdljphbfbiganaaDoor.Lg
/- line: two sums compared. -/
namespace Go.Proofs.YtdljphbfbiganaaDoor.Lg
open Go Go.RowKit Packet Ln Mg
set_option linter.unusedVariables false

theorem eq_rowG {P : Program} (w : World) (d : Nat) (t e : TypeId) (n : Nat) (ht : P.underlying t = some (.array n e)) (he : P.underlying e = some (.int .u8)) (hsz : ∀ w, (sizeOf e).run P w = .ok 1 w)
    (xs ys : List Int) (hx : xs.length = n) (hy : ys.length = n) :
    (Op.equalIn (d + 2) t (.agg (xs.map (Value.int .u8)).toArray) (.agg (ys.map (Value.int .u8)).toArray)).run P w = .ok ((List.range' 0 n 1).all fun i => xs.getD i 0 == ys.getD i 0) w := by
  rw [Op.equalIn]
  simp only [Sem.run_bind, run_underlying ht, Result.andThen_ok, hsz, Std.Legacy.Range.forIn_eq_forIn_range', Std.Legacy.Range.size, Nat.sub_zero, Nat.add_sub_cancel, Nat.div_one]
  have hl : ∀ i ∈ List.range' 0 n 1, i < n := fun i hi => by simpa using (List.mem_range'_1.1 hi).2
  generalize List.range' 0 n 1 = l at hl ⊢
  induction l with
  | nil => simp
  | cons i l ih =>
    have hi : i < n := hl i (by simp)
    have px : (part e (xs.map (Value.int .u8)).toArray (i * 1)).run P w = .ok (.int .u8 (xs.getD i 0)) w := by
      simp [part, isAgg, run_underlying he, List.getD, List.getElem?_eq_getElem (show i < xs.length by omega)]
    have py : (part e (ys.map (Value.int .u8)).toArray (i * 1)).run P w = .ok (.int .u8 (ys.getD i 0)) w := by
      simp [part, isAgg, run_underlying he, List.getD, List.getElem?_eq_getElem (show i < ys.length by omega)]
    have pe : (Op.equalIn (d + 1) e (.int .u8 (xs.getD i 0)) (.int .u8 (ys.getD i 0))).run P w = .ok (xs.getD i 0 == ys.getD i 0) w := by
      rw [run_equalIn_int w d e .u8 .u8 _ _ he]
    simp only [List.forIn_cons, Sem.run_bind, px, py, pe, Result.andThen_ok]
    by_cases h : xs.getD i 0 = ys.getD i 0
    · have hb : (xs.getD i 0 == ys.getD i 0) = true := by simpa using h
      rw [List.all_cons, hb, Bool.true_and]
      simpa using ih (fun j hj => hl j (by simp [hj]))
    · have hb : (xs.getD i 0 == ys.getD i 0) = false := by simpa using h
      rw [List.all_cons, hb, Bool.false_and]
      first | done | rfl | simp
theorem all_eq (xs ys : List Int) (n : Nat) (hx : xs.length = n) (hy : ys.length = n) : ((List.range' 0 n 1).all fun i => xs.getD i 0 == ys.getD i 0) = decide (xs = ys) := by
  rw [Bool.eq_iff_iff, List.all_eq_true, decide_eq_true_iff]
  constructor
  · intro h
    apply List.ext_getElem (by omega)
    intro i h1 h2
    have := h i (List.mem_range'_1.2 ⟨by omega, by omega⟩)
    simpa [List.getD, List.getElem?_eq_getElem h1, List.getElem?_eq_getElem h2] using this
  · rintro rfl i _; simp
theorem u8_inj : ∀ (xs ys : List Int), xs.map (Value.int .u8) = ys.map (Value.int .u8) → xs = ys
  | [], [], _ => rfl
  | [], _ :: _, h => by cases h
  | _ :: _, [], h => by cases h
  | x :: xs, y :: ys, h => by
    injection h with h1 h2
    injection h1 with _ h1
    rw [h1, u8_inj xs ys h2]
theorem eq_sum (C D : Array Value) (hC : SumOk C) (hD : SumOk D) : ∃ b : Bool, (b = true ↔ C = D) ∧ ∀ W, (Op.equalIn 10000 TSm (.agg C) (.agg D)).run Tryd.prog W = .ok b W := by
  obtain ⟨c1, _, xs, rfl⟩ := hC
  obtain ⟨d1, _, ys, rfl⟩ := hD
  have hx : xs.length = 32 := by simpa using c1
  have hy : ys.length = 32 := by simpa using d1
  refine ⟨decide (xs = ys), ?_, fun W => ?_⟩
  · rw [decide_eq_true_iff]
    exact ⟨fun h => by rw [h], fun h => u8_inj _ _ (by simpa using congrArg Array.toList h)⟩
  · rw [← all_eq xs ys 32 hx hy]
    exact eq_rowG W 9998 TSm 5 32 Tryd.underlying55 Tryd.underlying5 (fun w => by
      obtain ⟨i0, hi, _⟩ := info_parts Sha.infoB
      have h := run_sizeOf w hi
      rw [show Tryd.prog.cellsOf 5 = 1 by kernel_rfl] at h
      exact h) xs ys hx hy
set_option maxRecDepth 20000 in
theorem neq_sum (C D : Array Value) (hC : SumOk C) (hD : SumOk D) : ∃ b : Bool, (b = true ↔ C = D) ∧ ∀ W, (binOp .neq TSm (.agg C) (.agg D)).run Tryd.prog W = .ok (.bool (!b)) W := by
  obtain ⟨b, hb, h⟩ := eq_sum C D hC hD
  refine ⟨b, hb, fun W => ?_⟩
  have e : (binOp .neq TSm (.agg C) (.agg D)).run Tryd.prog W = ((Op.equalIn 10000 TSm (.agg C) (.agg D)).run Tryd.prog W).andThen fun b w => .ok (.bool (!b)) w := by
    generalize C = C'
    generalize D = D'
    unfold binOp
    simp [Op.equal, Op.maxDepth, go_sem]
  rw [e, h]
  rfl
end Go.Proofs.YtdljphbfbiganaaDoor.Lg
