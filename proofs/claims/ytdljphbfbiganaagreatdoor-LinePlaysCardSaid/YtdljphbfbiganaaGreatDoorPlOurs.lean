import Derived.Test.YtdljphbfbiganaaGreatDoorTk
import Derived.Test.YtdljphbfbiganaaGreatDoorGLgAll
/- The page's line: whether a packet is an end's. -/
namespace Go.Proofs.YtdljphbfbiganaaGreatDoor.Pl
open Go Go.RowKit Packet Mg Lg Ln
set_option linter.unusedVariables false

set_option maxRecDepth 20000 in
set_option maxHeartbeats 4000000 in
theorem ours_g {w : World} {b0 B : Nat} {s : St} {Ac Aa : Option Addr} {mc cc ma ca : Nat} (p : P5) (x : Int) (h : PN b0 w B s Ac mc cc Aa ma ca) : Calls Tryz.prog 22 #[.pointer (some ⟨B, 0, none⟩), pkv p, .int .i64 x] w fun e w' => e = .returned (.bool (fitG s p x)) ∧ Below w.heap.size w w' := by
  have H0 := QL.new (p := p) h
  clear h
  obtain ⟨V, hV⟩ : ∃ X, X = w.alloc (.cells #[.int .i64 p.c, .int .i64 p.f, .int .u64 p.s, .int .u64 p.t, .string p.d] TPk) := ⟨_, rfl⟩
  rw [← hV] at H0
  obtain ⟨b, HR, hb⟩ : ∃ b, Hid (∀ W, Calls Tryz.prog 44 #[.agg #[.int .i64 p.c, .int .i64 p.f, .int .u64 p.s, .int .u64 p.t, .string p.d]] W fun e w' => e = .returned (.bool b) ∧ Below W.heap.size W w') ∧ (p.right → b = true) ∧ (b = true → p.right) := by
    by_cases hr : p.right
    · exact ⟨true, Lib.hid (rright_yes p hr), fun _ => rfl, fun _ => hr⟩
    · exact ⟨false, Lib.hid (rright_no p hr), fun k => absurd k hr, fun k => by cases k⟩
  have HV := Lib.hid hV
  clear hV
  have Hq := Lib.hid hb
  clear hb
  cases b
  · go_enter Tryz.func22, Tryz.ntmps22
    go_upto_region 1 with fail
    rw [← HV.out]
    refine wp_region_held_drew (S := QL w w.heap.size p b0 B s Ac mc cc Aa ma ca) (by kernel_rfl) (QL.drew H0) (fun hHeld => ?_)
    refine tk (i := 0) (v := ?_) rfl (by kernel_rfl) (fun _ _ _ h => h) (by rfl) ?_ (by assumption) ?_
    rotate_left
    · (intro W hSw; have hz := hSw.2.1.cells; have hy := hSw.2.2.cells; go_simp; try with_reducible rfl)
    try simp only [Act.put, gA, gZ, sA, sZ, sS]
    refine wpAnyH_ready (rs := [1]) (by kernel_rfl) (by simp) ?_
    refine AllReadyH.cons rfl (fun K hK => ?_) AllReadyH.nil
    simp only [gA, gS, gZ]
    rw [if_pos (by rfl)]
    go_simp
    (refine (HR.out _).mono ?_; rintro e w1 ⟨rfl, hb1⟩)
    go_wp2_with fail
    refine hK.out _ _ (QL.call (QL.drew H0) hb1) (fun hHeld => ?_)
    clear hK K
    try simp only [Act.put, gA, gS, gZ, sA, sZ, sS]
    refine tk (i := 2) (v := ?_) rfl (by kernel_rfl) (fun _ _ _ h => h) (by rfl) ?_ (by assumption) ?_
    rotate_left
    · (intro W hSw; have hz := hSw.2.1.cells; have hy := hSw.2.2.cells; go_simp; try with_reducible rfl)
    try simp only [Act.put, gA, gS, gZ, sA, sZ, sS]
    refine tn (i := 3) rfl (by kernel_rfl) (fun _ _ _ h => h) (by rfl) rfl (by assumption) ?_
    try simp only [Act.put, gA, gS, gZ, sA, sZ, sS]
    refine tn (i := 4) rfl (by kernel_rfl) (fun _ _ _ h => h) (by rfl) rfl (by assumption) ?_
    try simp only [Act.put, gA, gS, gZ, sA, sZ, sS]
    refine tn (i := 5) rfl (by kernel_rfl) (fun _ _ _ h => h) (by rfl) rfl (by assumption) ?_
    try simp only [Act.put, gA, gS, gZ, sA, sZ, sS]
    refine tn (i := 6) rfl (by kernel_rfl) (fun _ _ _ h => h) (by rfl) rfl (by assumption) ?_
    try simp only [Act.put, gA, gS, gZ, sA, sZ, sS]
    refine tn (i := 7) rfl (by kernel_rfl) (fun _ _ _ h => h) (by rfl) rfl (by assumption) ?_
    try simp only [Act.put, gA, gS, gZ, sA, sZ, sS]
    refine tn (i := 8) rfl (by kernel_rfl) (fun _ _ _ h => h) (by rfl) rfl (by assumption) ?_
    try simp only [Act.put, gA, gS, gZ, sA, sZ, sS]
    refine tn (i := 9) rfl (by kernel_rfl) (fun _ _ _ h => h) (by rfl) rfl (by assumption) ?_
    try simp only [Act.put, gA, gS, gZ, sA, sZ, sS]
    refine tk (i := 10) (v := ?_) rfl (by kernel_rfl) (fun _ _ _ h => h) (by rfl) ?_ (by assumption) ?_
    rotate_left
    · (intro W hSw; have hz := hSw.2.1.cells; have hy := hSw.2.2.cells; go_simp; try with_reducible rfl)
    try simp only [Act.put, gA, gS, gZ, sA, sZ, sS]
    refine tk (i := 11) (v := ?_) rfl (by kernel_rfl) (fun _ _ _ h => h) (by rfl) ?_ (by assumption) ?_
    rotate_left
    · (intro W hSw; have hz := hSw.2.1.cells; have hy := hSw.2.2.cells; go_simp; try with_reducible rfl)
    try simp only [Act.put, gA, gS, gZ, sA, sZ, sS]
    refine tn (i := 12) rfl (by kernel_rfl) (fun _ _ _ h => h) (by rfl) rfl (by assumption) ?_
    try simp only [Act.put, gA, gS, gZ, sA, sZ, sS]
    refine tn (i := 13) rfl (by kernel_rfl) (fun _ _ _ h => h) (by rfl) rfl (by assumption) ?_
    try simp only [Act.put, gA, gS, gZ, sA, sZ, sS]
    refine tn (i := 14) rfl (by kernel_rfl) (fun _ _ _ h => h) (by rfl) rfl (by assumption) ?_
    try simp only [Act.put, gA, gS, gZ, sA, sZ, sS]
    refine tn (i := 15) rfl (by kernel_rfl) (fun _ _ _ h => h) (by rfl) rfl (by assumption) ?_
    try simp only [Act.put, gA, gS, gZ, sA, sZ, sS]
    refine tk (i := 16) (v := ?_) rfl (by kernel_rfl) (fun _ _ _ h => h) (by rfl) ?_ (by assumption) ?_
    rotate_left
    · (intro W hSw; have hz := hSw.2.1.cells; have hy := hSw.2.2.cells; go_simp; try with_reducible rfl)
    try simp only [Act.put, gA, gS, gZ, sA, sZ, sS]
    refine tk (i := 17) (v := ?_) rfl (by kernel_rfl) (fun _ _ _ h => h) (by rfl) ?_ (by assumption) ?_
    rotate_left
    · (intro W hSw; have hz := hSw.2.1.cells; have hy := hSw.2.2.cells; go_simp; try with_reducible rfl)
    try simp only [Act.put, gA, gS, gZ, sA, sZ, sS]
    refine wpAnyH_done (by kernel_rfl) ?_ _
    go_wp2
    go_ret
    exact ⟨by rw [fitG_no s p x (fun y => absurd (Hq.out.1 y.1) (by decide))] <;> rfl, hHeld.1⟩
  · obtain ⟨bc, hbc, hb2⟩ : ∃ bc, (p.c == s.ch) = bc ∧ (p.c = s.ch → bc = true) := ⟨_, rfl, fun h => by simpa using h⟩
    obtain ⟨bf, hbf, hb3⟩ : ∃ bf, (p.f == x) = bf ∧ (p.f = x → bf = true) := ⟨_, rfl, fun h => by simpa using h⟩
    have H2 := Lib.hid hb2
    have H3 := Lib.hid hb3
    clear hb2 hb3
    cases bc
    · go_enter Tryz.func22, Tryz.ntmps22
      go_upto_region 1 with fail
      rw [← HV.out]
      refine wp_region_held_drew (S := QL w w.heap.size p b0 B s Ac mc cc Aa ma ca) (by kernel_rfl) (QL.drew H0) (fun hHeld => ?_)
      refine tk (i := 0) (v := ?_) rfl (by kernel_rfl) (fun _ _ _ h => h) (by rfl) ?_ (by assumption) ?_
      rotate_left
      · (intro W hSw; have hz := hSw.2.1.cells; have hy := hSw.2.2.cells; go_simp; try with_reducible rfl)
      try simp only [Act.put, gA, gZ, sA, sZ, sS]
      refine wpAnyH_ready (rs := [1]) (by kernel_rfl) (by simp) ?_
      refine AllReadyH.cons rfl (fun K hK => ?_) AllReadyH.nil
      simp only [gA, gS, gZ]
      rw [if_pos (by rfl)]
      go_simp
      (refine (HR.out _).mono ?_; rintro e w1 ⟨rfl, hb1⟩)
      go_wp2_with fail
      refine hK.out _ _ (QL.call (QL.drew H0) hb1) (fun hHeld => ?_)
      clear hK K
      try simp only [Act.put, gA, gS, gZ, sA, sZ, sS]
      refine tk (i := 2) (v := ?_) rfl (by kernel_rfl) (fun _ _ _ h => h) (by rfl) ?_ (by assumption) ?_
      rotate_left
      · (intro W hSw; have hz := hSw.2.1.cells; have hy := hSw.2.2.cells; go_simp; try with_reducible rfl)
      try simp only [Act.put, gA, gS, gZ, sA, sZ, sS]
      refine tk (i := 3) (v := ?_) rfl (by kernel_rfl) (fun _ _ _ h => h) (by rfl) ?_ (by assumption) ?_
      rotate_left
      · (intro W hSw; have hz := hSw.2.1.cells; have hy := hSw.2.2.cells; go_simp; try with_reducible rfl)
      try simp only [Act.put, gA, gS, gZ, sA, sZ, sS]
      refine tk (i := 4) (v := ?_) rfl (by kernel_rfl) (fun _ _ _ h => h) (by rfl) ?_ (by assumption) ?_
      rotate_left
      · (intro W hSw; have hz := hSw.2.1.cells; have hy := hSw.2.2.cells; go_simp; try with_reducible rfl)
      try simp only [Act.put, gA, gS, gZ, sA, sZ, sS]
      refine tk (i := 5) (v := ?_) rfl (by kernel_rfl) (fun _ _ _ h => h) (by rfl) ?_ (by assumption) ?_
      rotate_left
      · (intro W hSw; have hz := hSw.2.1.cells; have hy := hSw.2.2.cells; go_simp; try with_reducible rfl)
      try simp only [Act.put, gA, gS, gZ, sA, sZ, sS]
      refine tk (i := 6) (v := ?_) rfl (by kernel_rfl) (fun _ _ _ h => h) (by rfl) ?_ (by assumption) ?_
      rotate_left
      · (intro W hSw; have hz := hSw.2.1.cells; have hy := hSw.2.2.cells; go_simp; try with_reducible rfl)
      try simp only [Act.put, gA, gS, gZ, sA, sZ, sS]
      refine tk (i := 7) (v := ?_) rfl (by kernel_rfl) (fun _ _ _ h => h) (by rfl) ?_ (by assumption) ?_
      rotate_left
      · (intro W hSw; have hz := hSw.2.1.cells; have hy := hSw.2.2.cells; go_simp; try with_reducible rfl)
      try simp only [Act.put, gA, gS, gZ, sA, sZ, sS]
      refine tk (i := 8) (v := ?_) rfl (by kernel_rfl) (fun _ _ _ h => h) (by rfl) ?_ (by assumption) ?_
      rotate_left
      · (intro W hSw; have hz := hSw.2.1.cells; have hy := hSw.2.2.cells; go_simp; try with_reducible rfl)
      try simp only [Act.put, gA, gS, gZ, sA, sZ, sS]
      refine tk (i := 9) (v := ?_) rfl (by kernel_rfl) (fun _ _ _ h => h) (by rfl) ?_ (by assumption) ?_
      rotate_left
      · (intro W hSw; have hz := hSw.2.1.cells; have hy := hSw.2.2.cells; go_simp; try with_reducible rfl)
      try simp only [Act.put, gA, gS, gZ, sA, sZ, sS]
      refine tk (i := 10) (v := ?_) rfl (by kernel_rfl) (fun _ _ _ h => h) (by rfl) ?_ (by assumption) ?_
      rotate_left
      · (intro W hSw; have hz := hSw.2.1.cells; have hy := hSw.2.2.cells; go_simp; try with_reducible rfl)
      try simp only [Act.put, gA, gS, gZ, sA, sZ, sS]
      refine tk (i := 11) (v := ?_) rfl (by kernel_rfl) (fun _ _ _ h => h) (by rfl) ?_ (by assumption) ?_
      rotate_left
      · (intro W hSw; have hz := hSw.2.1.cells; have hy := hSw.2.2.cells; go_simp; try with_reducible rfl)
      try simp only [Act.put, gA, gS, gZ, sA, sZ, sS]
      refine tn (i := 12) rfl (by kernel_rfl) (fun _ _ _ h => h) (by rfl) rfl (by assumption) ?_
      try simp only [Act.put, gA, gS, gZ, sA, sZ, sS]
      refine tn (i := 13) rfl (by kernel_rfl) (fun _ _ _ h => h) (by rfl) rfl (by assumption) ?_
      try simp only [Act.put, gA, gS, gZ, sA, sZ, sS]
      refine tn (i := 14) rfl (by kernel_rfl) (fun _ _ _ h => h) (by rfl) rfl (by assumption) ?_
      try simp only [Act.put, gA, gS, gZ, sA, sZ, sS]
      refine tn (i := 15) rfl (by kernel_rfl) (fun _ _ _ h => h) (by rfl) rfl (by assumption) ?_
      try simp only [Act.put, gA, gS, gZ, sA, sZ, sS]
      refine tk (i := 16) (v := ?_) rfl (by kernel_rfl) (fun _ _ _ h => h) (by rfl) ?_ (by assumption) ?_
      rotate_left
      · (intro W hSw; have hz := hSw.2.1.cells; have hy := hSw.2.2.cells; go_simp; try with_reducible rfl)
      try simp only [Act.put, gA, gS, gZ, sA, sZ, sS]
      refine tk (i := 17) (v := ?_) rfl (by kernel_rfl) (fun _ _ _ h => h) (by rfl) ?_ (by assumption) ?_
      rotate_left
      · (intro W hSw; have hz := hSw.2.1.cells; have hy := hSw.2.2.cells; go_simp; try with_reducible rfl)
      try simp only [Act.put, gA, gS, gZ, sA, sZ, sS]
      refine wpAnyH_done (by kernel_rfl) ?_ _
      go_wp2
      go_ret
      exact ⟨by rw [fitG_no s p x (fun y => absurd (H2.out y.2.1) (by decide))] <;> rfl, hHeld.1⟩
    · go_enter Tryz.func22, Tryz.ntmps22
      go_upto_region 1 with fail
      rw [← HV.out]
      refine wp_region_held_drew (S := QL w w.heap.size p b0 B s Ac mc cc Aa ma ca) (by kernel_rfl) (QL.drew H0) (fun hHeld => ?_)
      refine tk (i := 0) (v := ?_) rfl (by kernel_rfl) (fun _ _ _ h => h) (by rfl) ?_ (by assumption) ?_
      rotate_left
      · (intro W hSw; have hz := hSw.2.1.cells; have hy := hSw.2.2.cells; go_simp; try with_reducible rfl)
      try simp only [Act.put, gA, gZ, sA, sZ, sS]
      refine wpAnyH_ready (rs := [1]) (by kernel_rfl) (by simp) ?_
      refine AllReadyH.cons rfl (fun K hK => ?_) AllReadyH.nil
      simp only [gA, gS, gZ]
      rw [if_pos (by rfl)]
      go_simp
      (refine (HR.out _).mono ?_; rintro e w1 ⟨rfl, hb1⟩)
      go_wp2_with fail
      refine hK.out _ _ (QL.call (QL.drew H0) hb1) (fun hHeld => ?_)
      clear hK K
      try simp only [Act.put, gA, gS, gZ, sA, sZ, sS]
      refine tk (i := 2) (v := ?_) rfl (by kernel_rfl) (fun _ _ _ h => h) (by rfl) ?_ (by assumption) ?_
      rotate_left
      · (intro W hSw; have hz := hSw.2.1.cells; have hy := hSw.2.2.cells; go_simp; try with_reducible rfl)
      try simp only [Act.put, gA, gS, gZ, sA, sZ, sS]
      refine tk (i := 3) (v := ?_) rfl (by kernel_rfl) (fun _ _ _ h => h) (by rfl) ?_ (by assumption) ?_
      rotate_left
      · (intro W hSw; have hz := hSw.2.1.cells; have hy := hSw.2.2.cells; go_simp; try with_reducible rfl)
      try simp only [Act.put, gA, gS, gZ, sA, sZ, sS]
      refine tk (i := 4) (v := ?_) rfl (by kernel_rfl) (fun _ _ _ h => h) (by rfl) ?_ (by assumption) ?_
      rotate_left
      · (intro W hSw; have hz := hSw.2.1.cells; have hy := hSw.2.2.cells; go_simp; try with_reducible rfl)
      try simp only [Act.put, gA, gS, gZ, sA, sZ, sS]
      refine tk (i := 5) (v := ?_) rfl (by kernel_rfl) (fun _ _ _ h => h) (by rfl) ?_ (by assumption) ?_
      rotate_left
      · (intro W hSw; have hz := hSw.2.1.cells; have hy := hSw.2.2.cells; go_simp; try with_reducible rfl)
      try simp only [Act.put, gA, gS, gZ, sA, sZ, sS]
      refine tk (i := 6) (v := ?_) rfl (by kernel_rfl) (fun _ _ _ h => h) (by rfl) ?_ (by assumption) ?_
      rotate_left
      · (intro W hSw; have hz := hSw.2.1.cells; have hy := hSw.2.2.cells; go_simp; try with_reducible rfl)
      try simp only [Act.put, gA, gS, gZ, sA, sZ, sS]
      refine tk (i := 7) (v := ?_) rfl (by kernel_rfl) (fun _ _ _ h => h) (by rfl) ?_ (by assumption) ?_
      rotate_left
      · (intro W hSw; have hz := hSw.2.1.cells; have hy := hSw.2.2.cells; go_simp; try with_reducible rfl)
      try simp only [Act.put, gA, gS, gZ, sA, sZ, sS]
      refine tk (i := 8) (v := ?_) rfl (by kernel_rfl) (fun _ _ _ h => h) (by rfl) ?_ (by assumption) ?_
      rotate_left
      · (intro W hSw; have hz := hSw.2.1.cells; have hy := hSw.2.2.cells; go_simp; try with_reducible rfl)
      try simp only [Act.put, gA, gS, gZ, sA, sZ, sS]
      refine tk (i := 9) (v := ?_) rfl (by kernel_rfl) (fun _ _ _ h => h) (by rfl) ?_ (by assumption) ?_
      rotate_left
      · (intro W hSw; have hz := hSw.2.1.cells; have hy := hSw.2.2.cells; go_simp; try with_reducible rfl)
      try simp only [Act.put, gA, gS, gZ, sA, sZ, sS]
      refine tk (i := 10) (v := ?_) rfl (by kernel_rfl) (fun _ _ _ h => h) (by rfl) ?_ (by assumption) ?_
      rotate_left
      · (intro W hSw; have hz := hSw.2.1.cells; have hy := hSw.2.2.cells; go_simp; try with_reducible rfl)
      try simp only [Act.put, gA, gS, gZ, sA, sZ, sS]
      refine tk (i := 11) (v := ?_) rfl (by kernel_rfl) (fun _ _ _ h => h) (by rfl) ?_ (by assumption) ?_
      rotate_left
      · (intro W hSw; have hz := hSw.2.1.cells; have hy := hSw.2.2.cells; go_simp; try with_reducible rfl)
      try simp only [Act.put, gA, gS, gZ, sA, sZ, sS]
      refine tk (i := 12) (v := ?_) rfl (by kernel_rfl) (fun _ _ _ h => h) (by rfl) ?_ (by assumption) ?_
      rotate_left
      · (intro W hSw; have hz := hSw.2.1.cells; have hy := hSw.2.2.cells; go_simp; try with_reducible rfl)
      try simp only [Act.put, gA, gS, gZ, sA, sZ, sS]
      refine tk (i := 13) (v := ?_) rfl (by kernel_rfl) (fun _ _ _ h => h) (by rfl) ?_ (by assumption) ?_
      rotate_left
      · (intro W hSw; have hz := hSw.2.1.cells; have hy := hSw.2.2.cells; go_simp; try with_reducible rfl)
      try simp only [Act.put, gA, gS, gZ, sA, sZ, sS]
      refine tk (i := 14) (v := ?_) rfl (by kernel_rfl) (fun _ _ _ h => h) (by rfl) ?_ (by assumption) ?_
      rotate_left
      · (intro W hSw; have hz := hSw.2.1.cells; have hy := hSw.2.2.cells; go_simp; try with_reducible rfl)
      try simp only [Act.put, gA, gS, gZ, sA, sZ, sS]
      refine tk (i := 15) (v := ?_) rfl (by kernel_rfl) (fun _ _ _ h => h) (by rfl) ?_ (by assumption) ?_
      rotate_left
      · (intro W hSw; have hz := hSw.2.1.cells; have hy := hSw.2.2.cells; go_simp; try with_reducible rfl)
      try simp only [Act.put, gA, gS, gZ, sA, sZ, sS]
      refine tk (i := 16) (v := ?_) rfl (by kernel_rfl) (fun _ _ _ h => h) (by rfl) ?_ (by assumption) ?_
      rotate_left
      · (intro W hSw; have hz := hSw.2.1.cells; have hy := hSw.2.2.cells; go_simp; try with_reducible rfl)
      try simp only [Act.put, gA, gS, gZ, sA, sZ, sS]
      refine tk (i := 17) (v := ?_) rfl (by kernel_rfl) (fun _ _ _ h => h) (by rfl) ?_ (by assumption) ?_
      rotate_left
      · (intro W hSw; have hz := hSw.2.1.cells; have hy := hSw.2.2.cells; go_simp; try with_reducible rfl)
      try simp only [Act.put, gA, gS, gZ, sA, sZ, sS]
      refine wpAnyH_done (by kernel_rfl) ?_ _
      go_wp2
      go_ret
      exact ⟨by rw [fitG_yes s p x (by have := Hq.out.2; simpa using this) hbc, hbf] <;> rfl, hHeld.1⟩
end Go.Proofs.YtdljphbfbiganaaGreatDoor.Pl
