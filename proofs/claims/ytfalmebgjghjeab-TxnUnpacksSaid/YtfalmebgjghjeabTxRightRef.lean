/- The page's Side of a message, and which transactions are right by the page. -/
import Derived.Test.YtfalmebgjghjeabTxRight2
import Derived.Test.YtfalmebgjghjeabRightRef
import Derived.Test.YtfalmebgjghjeabSideRef
namespace Go.Proofs.Ytfalmebgjghjeab.Msg
open Go Go.RowKit

/-- What the page's test of a message reads. -/
def RR (w : World) (b off len cap k : Nat) (m : M7) (side : Int) : World → Prop :=
  fun W => (Below w.heap.size w W ∧ w.heap.size < W.heap.size ∧ b < w.heap.size ∧ W.cell? ⟨w.heap.size, 0, none⟩ = some (.int .i64 side) ∧ W.cell? ⟨w.heap.size, 3, none⟩ = some (.slice (some ⟨b, off, none⟩) len cap)) ∧ W.cell? ⟨b, off + k * 7, none⟩ = some (.int .i64 m.k) ∧ W.cell? ⟨b, off + k * 7 + 1, none⟩ = some (.int .i64 m.c) ∧ W.cell? ⟨b, off + k * 7 + 2, none⟩ = some (.int .i64 m.f) ∧ W.cell? ⟨b, off + k * 7 + 3, none⟩ = some (.int .u64 m.s) ∧ W.cell? ⟨b, off + k * 7 + 4, none⟩ = some (.int .u64 m.t) ∧ W.cell? ⟨b, off + k * 7 + 5, none⟩ = some (.string m.d) ∧ W.cell? ⟨b, off + k * 7 + 6, none⟩ = some (.string m.a)
theorem RR.drew {w W : World} {b off len cap k : Nat} {m : M7} {side : Int} (h : RR w b off len cap k m side W) : RR w b off len cap k m side W.drew := ⟨⟨h.1.1.drew, h.1.2⟩, h.2⟩
theorem RR.call {w W W1 : World} {b off len cap k : Nat} {m : M7} {side : Int} (h : RR w b off len cap k m side W) (hb : Below W.heap.size W W1) : RR w b off len cap k m side W1 := by
  obtain ⟨⟨h0, h1, h2, h3, h4⟩, h5⟩ := h
  have hc : ∀ i, W1.cell? ⟨b, i, none⟩ = W.cell? ⟨b, i, none⟩ := fun i => hb.cell (p := ⟨b, i, none⟩) (by show b < W.heap.size; omega)
  have hc2 : ∀ i, W1.cell? ⟨w.heap.size, i, none⟩ = W.cell? ⟨w.heap.size, i, none⟩ := fun i => hb.cell (p := ⟨w.heap.size, i, none⟩) h1
  refine ⟨⟨h0.trans (hb.mono (Nat.le_of_lt h1)), Nat.lt_of_lt_of_le h1 hb.size, h2, (hc2 0).trans h3, (hc2 3).trans h4⟩, ?_⟩
  simp only [hc]
  exact h5

set_option maxRecDepth 100000 in
set_option maxHeartbeats 4000000 in
theorem rtxright_any (side acc n : Int) (A : Option Addr) (len cap : Nat) (ms : List M7) (w : World) (hr : Rd w A len ms) (hl : len ≤ 9223372036854775807) :
    Calls Try.prog 29 #[.agg #[.int .i64 side, .int .i64 acc, .int .u64 n, .slice A len cap]] w fun e w' => e = .returned (.bool (txright side acc ms)) ∧ Below w.heap.size w w' := by
  have hml := Lib.hid hr.1
  by_cases hs : side = 0 ∨ side = 1
  · by_cases ha : acc < 0
    · have HN := Lib.hid (show txright side acc ms = false by unfold txright; rw [decide_eq_false (by omega), Bool.false_and])
      rcases hs with rfl | rfl
      all_goals
        go_enter Try.func29, Try.ntmps29
        go_wp2
        go_ret
        exact ⟨by rw [HN.out]; rfl, (Below.refl _ _).alloc (Nat.le_refl _) _⟩
    · by_cases ha4 : 4 < acc
      · have HN := Lib.hid (show txright side acc ms = false by unfold txright; rw [decide_eq_false (by omega), Bool.false_and])
        rcases hs with rfl | rfl
        all_goals
          go_enter Try.func29, Try.ntmps29
          go_wp2
          go_ret
          exact ⟨by rw [HN.out]; rfl, (Below.refl _ _).alloc (Nat.le_refl _) _⟩
      · by_cases h8 : (8 : Int) < (len : Int)
        · have HN := Lib.hid (show txright side acc ms = false by unfold txright; rw [decide_eq_false (by have := hml.out; omega), Bool.false_and])
          rcases hs with rfl | rfl
          all_goals
            go_enter Try.func29, Try.ntmps29
            go_wp2
            go_ret
            exact ⟨by rw [HN.out]; rfl, (Below.refl _ _).alloc (Nat.le_refl _) _⟩
        · rcases hs with rfl | rfl
          · have HY := Lib.hid (show ms.all (mgood 0) = true → txright 0 acc ms = true from fun h => by unfold txright; rw [h, decide_eq_true (by have := hml.out; omega)]; rfl)
            have HF := Lib.hid (show ∀ m ∈ ms, mgood 0 m = false → txright 0 acc ms = false from fun m hm h => by
              unfold txright
              rw [show ms.all (mgood 0) = false from by rw [List.all_eq_false]; exact ⟨m, hm, by simp [h]⟩, Bool.and_false])
            go_enter Try.func29, Try.ntmps29

            go_wp2
            go_loopw [3] (fun i wr => ∃ k : Nat, i = .int .i64 (k : Int) ∧ k ≤ len ∧ Hid ((ms.take k).all (mgood 0) = true) ∧ Below w.heap.size w wr ∧ w.heap.size < wr.heap.size ∧ wr.cell? ⟨w.heap.size, 0, none⟩ = some (.int .i64 0) ∧ wr.cell? ⟨w.heap.size, 3, none⟩ = some (.slice A len cap)) (fun i _ => len - (intOf i).toNat)
            case atStart => exact ⟨0, rfl, Nat.zero_le _, Lib.hid rfl, (Below.refl _ _).alloc (Nat.le_refl _) _, by simp, by simp, by simp⟩
            case round =>
              obtain ⟨k, rfl, hk, hall, hb, hz, s0, s3⟩ := hrel
              by_cases hlt : k < len
              · obtain ⟨b, off, rfl, hbl, hc⟩ := hr.at hb (by omega)
                have hck := hc k hlt
                clear hc
                obtain ⟨m, hm⟩ : ∃ m, ms.getD k m0 = m := ⟨_, rfl⟩
                rw [hm] at hck
                have hkl : k < ms.length := by have := hml.out; omega
                have htk : ms.take (k + 1) = ms.take k ++ [m] := by
                  rw [List.take_succ_eq_append_getElem hkl, ← hm, List.getD_eq_getElem?_getD, List.getElem?_eq_getElem hkl]; rfl
                have HT := Lib.hid htk
                have HIN := Lib.hid (show m ∈ ms by rw [← hm, List.getD_eq_getElem?_getD, List.getElem?_eq_getElem hkl]; exact List.getElem_mem hkl)
                obtain ⟨c0, c1, c2, c3, c4, c5, c6⟩ := hck
                have hi0 : (0 : Int) ≤ (k : Int) := by omega
                have hkn : (k : Int) < (len : Int) := by omega
                have HB := Lib.hid hb
                have hTR : RR w b off len cap k m 0 wr := ⟨⟨hb, hz, hbl, s0, s3⟩, c0, c1, c2, c3, c4, c5, c6⟩
                have HR1 := Lib.hid fun W => rmright_any m W
                unfold M7.cells at HR1
                clear htk hm hkl hb c0 c1 c2 c3 c4 c5 c6
                by_cases hg : mright m = true
                · have HG := Lib.hid hg
                  clear hg
                  by_cases hs : mside m.k m.f = 0
                  · have HS := Lib.hid hs
                    clear hs
                    go_wp2
                    go_region_held3 (fun W => (Below w.heap.size w W ∧ w.heap.size < W.heap.size ∧ b < w.heap.size ∧ W.cell? ⟨w.heap.size, 0, none⟩ = some (.int .i64 0) ∧ W.cell? ⟨w.heap.size, 3, none⟩ = some (.slice (some ⟨b, off, none⟩) len cap)) ∧ W.cell? ⟨b, off + k * 7, none⟩ = some (.int .i64 m.k) ∧ W.cell? ⟨b, off + k * 7 + 1, none⟩ = some (.int .i64 m.c) ∧ W.cell? ⟨b, off + k * 7 + 2, none⟩ = some (.int .i64 m.f) ∧ W.cell? ⟨b, off + k * 7 + 3, none⟩ = some (.int .u64 m.s) ∧ W.cell? ⟨b, off + k * 7 + 4, none⟩ = some (.int .u64 m.t) ∧ W.cell? ⟨b, off + k * 7 + 5, none⟩ = some (.string m.d) ∧ W.cell? ⟨b, off + k * 7 + 6, none⟩ = some (.string m.a))
                      (first | assumption | exact hTR | exact RR.drew hTR | exact RR.drew (by assumption) | exact RR.call (by assumption) hbR | exact RR.call (RR.drew hTR) hbR | exact RR.call (by assumption) hbS)
                      (first
                        | (go_at_call 44; ((with_reducible refine (HR1.out _).mono ?_); rintro e wR ⟨rfl, hbR⟩; rw [HG.out]))
                        | (go_at_call 45; ((with_reducible refine (rside_any _ _ _ _ _ _ _ _).mono ?_); rintro e wS ⟨rfl, hbS⟩; rw [HS.out])))
                    go_wp2
                    obtain ⟨⟨hB, hz2, _, hs2, hs3⟩, _⟩ : (Below w.heap.size w wS ∧ w.heap.size < wS.heap.size ∧ b < w.heap.size ∧ wS.cell? ⟨w.heap.size, 0, none⟩ = some (.int .i64 0) ∧ wS.cell? ⟨w.heap.size, 3, none⟩ = some (.slice (some ⟨b, off, none⟩) len cap)) ∧ _ := by assumption
                    refine ⟨⟨k + 1, by go_num, by omega, Lib.hid ?_, hB, hz2, hs2, hs3⟩, by simp [intOf]; omega⟩
                    rw [HT.out, List.all_append, hall.out]
                    simp [mgood, HG.out, HS.out]
                  · have hne : (mside m.k m.f != 0) = true := by simpa using hs
                    have HS := Lib.hid hs
                    clear hs
                    go_wp2
                    go_region_held3 (fun W => (Below w.heap.size w W ∧ w.heap.size < W.heap.size ∧ b < w.heap.size ∧ W.cell? ⟨w.heap.size, 0, none⟩ = some (.int .i64 0) ∧ W.cell? ⟨w.heap.size, 3, none⟩ = some (.slice (some ⟨b, off, none⟩) len cap)) ∧ W.cell? ⟨b, off + k * 7, none⟩ = some (.int .i64 m.k) ∧ W.cell? ⟨b, off + k * 7 + 1, none⟩ = some (.int .i64 m.c) ∧ W.cell? ⟨b, off + k * 7 + 2, none⟩ = some (.int .i64 m.f) ∧ W.cell? ⟨b, off + k * 7 + 3, none⟩ = some (.int .u64 m.s) ∧ W.cell? ⟨b, off + k * 7 + 4, none⟩ = some (.int .u64 m.t) ∧ W.cell? ⟨b, off + k * 7 + 5, none⟩ = some (.string m.d) ∧ W.cell? ⟨b, off + k * 7 + 6, none⟩ = some (.string m.a))
                      (first | assumption | exact hTR | exact RR.drew hTR | exact RR.drew (by assumption) | exact RR.call (by assumption) hbR | exact RR.call (RR.drew hTR) hbR | exact RR.call (by assumption) hbS)
                      (first
                        | (go_at_call 44; ((with_reducible refine (HR1.out _).mono ?_); rintro e wR ⟨rfl, hbR⟩; rw [HG.out]))
                        | (go_at_call 45; ((with_reducible refine (rside_any _ _ _ _ _ _ _ _).mono ?_); rintro e wS ⟨rfl, hbS⟩)))
                    go_wp2
                    go_ret
                    obtain ⟨⟨hB, _⟩, _⟩ : (Below w.heap.size w wS ∧ w.heap.size < wS.heap.size ∧ b < w.heap.size ∧ wS.cell? ⟨w.heap.size, 0, none⟩ = some (.int .i64 0) ∧ wS.cell? ⟨w.heap.size, 3, none⟩ = some (.slice (some ⟨b, off, none⟩) len cap)) ∧ _ := by assumption
                    refine ⟨?_, hB⟩
                    rw [HF.out m HIN.out (by simp [mgood]; intro _; exact HS.out)]
                    rfl
                · have hg2 : mright m = false := by simpa using hg
                  have HG := Lib.hid hg2
                  clear hg hg2
                  go_wp2
                  refine wp_region_held_drew (S := fun W => (Below w.heap.size w W ∧ w.heap.size < W.heap.size ∧ b < w.heap.size ∧ W.cell? ⟨w.heap.size, 0, none⟩ = some (.int .i64 0) ∧ W.cell? ⟨w.heap.size, 3, none⟩ = some (.slice (some ⟨b, off, none⟩) len cap)) ∧ W.cell? ⟨b, off + k * 7, none⟩ = some (.int .i64 m.k) ∧ W.cell? ⟨b, off + k * 7 + 1, none⟩ = some (.int .i64 m.c) ∧ W.cell? ⟨b, off + k * 7 + 2, none⟩ = some (.int .i64 m.f) ∧ W.cell? ⟨b, off + k * 7 + 3, none⟩ = some (.int .u64 m.s) ∧ W.cell? ⟨b, off + k * 7 + 4, none⟩ = some (.int .u64 m.t) ∧ W.cell? ⟨b, off + k * 7 + 5, none⟩ = some (.string m.d) ∧ W.cell? ⟨b, off + k * 7 + 6, none⟩ = some (.string m.a)) (by kernel_rfl) hTR.drew (fun hHeld => ?_)
                  refine wpAnyH_take (i := 0) (oi := _) (v := ?_) rfl (by kernel_rfl) (by kernel_rfl) (by kernel_rfl) (fun _ _ _ h => h) (Or.inl ⟨by rfl, ?_⟩) (by assumption) ?_
                  rotate_left
                  · (intro W hSw; (try dsimp only at hSw); go_simp; try with_reducible rfl)
                  try simp only [Act.put, List.getElem_toArray, List.getElem_cons_zero, List.setIfInBounds_toArray, List.set_cons_zero, List.set_cons_succ]
                  refine wpAnyH_take (i := 1) (oi := _) (v := ?_) rfl (by kernel_rfl) (by kernel_rfl) (by kernel_rfl) (fun _ _ _ h => h) (Or.inl ⟨by rfl, ?_⟩) (by assumption) ?_
                  rotate_left
                  · (intro W hSw; (try dsimp only at hSw); go_simp; try with_reducible rfl)
                  try simp only [Act.put, List.getElem_toArray, List.getElem_cons_succ, List.getElem_cons_zero, List.setIfInBounds_toArray, List.set_cons_zero, List.set_cons_succ]
                  refine wpAnyH_take (i := 2) (oi := _) (v := ?_) rfl (by kernel_rfl) (by kernel_rfl) (by kernel_rfl) (fun _ _ _ h => h) (Or.inl ⟨by rfl, ?_⟩) (by assumption) ?_
                  rotate_left
                  · (intro W hSw; (try dsimp only at hSw); go_simp; try with_reducible rfl)
                  try simp only [Act.put, List.getElem_toArray, List.getElem_cons_succ, List.getElem_cons_zero, List.setIfInBounds_toArray, List.set_cons_zero, List.set_cons_succ]
                  refine wpAnyH_take (i := 3) (oi := _) (v := ?_) rfl (by kernel_rfl) (by kernel_rfl) (by kernel_rfl) (fun _ _ _ h => h) (Or.inl ⟨by rfl, ?_⟩) (by assumption) ?_
                  rotate_left
                  · (intro W hSw; (try dsimp only at hSw); go_simp; try with_reducible rfl)
                  try simp only [Act.put, List.getElem_toArray, List.getElem_cons_succ, List.getElem_cons_zero, List.setIfInBounds_toArray, List.set_cons_zero, List.set_cons_succ]
                  refine wpAnyH_take (i := 4) (oi := _) (v := ?_) rfl (by kernel_rfl) (by kernel_rfl) (by kernel_rfl) (fun _ _ _ h => h) (Or.inl ⟨by rfl, ?_⟩) (by assumption) ?_
                  rotate_left
                  · (intro W hSw; (try dsimp only at hSw); go_simp; try with_reducible rfl)
                  try simp only [Act.put, List.getElem_toArray, List.getElem_cons_succ, List.getElem_cons_zero, List.setIfInBounds_toArray, List.set_cons_zero, List.set_cons_succ]
                  refine wpAnyH_ready (rs := [5]) (by kernel_rfl) (by simp) ?_
                  refine AllReadyH.cons rfl (fun K hK => ?_) AllReadyH.nil
                  simp only [List.getElem_toArray, List.getElem_cons_succ, List.getElem_cons_zero]
                  rw [if_pos (by rfl)]
                  go_simp
                  go_at_call 44
                  refine (HR1.out _).mono ?_
                  rintro e wR ⟨rfl, hbR⟩
                  rw [HG.out]
                  go_wp2_with fail
                  refine hK.out _ _ (RR.call (RR.drew hTR) hbR) (fun hHeld => ?_)
                  clear hK K
                  try simp only [Act.put, List.getElem_toArray, List.getElem_cons_succ, List.getElem_cons_zero, List.setIfInBounds_toArray, List.set_cons_zero, List.set_cons_succ]
                  refine wpAnyH_take (i := 6) (oi := _) (v := ?_) rfl (by kernel_rfl) (by kernel_rfl) (by kernel_rfl) (fun _ _ _ h => h) (Or.inl ⟨by rfl, ?_⟩) (by assumption) ?_
                  rotate_left
                  · (intro W hSw; (try dsimp only at hSw); go_simp; try with_reducible rfl)
                  try simp only [Act.put, List.getElem_toArray, List.getElem_cons_succ, List.getElem_cons_zero, List.setIfInBounds_toArray, List.set_cons_zero, List.set_cons_succ]
                  refine wpAnyH_take (i := 7) (oi := _) (v := ?_) rfl (by kernel_rfl) (by kernel_rfl) (by kernel_rfl) (fun _ _ _ h => h) (Or.inl ⟨by rfl, ?_⟩) (by assumption) ?_
                  rotate_left
                  · (intro W hSw; (try dsimp only at hSw); go_simp; try with_reducible rfl)
                  try simp only [Act.put, List.getElem_toArray, List.getElem_cons_succ, List.getElem_cons_zero, List.setIfInBounds_toArray, List.set_cons_zero, List.set_cons_succ]
                  refine wpAnyH_take (i := 8) (oi := _) (v := undef) rfl (by kernel_rfl) (by kernel_rfl) (by kernel_rfl) (fun _ _ _ h => h) (Or.inr ⟨by rfl, rfl⟩) (by assumption) ?_
                  try simp only [Act.put, List.getElem_toArray, List.getElem_cons_succ, List.getElem_cons_zero, List.setIfInBounds_toArray, List.set_cons_zero, List.set_cons_succ]
                  refine wpAnyH_take (i := 9) (oi := _) (v := undef) rfl (by kernel_rfl) (by kernel_rfl) (by kernel_rfl) (fun _ _ _ h => h) (Or.inr ⟨by rfl, rfl⟩) (by assumption) ?_
                  try simp only [Act.put, List.getElem_toArray, List.getElem_cons_succ, List.getElem_cons_zero, List.setIfInBounds_toArray, List.set_cons_zero, List.set_cons_succ]
                  refine wpAnyH_take (i := 10) (oi := _) (v := undef) rfl (by kernel_rfl) (by kernel_rfl) (by kernel_rfl) (fun _ _ _ h => h) (Or.inr ⟨by rfl, rfl⟩) (by assumption) ?_
                  try simp only [Act.put, List.getElem_toArray, List.getElem_cons_succ, List.getElem_cons_zero, List.setIfInBounds_toArray, List.set_cons_zero, List.set_cons_succ]
                  refine wpAnyH_take (i := 11) (oi := _) (v := undef) rfl (by kernel_rfl) (by kernel_rfl) (by kernel_rfl) (fun _ _ _ h => h) (Or.inr ⟨by rfl, rfl⟩) (by assumption) ?_
                  try simp only [Act.put, List.getElem_toArray, List.getElem_cons_succ, List.getElem_cons_zero, List.setIfInBounds_toArray, List.set_cons_zero, List.set_cons_succ]
                  refine wpAnyH_take (i := 12) (oi := _) (v := undef) rfl (by kernel_rfl) (by kernel_rfl) (by kernel_rfl) (fun _ _ _ h => h) (Or.inr ⟨by rfl, rfl⟩) (by assumption) ?_
                  try simp only [Act.put, List.getElem_toArray, List.getElem_cons_succ, List.getElem_cons_zero, List.setIfInBounds_toArray, List.set_cons_zero, List.set_cons_succ]
                  refine wpAnyH_take (i := 14) (oi := _) (v := undef) rfl (by kernel_rfl) (by kernel_rfl) (by kernel_rfl) (fun _ _ _ h => h) (Or.inr ⟨by rfl, rfl⟩) (by assumption) ?_
                  try simp only [Act.put, List.getElem_toArray, List.getElem_cons_succ, List.getElem_cons_zero, List.setIfInBounds_toArray, List.set_cons_zero, List.set_cons_succ]
                  refine wpAnyH_take (i := 15) (oi := _) (v := undef) rfl (by kernel_rfl) (by kernel_rfl) (by kernel_rfl) (fun _ _ _ h => h) (Or.inr ⟨by rfl, rfl⟩) (by assumption) ?_
                  try simp only [Act.put, List.getElem_toArray, List.getElem_cons_succ, List.getElem_cons_zero, List.setIfInBounds_toArray, List.set_cons_zero, List.set_cons_succ]
                  refine wpAnyH_ready (rs := [13]) (by kernel_rfl) (by simp) ?_
                  refine AllReadyH.cons rfl (fun K hK => ?_) AllReadyH.nil
                  rw [if_neg (by intro h; have h2 : false = true := h; cases h2)]
                  refine hK.out _ _ (by assumption) (fun hHeld => ?_)
                  clear hK K
                  try simp only [Act.put, List.getElem_toArray, List.getElem_cons_succ, List.getElem_cons_zero, List.setIfInBounds_toArray, List.set_cons_zero, List.set_cons_succ]
                  refine wpAnyH_take (i := 16) (oi := _) (v := undef) rfl (by kernel_rfl) (by kernel_rfl) (by kernel_rfl) (fun _ _ _ h => h) (Or.inr ⟨by rfl, rfl⟩) (by assumption) ?_
                  try simp only [Act.put, List.getElem_toArray, List.getElem_cons_succ, List.getElem_cons_zero, List.setIfInBounds_toArray, List.set_cons_zero, List.set_cons_succ]
                  refine wpAnyH_take (i := 17) (oi := _) (v := ?_) rfl (by kernel_rfl) (by kernel_rfl) (by kernel_rfl) (fun _ _ _ h => h) (Or.inl ⟨by rfl, ?_⟩) (by assumption) ?_
                  rotate_left
                  · (intro W hSw; (try dsimp only at hSw); go_simp; try with_reducible rfl)
                  try simp only [Act.put, List.getElem_toArray, List.getElem_cons_succ, List.getElem_cons_zero, List.setIfInBounds_toArray, List.set_cons_zero, List.set_cons_succ]
                  refine wpAnyH_done (by kernel_rfl) ?_ _
                  have HBR := Lib.hid (RR.call (RR.drew hTR) hbR).1.1
                  clear hbR hTR
                  go_wp2
                  go_ret
                  refine ⟨?_, HBR.out⟩
                  rw [HF.out m HIN.out (by simp [mgood, HG.out])]
                  rfl
              · obtain rfl : k = len := by omega
                have HB := Lib.hid hb
                have hta : ms.all (mgood 0) = true := by
                  have := hall.out
                  rwa [List.take_of_length_le (by have := hml.out; omega)] at this
                have HTA := Lib.hid hta
                clear hta hb
                go_wp2
                go_ret
                refine ⟨?_, HB.out⟩
                rw [HY.out HTA.out]
                rfl
          · have HY := Lib.hid (show ms.all (mgood 1) = true → txright 1 acc ms = true from fun h => by unfold txright; rw [h, decide_eq_true (by have := hml.out; omega)]; rfl)
            have HF := Lib.hid (show ∀ m ∈ ms, mgood 1 m = false → txright 1 acc ms = false from fun m hm h => by
              unfold txright
              rw [show ms.all (mgood 1) = false from by rw [List.all_eq_false]; exact ⟨m, hm, by simp [h]⟩, Bool.and_false])
            go_enter Try.func29, Try.ntmps29

            go_wp2
            go_loopw [3] (fun i wr => ∃ k : Nat, i = .int .i64 (k : Int) ∧ k ≤ len ∧ Hid ((ms.take k).all (mgood 1) = true) ∧ Below w.heap.size w wr ∧ w.heap.size < wr.heap.size ∧ wr.cell? ⟨w.heap.size, 0, none⟩ = some (.int .i64 1) ∧ wr.cell? ⟨w.heap.size, 3, none⟩ = some (.slice A len cap)) (fun i _ => len - (intOf i).toNat)
            case atStart => exact ⟨0, rfl, Nat.zero_le _, Lib.hid rfl, (Below.refl _ _).alloc (Nat.le_refl _) _, by simp, by simp, by simp⟩
            case round =>
              obtain ⟨k, rfl, hk, hall, hb, hz, s0, s3⟩ := hrel
              by_cases hlt : k < len
              · obtain ⟨b, off, rfl, hbl, hc⟩ := hr.at hb (by omega)
                have hck := hc k hlt
                clear hc
                obtain ⟨m, hm⟩ : ∃ m, ms.getD k m0 = m := ⟨_, rfl⟩
                rw [hm] at hck
                have hkl : k < ms.length := by have := hml.out; omega
                have htk : ms.take (k + 1) = ms.take k ++ [m] := by
                  rw [List.take_succ_eq_append_getElem hkl, ← hm, List.getD_eq_getElem?_getD, List.getElem?_eq_getElem hkl]; rfl
                have HT := Lib.hid htk
                have HIN := Lib.hid (show m ∈ ms by rw [← hm, List.getD_eq_getElem?_getD, List.getElem?_eq_getElem hkl]; exact List.getElem_mem hkl)
                obtain ⟨c0, c1, c2, c3, c4, c5, c6⟩ := hck
                have hi0 : (0 : Int) ≤ (k : Int) := by omega
                have hkn : (k : Int) < (len : Int) := by omega
                have HB := Lib.hid hb
                have hTR : RR w b off len cap k m 1 wr := ⟨⟨hb, hz, hbl, s0, s3⟩, c0, c1, c2, c3, c4, c5, c6⟩
                have HR1 := Lib.hid fun W => rmright_any m W
                unfold M7.cells at HR1
                clear htk hm hkl hb c0 c1 c2 c3 c4 c5 c6
                by_cases hg : mright m = true
                · have HG := Lib.hid hg
                  clear hg
                  by_cases hs : mside m.k m.f = 1
                  · have HS := Lib.hid hs
                    clear hs
                    go_wp2
                    go_region_held3 (fun W => (Below w.heap.size w W ∧ w.heap.size < W.heap.size ∧ b < w.heap.size ∧ W.cell? ⟨w.heap.size, 0, none⟩ = some (.int .i64 1) ∧ W.cell? ⟨w.heap.size, 3, none⟩ = some (.slice (some ⟨b, off, none⟩) len cap)) ∧ W.cell? ⟨b, off + k * 7, none⟩ = some (.int .i64 m.k) ∧ W.cell? ⟨b, off + k * 7 + 1, none⟩ = some (.int .i64 m.c) ∧ W.cell? ⟨b, off + k * 7 + 2, none⟩ = some (.int .i64 m.f) ∧ W.cell? ⟨b, off + k * 7 + 3, none⟩ = some (.int .u64 m.s) ∧ W.cell? ⟨b, off + k * 7 + 4, none⟩ = some (.int .u64 m.t) ∧ W.cell? ⟨b, off + k * 7 + 5, none⟩ = some (.string m.d) ∧ W.cell? ⟨b, off + k * 7 + 6, none⟩ = some (.string m.a))
                      (first | assumption | exact hTR | exact RR.drew hTR | exact RR.drew (by assumption) | exact RR.call (by assumption) hbR | exact RR.call (RR.drew hTR) hbR | exact RR.call (by assumption) hbS)
                      (first
                        | (go_at_call 44; ((with_reducible refine (HR1.out _).mono ?_); rintro e wR ⟨rfl, hbR⟩; rw [HG.out]))
                        | (go_at_call 45; ((with_reducible refine (rside_any _ _ _ _ _ _ _ _).mono ?_); rintro e wS ⟨rfl, hbS⟩; rw [HS.out])))
                    go_wp2
                    obtain ⟨⟨hB, hz2, _, hs2, hs3⟩, _⟩ : (Below w.heap.size w wS ∧ w.heap.size < wS.heap.size ∧ b < w.heap.size ∧ wS.cell? ⟨w.heap.size, 0, none⟩ = some (.int .i64 1) ∧ wS.cell? ⟨w.heap.size, 3, none⟩ = some (.slice (some ⟨b, off, none⟩) len cap)) ∧ _ := by assumption
                    refine ⟨⟨k + 1, by go_num, by omega, Lib.hid ?_, hB, hz2, hs2, hs3⟩, by simp [intOf]; omega⟩
                    rw [HT.out, List.all_append, hall.out]
                    simp [mgood, HG.out, HS.out]
                  · have hne : (mside m.k m.f != 1) = true := by simpa using hs
                    have HS := Lib.hid hs
                    clear hs
                    go_wp2
                    go_region_held3 (fun W => (Below w.heap.size w W ∧ w.heap.size < W.heap.size ∧ b < w.heap.size ∧ W.cell? ⟨w.heap.size, 0, none⟩ = some (.int .i64 1) ∧ W.cell? ⟨w.heap.size, 3, none⟩ = some (.slice (some ⟨b, off, none⟩) len cap)) ∧ W.cell? ⟨b, off + k * 7, none⟩ = some (.int .i64 m.k) ∧ W.cell? ⟨b, off + k * 7 + 1, none⟩ = some (.int .i64 m.c) ∧ W.cell? ⟨b, off + k * 7 + 2, none⟩ = some (.int .i64 m.f) ∧ W.cell? ⟨b, off + k * 7 + 3, none⟩ = some (.int .u64 m.s) ∧ W.cell? ⟨b, off + k * 7 + 4, none⟩ = some (.int .u64 m.t) ∧ W.cell? ⟨b, off + k * 7 + 5, none⟩ = some (.string m.d) ∧ W.cell? ⟨b, off + k * 7 + 6, none⟩ = some (.string m.a))
                      (first | assumption | exact hTR | exact RR.drew hTR | exact RR.drew (by assumption) | exact RR.call (by assumption) hbR | exact RR.call (RR.drew hTR) hbR | exact RR.call (by assumption) hbS)
                      (first
                        | (go_at_call 44; ((with_reducible refine (HR1.out _).mono ?_); rintro e wR ⟨rfl, hbR⟩; rw [HG.out]))
                        | (go_at_call 45; ((with_reducible refine (rside_any _ _ _ _ _ _ _ _).mono ?_); rintro e wS ⟨rfl, hbS⟩)))
                    go_wp2
                    go_ret
                    obtain ⟨⟨hB, _⟩, _⟩ : (Below w.heap.size w wS ∧ w.heap.size < wS.heap.size ∧ b < w.heap.size ∧ wS.cell? ⟨w.heap.size, 0, none⟩ = some (.int .i64 1) ∧ wS.cell? ⟨w.heap.size, 3, none⟩ = some (.slice (some ⟨b, off, none⟩) len cap)) ∧ _ := by assumption
                    refine ⟨?_, hB⟩
                    rw [HF.out m HIN.out (by simp [mgood]; intro _; exact HS.out)]
                    rfl
                · have hg2 : mright m = false := by simpa using hg
                  have HG := Lib.hid hg2
                  clear hg hg2
                  go_wp2
                  refine wp_region_held_drew (S := fun W => (Below w.heap.size w W ∧ w.heap.size < W.heap.size ∧ b < w.heap.size ∧ W.cell? ⟨w.heap.size, 0, none⟩ = some (.int .i64 1) ∧ W.cell? ⟨w.heap.size, 3, none⟩ = some (.slice (some ⟨b, off, none⟩) len cap)) ∧ W.cell? ⟨b, off + k * 7, none⟩ = some (.int .i64 m.k) ∧ W.cell? ⟨b, off + k * 7 + 1, none⟩ = some (.int .i64 m.c) ∧ W.cell? ⟨b, off + k * 7 + 2, none⟩ = some (.int .i64 m.f) ∧ W.cell? ⟨b, off + k * 7 + 3, none⟩ = some (.int .u64 m.s) ∧ W.cell? ⟨b, off + k * 7 + 4, none⟩ = some (.int .u64 m.t) ∧ W.cell? ⟨b, off + k * 7 + 5, none⟩ = some (.string m.d) ∧ W.cell? ⟨b, off + k * 7 + 6, none⟩ = some (.string m.a)) (by kernel_rfl) hTR.drew (fun hHeld => ?_)
                  refine wpAnyH_take (i := 0) (oi := _) (v := ?_) rfl (by kernel_rfl) (by kernel_rfl) (by kernel_rfl) (fun _ _ _ h => h) (Or.inl ⟨by rfl, ?_⟩) (by assumption) ?_
                  rotate_left
                  · (intro W hSw; (try dsimp only at hSw); go_simp; try with_reducible rfl)
                  try simp only [Act.put, List.getElem_toArray, List.getElem_cons_zero, List.setIfInBounds_toArray, List.set_cons_zero, List.set_cons_succ]
                  refine wpAnyH_take (i := 1) (oi := _) (v := ?_) rfl (by kernel_rfl) (by kernel_rfl) (by kernel_rfl) (fun _ _ _ h => h) (Or.inl ⟨by rfl, ?_⟩) (by assumption) ?_
                  rotate_left
                  · (intro W hSw; (try dsimp only at hSw); go_simp; try with_reducible rfl)
                  try simp only [Act.put, List.getElem_toArray, List.getElem_cons_succ, List.getElem_cons_zero, List.setIfInBounds_toArray, List.set_cons_zero, List.set_cons_succ]
                  refine wpAnyH_take (i := 2) (oi := _) (v := ?_) rfl (by kernel_rfl) (by kernel_rfl) (by kernel_rfl) (fun _ _ _ h => h) (Or.inl ⟨by rfl, ?_⟩) (by assumption) ?_
                  rotate_left
                  · (intro W hSw; (try dsimp only at hSw); go_simp; try with_reducible rfl)
                  try simp only [Act.put, List.getElem_toArray, List.getElem_cons_succ, List.getElem_cons_zero, List.setIfInBounds_toArray, List.set_cons_zero, List.set_cons_succ]
                  refine wpAnyH_take (i := 3) (oi := _) (v := ?_) rfl (by kernel_rfl) (by kernel_rfl) (by kernel_rfl) (fun _ _ _ h => h) (Or.inl ⟨by rfl, ?_⟩) (by assumption) ?_
                  rotate_left
                  · (intro W hSw; (try dsimp only at hSw); go_simp; try with_reducible rfl)
                  try simp only [Act.put, List.getElem_toArray, List.getElem_cons_succ, List.getElem_cons_zero, List.setIfInBounds_toArray, List.set_cons_zero, List.set_cons_succ]
                  refine wpAnyH_take (i := 4) (oi := _) (v := ?_) rfl (by kernel_rfl) (by kernel_rfl) (by kernel_rfl) (fun _ _ _ h => h) (Or.inl ⟨by rfl, ?_⟩) (by assumption) ?_
                  rotate_left
                  · (intro W hSw; (try dsimp only at hSw); go_simp; try with_reducible rfl)
                  try simp only [Act.put, List.getElem_toArray, List.getElem_cons_succ, List.getElem_cons_zero, List.setIfInBounds_toArray, List.set_cons_zero, List.set_cons_succ]
                  refine wpAnyH_ready (rs := [5]) (by kernel_rfl) (by simp) ?_
                  refine AllReadyH.cons rfl (fun K hK => ?_) AllReadyH.nil
                  simp only [List.getElem_toArray, List.getElem_cons_succ, List.getElem_cons_zero]
                  rw [if_pos (by rfl)]
                  go_simp
                  go_at_call 44
                  refine (HR1.out _).mono ?_
                  rintro e wR ⟨rfl, hbR⟩
                  rw [HG.out]
                  go_wp2_with fail
                  refine hK.out _ _ (RR.call (RR.drew hTR) hbR) (fun hHeld => ?_)
                  clear hK K
                  try simp only [Act.put, List.getElem_toArray, List.getElem_cons_succ, List.getElem_cons_zero, List.setIfInBounds_toArray, List.set_cons_zero, List.set_cons_succ]
                  refine wpAnyH_take (i := 6) (oi := _) (v := ?_) rfl (by kernel_rfl) (by kernel_rfl) (by kernel_rfl) (fun _ _ _ h => h) (Or.inl ⟨by rfl, ?_⟩) (by assumption) ?_
                  rotate_left
                  · (intro W hSw; (try dsimp only at hSw); go_simp; try with_reducible rfl)
                  try simp only [Act.put, List.getElem_toArray, List.getElem_cons_succ, List.getElem_cons_zero, List.setIfInBounds_toArray, List.set_cons_zero, List.set_cons_succ]
                  refine wpAnyH_take (i := 7) (oi := _) (v := ?_) rfl (by kernel_rfl) (by kernel_rfl) (by kernel_rfl) (fun _ _ _ h => h) (Or.inl ⟨by rfl, ?_⟩) (by assumption) ?_
                  rotate_left
                  · (intro W hSw; (try dsimp only at hSw); go_simp; try with_reducible rfl)
                  try simp only [Act.put, List.getElem_toArray, List.getElem_cons_succ, List.getElem_cons_zero, List.setIfInBounds_toArray, List.set_cons_zero, List.set_cons_succ]
                  refine wpAnyH_take (i := 8) (oi := _) (v := undef) rfl (by kernel_rfl) (by kernel_rfl) (by kernel_rfl) (fun _ _ _ h => h) (Or.inr ⟨by rfl, rfl⟩) (by assumption) ?_
                  try simp only [Act.put, List.getElem_toArray, List.getElem_cons_succ, List.getElem_cons_zero, List.setIfInBounds_toArray, List.set_cons_zero, List.set_cons_succ]
                  refine wpAnyH_take (i := 9) (oi := _) (v := undef) rfl (by kernel_rfl) (by kernel_rfl) (by kernel_rfl) (fun _ _ _ h => h) (Or.inr ⟨by rfl, rfl⟩) (by assumption) ?_
                  try simp only [Act.put, List.getElem_toArray, List.getElem_cons_succ, List.getElem_cons_zero, List.setIfInBounds_toArray, List.set_cons_zero, List.set_cons_succ]
                  refine wpAnyH_take (i := 10) (oi := _) (v := undef) rfl (by kernel_rfl) (by kernel_rfl) (by kernel_rfl) (fun _ _ _ h => h) (Or.inr ⟨by rfl, rfl⟩) (by assumption) ?_
                  try simp only [Act.put, List.getElem_toArray, List.getElem_cons_succ, List.getElem_cons_zero, List.setIfInBounds_toArray, List.set_cons_zero, List.set_cons_succ]
                  refine wpAnyH_take (i := 11) (oi := _) (v := undef) rfl (by kernel_rfl) (by kernel_rfl) (by kernel_rfl) (fun _ _ _ h => h) (Or.inr ⟨by rfl, rfl⟩) (by assumption) ?_
                  try simp only [Act.put, List.getElem_toArray, List.getElem_cons_succ, List.getElem_cons_zero, List.setIfInBounds_toArray, List.set_cons_zero, List.set_cons_succ]
                  refine wpAnyH_take (i := 12) (oi := _) (v := undef) rfl (by kernel_rfl) (by kernel_rfl) (by kernel_rfl) (fun _ _ _ h => h) (Or.inr ⟨by rfl, rfl⟩) (by assumption) ?_
                  try simp only [Act.put, List.getElem_toArray, List.getElem_cons_succ, List.getElem_cons_zero, List.setIfInBounds_toArray, List.set_cons_zero, List.set_cons_succ]
                  refine wpAnyH_take (i := 14) (oi := _) (v := undef) rfl (by kernel_rfl) (by kernel_rfl) (by kernel_rfl) (fun _ _ _ h => h) (Or.inr ⟨by rfl, rfl⟩) (by assumption) ?_
                  try simp only [Act.put, List.getElem_toArray, List.getElem_cons_succ, List.getElem_cons_zero, List.setIfInBounds_toArray, List.set_cons_zero, List.set_cons_succ]
                  refine wpAnyH_take (i := 15) (oi := _) (v := undef) rfl (by kernel_rfl) (by kernel_rfl) (by kernel_rfl) (fun _ _ _ h => h) (Or.inr ⟨by rfl, rfl⟩) (by assumption) ?_
                  try simp only [Act.put, List.getElem_toArray, List.getElem_cons_succ, List.getElem_cons_zero, List.setIfInBounds_toArray, List.set_cons_zero, List.set_cons_succ]
                  refine wpAnyH_ready (rs := [13]) (by kernel_rfl) (by simp) ?_
                  refine AllReadyH.cons rfl (fun K hK => ?_) AllReadyH.nil
                  rw [if_neg (by intro h; have h2 : false = true := h; cases h2)]
                  refine hK.out _ _ (by assumption) (fun hHeld => ?_)
                  clear hK K
                  try simp only [Act.put, List.getElem_toArray, List.getElem_cons_succ, List.getElem_cons_zero, List.setIfInBounds_toArray, List.set_cons_zero, List.set_cons_succ]
                  refine wpAnyH_take (i := 16) (oi := _) (v := undef) rfl (by kernel_rfl) (by kernel_rfl) (by kernel_rfl) (fun _ _ _ h => h) (Or.inr ⟨by rfl, rfl⟩) (by assumption) ?_
                  try simp only [Act.put, List.getElem_toArray, List.getElem_cons_succ, List.getElem_cons_zero, List.setIfInBounds_toArray, List.set_cons_zero, List.set_cons_succ]
                  refine wpAnyH_take (i := 17) (oi := _) (v := ?_) rfl (by kernel_rfl) (by kernel_rfl) (by kernel_rfl) (fun _ _ _ h => h) (Or.inl ⟨by rfl, ?_⟩) (by assumption) ?_
                  rotate_left
                  · (intro W hSw; (try dsimp only at hSw); go_simp; try with_reducible rfl)
                  try simp only [Act.put, List.getElem_toArray, List.getElem_cons_succ, List.getElem_cons_zero, List.setIfInBounds_toArray, List.set_cons_zero, List.set_cons_succ]
                  refine wpAnyH_done (by kernel_rfl) ?_ _
                  have HBR := Lib.hid (RR.call (RR.drew hTR) hbR).1.1
                  clear hbR hTR
                  go_wp2
                  go_ret
                  refine ⟨?_, HBR.out⟩
                  rw [HF.out m HIN.out (by simp [mgood, HG.out])]
                  rfl
              · obtain rfl : k = len := by omega
                have HB := Lib.hid hb
                have hta : ms.all (mgood 1) = true := by
                  have := hall.out
                  rwa [List.take_of_length_le (by have := hml.out; omega)] at this
                have HTA := Lib.hid hta
                clear hta hb
                go_wp2
                go_ret
                refine ⟨?_, HB.out⟩
                rw [HY.out HTA.out]
                rfl
  · have HN := Lib.hid (show txright side acc ms = false by unfold txright; rw [decide_eq_false (by omega), Bool.false_and])
    by_cases h0 : side < 0
    · clear hs
      go_enter Try.func29, Try.ntmps29
      go_wp2
      go_ret
      exact ⟨by rw [HN.out]; rfl, (Below.refl _ _).alloc (Nat.le_refl _) _⟩
    · have h1 : 1 < side := by omega
      clear hs
      go_enter Try.func29, Try.ntmps29
      go_wp2
      go_ret
      exact ⟨by rw [HN.out]; rfl, (Below.refl _ _).alloc (Nat.le_refl _) _⟩
end Go.Proofs.Ytfalmebgjghjeab.Msg
