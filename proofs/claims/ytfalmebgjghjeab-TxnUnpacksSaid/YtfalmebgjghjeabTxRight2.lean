/- txn.Right: the walk. -/
import Derived.Test.YtfalmebgjghjeabTxRight
namespace Go.Proofs.Ytfalmebgjghjeab.Msg
open Go Go.RowKit

set_option maxRecDepth 100000 in
set_option maxHeartbeats 4000000 in
theorem txright_any (side acc n : Int) (A : Option Addr) (len cap : Nat) (ms : List M7) (w : World) (hr : Rd w A len ms) (hl : len ≤ 9223372036854775807) :
    Calls Try.prog 15 #[.agg #[.int .i64 side, .int .i64 acc, .int .u64 n, .slice A len cap]] w fun e w' => e = .returned (.bool (txright side acc ms)) ∧ Below w.heap.size w w' := by
  have hml := Lib.hid hr.1
  by_cases hs : side = 0 ∨ side = 1
  · by_cases ha : acc < 0
    · have HN := Lib.hid (show txright side acc ms = false by unfold txright; rw [decide_eq_false (by omega), Bool.false_and])
      rcases hs with rfl | rfl
      all_goals
        go_enter Try.func15, Try.ntmps15
        go_wp2
        go_ret
        exact ⟨by rw [HN.out]; rfl, (Below.refl _ _).alloc (Nat.le_refl _) _⟩
    · by_cases ha4 : 4 < acc
      · have HN := Lib.hid (show txright side acc ms = false by unfold txright; rw [decide_eq_false (by omega), Bool.false_and])
        rcases hs with rfl | rfl
        all_goals
          go_enter Try.func15, Try.ntmps15
          go_wp2
          go_ret
          exact ⟨by rw [HN.out]; rfl, (Below.refl _ _).alloc (Nat.le_refl _) _⟩
      · by_cases h8 : (8 : Int) < (len : Int)
        · have HN := Lib.hid (show txright side acc ms = false by unfold txright; rw [decide_eq_false (by have := hml.out; omega), Bool.false_and])
          rcases hs with rfl | rfl
          all_goals
            go_enter Try.func15, Try.ntmps15
            go_wp2
            go_ret
            exact ⟨by rw [HN.out]; rfl, (Below.refl _ _).alloc (Nat.le_refl _) _⟩
        · rcases hs with rfl | rfl
          · have HY := Lib.hid (show ms.all (mgood 0) = true → txright 0 acc ms = true from fun h => by unfold txright; rw [h, decide_eq_true (by have := hml.out; omega)]; rfl)
            have HF := Lib.hid (show ∀ m ∈ ms, mgood 0 m = false → txright 0 acc ms = false from fun m hm h => by
              unfold txright
              rw [show ms.all (mgood 0) = false from by rw [List.all_eq_false]; exact ⟨m, hm, by simp [h]⟩, Bool.and_false])
            go_enter Try.func15, Try.ntmps15

            go_wp2
            go_loopw [32] (fun i wr => ∃ k : Nat, i = .int .i64 (k : Int) ∧ k ≤ len ∧ Hid ((ms.take k).all (mgood 0) = true) ∧ Below w.heap.size w wr ∧ w.heap.size < wr.heap.size ∧ wr.cell? ⟨w.heap.size, 0, none⟩ = some (.int .i64 0)) (fun i _ => len - (intOf i).toNat)
            case atStart => exact ⟨0, rfl, Nat.zero_le _, Lib.hid rfl, (Below.refl _ _).alloc (Nat.le_refl _) _, by simp, by simp⟩
            case round =>
              obtain ⟨k, rfl, hk, hall, hb, hz, s0⟩ := hrel
              by_cases hlt : k < len
              · obtain ⟨b, off, rfl, hbl, hc⟩ := hr.at hb (by omega)
                have hck := hc k hlt
                clear hc
                obtain ⟨m, hm⟩ : ∃ m, ms.getD k m0 = m := ⟨_, rfl⟩
                rw [hm] at hck
                have hkl : k < ms.length := by have := hml.out; omega
                have htk : ms.take (k + 1) = ms.take k ++ [m] := by
                  rw [List.take_succ_eq_append_getElem hkl, ← hm, List.getD_eq_getElem?_getD, List.getElem?_eq_getElem hkl]; rfl
                have HT := Lib.hid htk
                have HIN := Lib.hid (show m ∈ ms by rw [← hm, List.getD_eq_getElem?_getD, List.getElem?_eq_getElem hkl]; exact List.getElem_mem hkl)
                obtain ⟨c0, c1, c2, c3, c4, c5, c6⟩ := hck
                have hi0 : (0 : Int) ≤ (k : Int) := by omega
                have hkn : (k : Int) < (len : Int) := by omega
                have HB := Lib.hid hb
                have hTR : TR w wr.heap.size m 0 (wr.alloc (.cells #[.int .i64 m.k, .int .i64 m.c, .int .i64 m.f, .int .u64 m.s, .int .u64 m.t, .string m.d, .string m.a] 50)) := by
                  obtain ⟨x0, x1, x2, x3, x4, x5, x6⟩ := BoxM.cells (W := wr.alloc (.cells m.cells 50)) (heap_alloc_new wr _)
                  exact ⟨⟨hb.alloc hb.size _, by simp; omega, by simp, (World.cell?_alloc_lt wr _ ⟨w.heap.size, 0, none⟩ hz).trans s0⟩, x0, x1, x2, x3, x4, x5, x6⟩
                have HR1 := Lib.hid fun W => mright_any m W
                unfold M7.cells at HR1
                clear htk hm hkl hb
                by_cases hg : mright m = true
                · have HG := Lib.hid hg
                  clear hg
                  by_cases hs : mside m.k m.f = 0
                  · have HS := Lib.hid hs
                    clear hs
                    go_wp2
                    go_region_held3 (fun W => (Below w.heap.size w W ∧ w.heap.size < W.heap.size ∧ wr.heap.size < W.heap.size ∧ W.cell? ⟨w.heap.size, 0, none⟩ = some (.int .i64 0)) ∧ W.cell? ⟨wr.heap.size, 0, none⟩ = some (.int .i64 m.k) ∧ W.cell? ⟨wr.heap.size, 1, none⟩ = some (.int .i64 m.c) ∧ W.cell? ⟨wr.heap.size, 2, none⟩ = some (.int .i64 m.f) ∧ W.cell? ⟨wr.heap.size, 3, none⟩ = some (.int .u64 m.s) ∧ W.cell? ⟨wr.heap.size, 4, none⟩ = some (.int .u64 m.t) ∧ W.cell? ⟨wr.heap.size, 5, none⟩ = some (.string m.d) ∧ W.cell? ⟨wr.heap.size, 6, none⟩ = some (.string m.a))
                      (first | assumption | exact hTR | exact TR.drew hTR | exact TR.drew (by assumption) | exact TR.call (by assumption) hbR | exact TR.call (TR.drew hTR) hbR | exact TR.call (by assumption) hbS)
                      (first
                        | (go_at_call 31; ((with_reducible refine (HR1.out _).mono ?_); rintro e wR ⟨rfl, hbR⟩; rw [HG.out]))
                        | (go_at_call 32; ((with_reducible refine (side_any _ _ _ _ _ _ _ _).mono ?_); rintro e wS ⟨rfl, hbS⟩; rw [HS.out])))
                    go_wp2
                    obtain ⟨⟨hB, hz2, _, hs2⟩, _⟩ : (Below w.heap.size w wS ∧ w.heap.size < wS.heap.size ∧ wr.heap.size < wS.heap.size ∧ wS.cell? ⟨w.heap.size, 0, none⟩ = some (.int .i64 0)) ∧ _ := by assumption
                    refine ⟨⟨k + 1, by go_num, by omega, Lib.hid ?_, hB, hz2, hs2⟩, by simp [intOf]; omega⟩
                    rw [HT.out, List.all_append, hall.out]
                    simp [mgood, HG.out, HS.out]
                  · have hne : (mside m.k m.f != 0) = true := by simpa using hs
                    have HS := Lib.hid hs
                    clear hs
                    go_wp2
                    go_region_held3 (fun W => (Below w.heap.size w W ∧ w.heap.size < W.heap.size ∧ wr.heap.size < W.heap.size ∧ W.cell? ⟨w.heap.size, 0, none⟩ = some (.int .i64 0)) ∧ W.cell? ⟨wr.heap.size, 0, none⟩ = some (.int .i64 m.k) ∧ W.cell? ⟨wr.heap.size, 1, none⟩ = some (.int .i64 m.c) ∧ W.cell? ⟨wr.heap.size, 2, none⟩ = some (.int .i64 m.f) ∧ W.cell? ⟨wr.heap.size, 3, none⟩ = some (.int .u64 m.s) ∧ W.cell? ⟨wr.heap.size, 4, none⟩ = some (.int .u64 m.t) ∧ W.cell? ⟨wr.heap.size, 5, none⟩ = some (.string m.d) ∧ W.cell? ⟨wr.heap.size, 6, none⟩ = some (.string m.a))
                      (first | assumption | exact hTR | exact TR.drew hTR | exact TR.drew (by assumption) | exact TR.call (by assumption) hbR | exact TR.call (TR.drew hTR) hbR | exact TR.call (by assumption) hbS)
                      (first
                        | (go_at_call 31; ((with_reducible refine (HR1.out _).mono ?_); rintro e wR ⟨rfl, hbR⟩; rw [HG.out]))
                        | (go_at_call 32; ((with_reducible refine (side_any _ _ _ _ _ _ _ _).mono ?_); rintro e wS ⟨rfl, hbS⟩)))
                    go_wp2
                    go_ret
                    obtain ⟨⟨hB, _⟩, _⟩ : (Below w.heap.size w wS ∧ w.heap.size < wS.heap.size ∧ wr.heap.size < wS.heap.size ∧ wS.cell? ⟨w.heap.size, 0, none⟩ = some (.int .i64 0)) ∧ _ := by assumption
                    refine ⟨?_, hB⟩
                    rw [HF.out m HIN.out (by simp [mgood]; intro _; exact HS.out)]
                    rfl
                · have hg2 : mright m = false := by simpa using hg
                  have HG := Lib.hid hg2
                  clear hg hg2
                  go_wp2
                  refine wp_region_held_drew (S := fun W => (Below w.heap.size w W ∧ w.heap.size < W.heap.size ∧ wr.heap.size < W.heap.size ∧ W.cell? ⟨w.heap.size, 0, none⟩ = some (.int .i64 0)) ∧ W.cell? ⟨wr.heap.size, 0, none⟩ = some (.int .i64 m.k) ∧ W.cell? ⟨wr.heap.size, 1, none⟩ = some (.int .i64 m.c) ∧ W.cell? ⟨wr.heap.size, 2, none⟩ = some (.int .i64 m.f) ∧ W.cell? ⟨wr.heap.size, 3, none⟩ = some (.int .u64 m.s) ∧ W.cell? ⟨wr.heap.size, 4, none⟩ = some (.int .u64 m.t) ∧ W.cell? ⟨wr.heap.size, 5, none⟩ = some (.string m.d) ∧ W.cell? ⟨wr.heap.size, 6, none⟩ = some (.string m.a)) (by kernel_rfl) hTR.drew (fun hHeld => ?_)
                  refine wpAnyH_take (i := 0) (oi := _) (v := ?_) rfl (by kernel_rfl) (by kernel_rfl) (by kernel_rfl) (fun _ _ _ h => h) (Or.inl ⟨by rfl, ?_⟩) (by assumption) ?_
                  rotate_left
                  · (intro W hSw; (try dsimp only at hSw); go_simp; try with_reducible rfl)
                  try simp only [Act.put, List.getElem_toArray, List.getElem_cons_zero, List.setIfInBounds_toArray, List.set_cons_zero, List.set_cons_succ]
                  refine wpAnyH_ready (rs := [1]) (by kernel_rfl) (by simp) ?_
                  refine AllReadyH.cons rfl (fun K hK => ?_) AllReadyH.nil
                  simp only [List.getElem_toArray, List.getElem_cons_succ, List.getElem_cons_zero]
                  rw [if_pos (by rfl)]
                  go_simp
                  go_at_call 31
                  refine (HR1.out _).mono ?_
                  rintro e wR ⟨rfl, hbR⟩
                  rw [HG.out]
                  go_wp2_with fail
                  refine hK.out _ _ (TR.call (TR.drew hTR) hbR) (fun hHeld => ?_)
                  clear hK K
                  try simp only [Act.put, List.getElem_toArray, List.getElem_cons_succ, List.getElem_cons_zero, List.setIfInBounds_toArray, List.set_cons_zero, List.set_cons_succ]
                  refine wpAnyH_take (i := 2) (oi := _) (v := ?_) rfl (by kernel_rfl) (by kernel_rfl) (by kernel_rfl) (fun _ _ _ h => h) (Or.inl ⟨by rfl, ?_⟩) (by assumption) ?_
                  rotate_left
                  · (intro W hSw; (try dsimp only at hSw); go_simp; try with_reducible rfl)
                  try simp only [Act.put, List.getElem_toArray, List.getElem_cons_succ, List.getElem_cons_zero, List.setIfInBounds_toArray, List.set_cons_zero, List.set_cons_succ]
                  refine wpAnyH_take (i := 3) (oi := _) (v := ?_) rfl (by kernel_rfl) (by kernel_rfl) (by kernel_rfl) (fun _ _ _ h => h) (Or.inl ⟨by rfl, ?_⟩) (by assumption) ?_
                  rotate_left
                  · (intro W hSw; (try dsimp only at hSw); go_simp; try with_reducible rfl)
                  try simp only [Act.put, List.getElem_toArray, List.getElem_cons_succ, List.getElem_cons_zero, List.setIfInBounds_toArray, List.set_cons_zero, List.set_cons_succ]
                  refine wpAnyH_take (i := 4) (oi := _) (v := undef) rfl (by kernel_rfl) (by kernel_rfl) (by kernel_rfl) (fun _ _ _ h => h) (Or.inr ⟨by rfl, rfl⟩) (by assumption) ?_
                  try simp only [Act.put, List.getElem_toArray, List.getElem_cons_succ, List.getElem_cons_zero, List.setIfInBounds_toArray, List.set_cons_zero, List.set_cons_succ]
                  refine wpAnyH_take (i := 6) (oi := _) (v := undef) rfl (by kernel_rfl) (by kernel_rfl) (by kernel_rfl) (fun _ _ _ h => h) (Or.inr ⟨by rfl, rfl⟩) (by assumption) ?_
                  try simp only [Act.put, List.getElem_toArray, List.getElem_cons_succ, List.getElem_cons_zero, List.setIfInBounds_toArray, List.set_cons_zero, List.set_cons_succ]
                  refine wpAnyH_take (i := 7) (oi := _) (v := undef) rfl (by kernel_rfl) (by kernel_rfl) (by kernel_rfl) (fun _ _ _ h => h) (Or.inr ⟨by rfl, rfl⟩) (by assumption) ?_
                  try simp only [Act.put, List.getElem_toArray, List.getElem_cons_succ, List.getElem_cons_zero, List.setIfInBounds_toArray, List.set_cons_zero, List.set_cons_succ]
                  refine wpAnyH_ready (rs := [5]) (by kernel_rfl) (by simp) ?_
                  refine AllReadyH.cons rfl (fun K hK => ?_) AllReadyH.nil
                  rw [if_neg (by intro h; have h2 : false = true := h; cases h2)]
                  refine hK.out _ _ (by assumption) (fun hHeld => ?_)
                  clear hK K
                  try simp only [Act.put, List.getElem_toArray, List.getElem_cons_succ, List.getElem_cons_zero, List.setIfInBounds_toArray, List.set_cons_zero, List.set_cons_succ]
                  refine wpAnyH_take (i := 8) (oi := _) (v := undef) rfl (by kernel_rfl) (by kernel_rfl) (by kernel_rfl) (fun _ _ _ h => h) (Or.inr ⟨by rfl, rfl⟩) (by assumption) ?_
                  try simp only [Act.put, List.getElem_toArray, List.getElem_cons_succ, List.getElem_cons_zero, List.setIfInBounds_toArray, List.set_cons_zero, List.set_cons_succ]
                  refine wpAnyH_take (i := 9) (oi := _) (v := ?_) rfl (by kernel_rfl) (by kernel_rfl) (by kernel_rfl) (fun _ _ _ h => h) (Or.inl ⟨by rfl, ?_⟩) (by assumption) ?_
                  rotate_left
                  · (intro W hSw; (try dsimp only at hSw); go_simp; try with_reducible rfl)
                  try simp only [Act.put, List.getElem_toArray, List.getElem_cons_succ, List.getElem_cons_zero, List.setIfInBounds_toArray, List.set_cons_zero, List.set_cons_succ]
                  refine wpAnyH_done (by kernel_rfl) ?_ _
                  have HBR := Lib.hid (TR.call (TR.drew hTR) hbR).1.1
                  clear hbR hTR
                  go_wp2
                  go_ret
                  refine ⟨?_, HBR.out⟩
                  rw [HF.out m HIN.out (by simp [mgood, HG.out])]
                  rfl
              · obtain rfl : k = len := by omega
                have HB := Lib.hid hb
                have hta : ms.all (mgood 0) = true := by
                  have := hall.out
                  rwa [List.take_of_length_le (by have := hml.out; omega)] at this
                have HTA := Lib.hid hta
                clear hta hb
                go_wp2
                go_ret
                refine ⟨?_, HB.out⟩
                rw [HY.out HTA.out]
                rfl
          · have HY := Lib.hid (show ms.all (mgood 1) = true → txright 1 acc ms = true from fun h => by unfold txright; rw [h, decide_eq_true (by have := hml.out; omega)]; rfl)
            have HF := Lib.hid (show ∀ m ∈ ms, mgood 1 m = false → txright 1 acc ms = false from fun m hm h => by
              unfold txright
              rw [show ms.all (mgood 1) = false from by rw [List.all_eq_false]; exact ⟨m, hm, by simp [h]⟩, Bool.and_false])
            go_enter Try.func15, Try.ntmps15

            go_wp2
            go_loopw [32] (fun i wr => ∃ k : Nat, i = .int .i64 (k : Int) ∧ k ≤ len ∧ Hid ((ms.take k).all (mgood 1) = true) ∧ Below w.heap.size w wr ∧ w.heap.size < wr.heap.size ∧ wr.cell? ⟨w.heap.size, 0, none⟩ = some (.int .i64 1)) (fun i _ => len - (intOf i).toNat)
            case atStart => exact ⟨0, rfl, Nat.zero_le _, Lib.hid rfl, (Below.refl _ _).alloc (Nat.le_refl _) _, by simp, by simp⟩
            case round =>
              obtain ⟨k, rfl, hk, hall, hb, hz, s0⟩ := hrel
              by_cases hlt : k < len
              · obtain ⟨b, off, rfl, hbl, hc⟩ := hr.at hb (by omega)
                have hck := hc k hlt
                clear hc
                obtain ⟨m, hm⟩ : ∃ m, ms.getD k m0 = m := ⟨_, rfl⟩
                rw [hm] at hck
                have hkl : k < ms.length := by have := hml.out; omega
                have htk : ms.take (k + 1) = ms.take k ++ [m] := by
                  rw [List.take_succ_eq_append_getElem hkl, ← hm, List.getD_eq_getElem?_getD, List.getElem?_eq_getElem hkl]; rfl
                have HT := Lib.hid htk
                have HIN := Lib.hid (show m ∈ ms by rw [← hm, List.getD_eq_getElem?_getD, List.getElem?_eq_getElem hkl]; exact List.getElem_mem hkl)
                obtain ⟨c0, c1, c2, c3, c4, c5, c6⟩ := hck
                have hi0 : (0 : Int) ≤ (k : Int) := by omega
                have hkn : (k : Int) < (len : Int) := by omega
                have HB := Lib.hid hb
                have hTR : TR w wr.heap.size m 1 (wr.alloc (.cells #[.int .i64 m.k, .int .i64 m.c, .int .i64 m.f, .int .u64 m.s, .int .u64 m.t, .string m.d, .string m.a] 50)) := by
                  obtain ⟨x0, x1, x2, x3, x4, x5, x6⟩ := BoxM.cells (W := wr.alloc (.cells m.cells 50)) (heap_alloc_new wr _)
                  exact ⟨⟨hb.alloc hb.size _, by simp; omega, by simp, (World.cell?_alloc_lt wr _ ⟨w.heap.size, 0, none⟩ hz).trans s0⟩, x0, x1, x2, x3, x4, x5, x6⟩
                have HR1 := Lib.hid fun W => mright_any m W
                unfold M7.cells at HR1
                clear htk hm hkl hb
                by_cases hg : mright m = true
                · have HG := Lib.hid hg
                  clear hg
                  by_cases hs : mside m.k m.f = 1
                  · have HS := Lib.hid hs
                    clear hs
                    go_wp2
                    go_region_held3 (fun W => (Below w.heap.size w W ∧ w.heap.size < W.heap.size ∧ wr.heap.size < W.heap.size ∧ W.cell? ⟨w.heap.size, 0, none⟩ = some (.int .i64 1)) ∧ W.cell? ⟨wr.heap.size, 0, none⟩ = some (.int .i64 m.k) ∧ W.cell? ⟨wr.heap.size, 1, none⟩ = some (.int .i64 m.c) ∧ W.cell? ⟨wr.heap.size, 2, none⟩ = some (.int .i64 m.f) ∧ W.cell? ⟨wr.heap.size, 3, none⟩ = some (.int .u64 m.s) ∧ W.cell? ⟨wr.heap.size, 4, none⟩ = some (.int .u64 m.t) ∧ W.cell? ⟨wr.heap.size, 5, none⟩ = some (.string m.d) ∧ W.cell? ⟨wr.heap.size, 6, none⟩ = some (.string m.a))
                      (first | assumption | exact hTR | exact TR.drew hTR | exact TR.drew (by assumption) | exact TR.call (by assumption) hbR | exact TR.call (TR.drew hTR) hbR | exact TR.call (by assumption) hbS)
                      (first
                        | (go_at_call 31; ((with_reducible refine (HR1.out _).mono ?_); rintro e wR ⟨rfl, hbR⟩; rw [HG.out]))
                        | (go_at_call 32; ((with_reducible refine (side_any _ _ _ _ _ _ _ _).mono ?_); rintro e wS ⟨rfl, hbS⟩; rw [HS.out])))
                    go_wp2
                    obtain ⟨⟨hB, hz2, _, hs2⟩, _⟩ : (Below w.heap.size w wS ∧ w.heap.size < wS.heap.size ∧ wr.heap.size < wS.heap.size ∧ wS.cell? ⟨w.heap.size, 0, none⟩ = some (.int .i64 1)) ∧ _ := by assumption
                    refine ⟨⟨k + 1, by go_num, by omega, Lib.hid ?_, hB, hz2, hs2⟩, by simp [intOf]; omega⟩
                    rw [HT.out, List.all_append, hall.out]
                    simp [mgood, HG.out, HS.out]
                  · have hne : (mside m.k m.f != 1) = true := by simpa using hs
                    have HS := Lib.hid hs
                    clear hs
                    go_wp2
                    go_region_held3 (fun W => (Below w.heap.size w W ∧ w.heap.size < W.heap.size ∧ wr.heap.size < W.heap.size ∧ W.cell? ⟨w.heap.size, 0, none⟩ = some (.int .i64 1)) ∧ W.cell? ⟨wr.heap.size, 0, none⟩ = some (.int .i64 m.k) ∧ W.cell? ⟨wr.heap.size, 1, none⟩ = some (.int .i64 m.c) ∧ W.cell? ⟨wr.heap.size, 2, none⟩ = some (.int .i64 m.f) ∧ W.cell? ⟨wr.heap.size, 3, none⟩ = some (.int .u64 m.s) ∧ W.cell? ⟨wr.heap.size, 4, none⟩ = some (.int .u64 m.t) ∧ W.cell? ⟨wr.heap.size, 5, none⟩ = some (.string m.d) ∧ W.cell? ⟨wr.heap.size, 6, none⟩ = some (.string m.a))
                      (first | assumption | exact hTR | exact TR.drew hTR | exact TR.drew (by assumption) | exact TR.call (by assumption) hbR | exact TR.call (TR.drew hTR) hbR | exact TR.call (by assumption) hbS)
                      (first
                        | (go_at_call 31; ((with_reducible refine (HR1.out _).mono ?_); rintro e wR ⟨rfl, hbR⟩; rw [HG.out]))
                        | (go_at_call 32; ((with_reducible refine (side_any _ _ _ _ _ _ _ _).mono ?_); rintro e wS ⟨rfl, hbS⟩)))
                    go_wp2
                    go_ret
                    obtain ⟨⟨hB, _⟩, _⟩ : (Below w.heap.size w wS ∧ w.heap.size < wS.heap.size ∧ wr.heap.size < wS.heap.size ∧ wS.cell? ⟨w.heap.size, 0, none⟩ = some (.int .i64 1)) ∧ _ := by assumption
                    refine ⟨?_, hB⟩
                    rw [HF.out m HIN.out (by simp [mgood]; intro _; exact HS.out)]
                    rfl
                · have hg2 : mright m = false := by simpa using hg
                  have HG := Lib.hid hg2
                  clear hg hg2
                  go_wp2
                  refine wp_region_held_drew (S := fun W => (Below w.heap.size w W ∧ w.heap.size < W.heap.size ∧ wr.heap.size < W.heap.size ∧ W.cell? ⟨w.heap.size, 0, none⟩ = some (.int .i64 1)) ∧ W.cell? ⟨wr.heap.size, 0, none⟩ = some (.int .i64 m.k) ∧ W.cell? ⟨wr.heap.size, 1, none⟩ = some (.int .i64 m.c) ∧ W.cell? ⟨wr.heap.size, 2, none⟩ = some (.int .i64 m.f) ∧ W.cell? ⟨wr.heap.size, 3, none⟩ = some (.int .u64 m.s) ∧ W.cell? ⟨wr.heap.size, 4, none⟩ = some (.int .u64 m.t) ∧ W.cell? ⟨wr.heap.size, 5, none⟩ = some (.string m.d) ∧ W.cell? ⟨wr.heap.size, 6, none⟩ = some (.string m.a)) (by kernel_rfl) hTR.drew (fun hHeld => ?_)
                  refine wpAnyH_take (i := 0) (oi := _) (v := ?_) rfl (by kernel_rfl) (by kernel_rfl) (by kernel_rfl) (fun _ _ _ h => h) (Or.inl ⟨by rfl, ?_⟩) (by assumption) ?_
                  rotate_left
                  · (intro W hSw; (try dsimp only at hSw); go_simp; try with_reducible rfl)
                  try simp only [Act.put, List.getElem_toArray, List.getElem_cons_zero, List.setIfInBounds_toArray, List.set_cons_zero, List.set_cons_succ]
                  refine wpAnyH_ready (rs := [1]) (by kernel_rfl) (by simp) ?_
                  refine AllReadyH.cons rfl (fun K hK => ?_) AllReadyH.nil
                  simp only [List.getElem_toArray, List.getElem_cons_succ, List.getElem_cons_zero]
                  rw [if_pos (by rfl)]
                  go_simp
                  go_at_call 31
                  refine (HR1.out _).mono ?_
                  rintro e wR ⟨rfl, hbR⟩
                  rw [HG.out]
                  go_wp2_with fail
                  refine hK.out _ _ (TR.call (TR.drew hTR) hbR) (fun hHeld => ?_)
                  clear hK K
                  try simp only [Act.put, List.getElem_toArray, List.getElem_cons_succ, List.getElem_cons_zero, List.setIfInBounds_toArray, List.set_cons_zero, List.set_cons_succ]
                  refine wpAnyH_take (i := 2) (oi := _) (v := ?_) rfl (by kernel_rfl) (by kernel_rfl) (by kernel_rfl) (fun _ _ _ h => h) (Or.inl ⟨by rfl, ?_⟩) (by assumption) ?_
                  rotate_left
                  · (intro W hSw; (try dsimp only at hSw); go_simp; try with_reducible rfl)
                  try simp only [Act.put, List.getElem_toArray, List.getElem_cons_succ, List.getElem_cons_zero, List.setIfInBounds_toArray, List.set_cons_zero, List.set_cons_succ]
                  refine wpAnyH_take (i := 3) (oi := _) (v := ?_) rfl (by kernel_rfl) (by kernel_rfl) (by kernel_rfl) (fun _ _ _ h => h) (Or.inl ⟨by rfl, ?_⟩) (by assumption) ?_
                  rotate_left
                  · (intro W hSw; (try dsimp only at hSw); go_simp; try with_reducible rfl)
                  try simp only [Act.put, List.getElem_toArray, List.getElem_cons_succ, List.getElem_cons_zero, List.setIfInBounds_toArray, List.set_cons_zero, List.set_cons_succ]
                  refine wpAnyH_take (i := 4) (oi := _) (v := undef) rfl (by kernel_rfl) (by kernel_rfl) (by kernel_rfl) (fun _ _ _ h => h) (Or.inr ⟨by rfl, rfl⟩) (by assumption) ?_
                  try simp only [Act.put, List.getElem_toArray, List.getElem_cons_succ, List.getElem_cons_zero, List.setIfInBounds_toArray, List.set_cons_zero, List.set_cons_succ]
                  refine wpAnyH_take (i := 6) (oi := _) (v := undef) rfl (by kernel_rfl) (by kernel_rfl) (by kernel_rfl) (fun _ _ _ h => h) (Or.inr ⟨by rfl, rfl⟩) (by assumption) ?_
                  try simp only [Act.put, List.getElem_toArray, List.getElem_cons_succ, List.getElem_cons_zero, List.setIfInBounds_toArray, List.set_cons_zero, List.set_cons_succ]
                  refine wpAnyH_take (i := 7) (oi := _) (v := undef) rfl (by kernel_rfl) (by kernel_rfl) (by kernel_rfl) (fun _ _ _ h => h) (Or.inr ⟨by rfl, rfl⟩) (by assumption) ?_
                  try simp only [Act.put, List.getElem_toArray, List.getElem_cons_succ, List.getElem_cons_zero, List.setIfInBounds_toArray, List.set_cons_zero, List.set_cons_succ]
                  refine wpAnyH_ready (rs := [5]) (by kernel_rfl) (by simp) ?_
                  refine AllReadyH.cons rfl (fun K hK => ?_) AllReadyH.nil
                  rw [if_neg (by intro h; have h2 : false = true := h; cases h2)]
                  refine hK.out _ _ (by assumption) (fun hHeld => ?_)
                  clear hK K
                  try simp only [Act.put, List.getElem_toArray, List.getElem_cons_succ, List.getElem_cons_zero, List.setIfInBounds_toArray, List.set_cons_zero, List.set_cons_succ]
                  refine wpAnyH_take (i := 8) (oi := _) (v := undef) rfl (by kernel_rfl) (by kernel_rfl) (by kernel_rfl) (fun _ _ _ h => h) (Or.inr ⟨by rfl, rfl⟩) (by assumption) ?_
                  try simp only [Act.put, List.getElem_toArray, List.getElem_cons_succ, List.getElem_cons_zero, List.setIfInBounds_toArray, List.set_cons_zero, List.set_cons_succ]
                  refine wpAnyH_take (i := 9) (oi := _) (v := ?_) rfl (by kernel_rfl) (by kernel_rfl) (by kernel_rfl) (fun _ _ _ h => h) (Or.inl ⟨by rfl, ?_⟩) (by assumption) ?_
                  rotate_left
                  · (intro W hSw; (try dsimp only at hSw); go_simp; try with_reducible rfl)
                  try simp only [Act.put, List.getElem_toArray, List.getElem_cons_succ, List.getElem_cons_zero, List.setIfInBounds_toArray, List.set_cons_zero, List.set_cons_succ]
                  refine wpAnyH_done (by kernel_rfl) ?_ _
                  have HBR := Lib.hid (TR.call (TR.drew hTR) hbR).1.1
                  clear hbR hTR
                  go_wp2
                  go_ret
                  refine ⟨?_, HBR.out⟩
                  rw [HF.out m HIN.out (by simp [mgood, HG.out])]
                  rfl
              · obtain rfl : k = len := by omega
                have HB := Lib.hid hb
                have hta : ms.all (mgood 1) = true := by
                  have := hall.out
                  rwa [List.take_of_length_le (by have := hml.out; omega)] at this
                have HTA := Lib.hid hta
                clear hta hb
                go_wp2
                go_ret
                refine ⟨?_, HB.out⟩
                rw [HY.out HTA.out]
                rfl
  · have HN := Lib.hid (show txright side acc ms = false by unfold txright; rw [decide_eq_false (by omega), Bool.false_and])
    have q0 : (side != 0) = true := by simp; omega
    have q1 : (side != 1) = true := by simp; omega
    clear hs
    go_enter Try.func15, Try.ntmps15
    go_wp2
    go_ret
    exact ⟨by rw [HN.out]; rfl, (Below.refl _ _).alloc (Nat.le_refl _) _⟩
end Go.Proofs.Ytfalmebgjghjeab.Msg
