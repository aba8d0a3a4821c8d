/- LinePlays: whether an end has all that the document's has. -/
import Derived.Test.YtdljphbfbiganaaGreatDoorTk
import Derived.Test.YtdljphbfbiganaaGreatDoorPlWait
namespace Go.Proofs.YtdljphbfbiganaaGreatDoor.Pl
open Go Go.RowKit Packet Mg Lg Ln
set_option linter.unusedVariables false
set_option linter.unusedSimpArgs false

theorem own_belowU {V V' : World} {base n : Nat} {e k : Nat} {v : Value} {xs : List Value} (h : V.ownsRow base e k v n xs) (hb : Below V.heap.size V V') : V'.ownsRow base e k v n xs := by
  refine ⟨h.1, ?_⟩
  rcases h.2 with h2 | ⟨g, cap, cur, hv, hg, hh, r⟩
  · exact .inl h2
  · exact .inr ⟨g, cap, cur, hv, hg, (hb.block g (lt_of hh)).trans hh, r⟩
theorem own_cellU {V : World} {base n c : Nat} {A : Option Addr} {Z : List Int} (h : V.ownsRow base TUu 1 (.slice A n c) n (uuc Z)) (hn : n = Z.length) (hn0 : 0 < n) : ∃ g, A = some ⟨g, 0, none⟩ ∧ g < V.heap.size ∧ ∀ i (hi : i < Z.length), V.cell? ⟨g, i, none⟩ = some (.int .u64 Z[i]) := by
  rcases h.2 with ⟨_, h0⟩ | ⟨g, cap, cur, hv, hg, hh, hnc, hcm, hcz, ht⟩
  · omega
  · injection hv with hv1 hv2 hv3
    refine ⟨g, hv1, lt_of hh, fun i hi => ?_⟩
    rw [cell_of_row V g i cur _ (0, 0) hh]
    have := congrArg (fun z : List Value => z[i]?) ht
    simp only [List.getElem?_take, uuc, List.getElem?_map] at this
    rw [if_pos (by omega), List.getElem?_eq_getElem hi] at this
    rw [← Array.getElem?_toList]
    exact this
theorem lt_of_nodup {Z : List Int} (h1 : Z.Pairwise (· ≤ ·)) (h2 : Z.Nodup) : Z.Pairwise (· < ·) := (h1.and h2).imp fun ⟨a, b⟩ => by have : ¬ _ = _ := b; omega
theorem lk_nodup : ∀ (L : List (Int × Array Value)) (_ : (L.map (·.1)).Nodup) (i : Nat) (h : i < L.length), Mg.lk (L[i]).1 L = some (L[i]).2
  | x :: L, hn, 0, _ => by unfold Mg.lk; simp
  | x :: L, hn, i + 1, h => by
    have hn' := List.nodup_cons.1 (show (x.1 :: L.map (·.1)).Nodup from hn)
    have hi : i < L.length := by simpa using h
    unfold Mg.lk
    have hne : ¬ ((x :: L)[i + 1]).1 = x.1 := fun e => hn'.1 (by rw [← e]; exact List.mem_map.2 ⟨L[i], List.getElem_mem hi, rfl⟩)
    rw [if_neg hne]
    exact lk_nodup L hn'.2 i hi
theorem lk_mem : ∀ (L : List (Int × Array Value)) (k : Int), k ∈ L.map (·.1) → (Mg.lk k L).isSome = true
  | [], _, h => by simp at h
  | x :: L, k, h => by
    unfold Mg.lk
    by_cases e : k = x.1
    · rw [if_pos e]; rfl
    · rw [if_neg e]
      exact lk_mem L k (by simp only [List.map_cons, List.mem_cons] at h; exact h.resolve_left e)
theorem ordered_g {W : World} {E M N : Nat} {s : St} (h : LG W E M N s) : Calls Tryz.prog 35 #[.pointer (some ⟨E, 0, none⟩)] W fun e w' => e = .returned (.bool s.o) ∧ w' = W := by
  obtain ⟨c0, c1, c2, c3, c4, c5, c6, c7, c8, cf⟩ := h.cells
  clear h
  go_enter Tryz.func35, Tryz.ntmps35
  go_wp2
  go_ret
  exact ⟨rfl, rfl⟩
theorem closed_g {W : World} {E M N : Nat} {s : St} (h : LG W E M N s) : Calls Tryz.prog 36 #[.pointer (some ⟨E, 0, none⟩)] W fun e w' => e = .returned (.bool s.cl) ∧ w' = W := by
  obtain ⟨c0, c1, c2, c3, c4, c5, c6, c7, c8, cf⟩ := h.cells
  clear h
  go_enter Tryz.func36, Tryz.ntmps36
  go_wp2
  go_ret
  exact ⟨rfl, rfl⟩
set_option maxRecDepth 20000 in
set_option maxHeartbeats 8000000 in
theorem next_g {W : World} {E M N : Nat} {s : St} (h : LG W E M N s) : Calls Tryz.prog 34 #[.pointer (some ⟨E, 0, none⟩)] W fun e w' => e = .returned (.tuple #[.int .u64 s.sn, .int .u64 s.rc, .int .u64 s.ak]) ∧ Below W.heap.size W w' := by
  obtain ⟨c0, c1, c2, c3, c4, c5, c6, c7, c8, cf⟩ := h.cells
  clear h
  go_enter Tryz.func34, Tryz.ntmps34
  go_wp2
  go_quiet (fail)
  go_wp2
  refine bodyPost_ret (v := .tuple #[.int .u64 s.sn, .int .u64 s.rc, .int .u64 s.ak]) (by simp [results, Tryz.results34, go_sem]) rfl ?_
  exact ⟨rfl, ⟨rfl, rfl, rfl, Nat.le_refl _, fun _ _ => rfl⟩⟩
theorem lgp_below {b0 B : Nat} {s : St} {Ac Aa : Option Addr} {mc cc ma ca : Nat} {W : World} {E M N : Nat} {V : World} (h : LG W E M N s ∧ PN b0 W B s Ac mc cc Aa ma ca) (hb : Below W.heap.size W V) : LG V E M N s ∧ PN b0 V B s Ac mc cc Aa ma ca := ⟨h.1.below hb, h.2.below hb⟩
set_option maxRecDepth 20000 in
set_option maxHeartbeats 8000000 in
theorem same_any {b0 B : Nat} {s : St} {Ac Aa : Option Addr} {mc cc ma ca : Nat} {W : World} {E M N : Nat} (hL : LG W E M N s) (hP : PN b0 W B s Ac mc cc Aa ma ca) (hm : s.cm.length ≤ 1000000) (hma : s.ac.length ≤ 1000000) (hn : (s.cm.map (·.1)).Nodup) (hna : (s.ac.map (·.1)).Nodup) :
    Calls Tryz.prog 16 #[.pointer (some ⟨E, 0, none⟩), .pointer (some ⟨B, 0, none⟩)] W fun e w' => e = .returned (.bool true) ∧ Below W.heap.size W w' := by
  have H0 := Lib.hid (And.intro hL hP)
  have HM := Lib.hid hm
  have HMa := Lib.hid hma
  have HN := Lib.hid hn
  have HNa := Lib.hid hna
  clear hL hP hm hma hn hna
  go_enter Tryz.func16, Tryz.ntmps16
  go_wp2_with fail
  refine (next_g H0.out.1).mono ?_
  rintro _ w1 ⟨rfl, b1⟩
  have H1 := Lib.hid (lgp_below H0.out b1)
  have HB1 := Lib.hid b1
  clear b1 H0
  go_upto_region 2 with fail
  have H1d := Lib.hid (lgp_below H1.out (Below.refl _ _).drew)
  refine wp_region_held_drew (S := (fun V => LG V E M N s ∧ PN b0 V B s Ac mc cc Aa ma ca)) (by kernel_rfl) H1d.out (fun hHeld => ?_)
  refine tk (i := 0) (v := ?_) rfl (by kernel_rfl) (fun _ _ _ h => h) (by rfl) ?_ (by assumption) ?_
  rotate_left
  · (intro W hSw; obtain ⟨c0, c1, c2, c3, c4, c5, c6, c7, c8, cf⟩ := hSw.1.cells; have hy := hSw.2.cells; go_simp; try with_reducible rfl)
  try simp only [Act.put, gA, gZ, sA, sZ, sS]
  refine tk (i := 2) (v := ?_) rfl (by kernel_rfl) (fun _ _ _ h => h) (by rfl) ?_ (by assumption) ?_
  rotate_left
  · (intro W hSw; obtain ⟨c0, c1, c2, c3, c4, c5, c6, c7, c8, cf⟩ := hSw.1.cells; have hy := hSw.2.cells; go_simp; try with_reducible rfl)
  try simp only [Act.put, gA, gS, gZ, sA, sZ, sS]
  refine tk (i := 3) (v := ?_) rfl (by kernel_rfl) (fun _ _ _ h => h) (by rfl) ?_ (by assumption) ?_
  rotate_left
  · (intro W hSw; obtain ⟨c0, c1, c2, c3, c4, c5, c6, c7, c8, cf⟩ := hSw.1.cells; have hy := hSw.2.cells; go_simp; try with_reducible rfl)
  try simp only [Act.put, gA, gS, gZ, sA, sZ, sS]
  refine tk (i := 4) (v := ?_) rfl (by kernel_rfl) (fun _ _ _ h => h) (by rfl) ?_ (by assumption) ?_
  rotate_left
  · (intro W hSw; obtain ⟨c0, c1, c2, c3, c4, c5, c6, c7, c8, cf⟩ := hSw.1.cells; have hy := hSw.2.cells; go_simp; try with_reducible rfl)
  try simp only [Act.put, gA, gS, gZ, sA, sZ, sS]
  refine tk (i := 5) (v := ?_) rfl (by kernel_rfl) (fun _ _ _ h => h) (by rfl) ?_ (by assumption) ?_
  rotate_left
  · (intro W hSw; obtain ⟨c0, c1, c2, c3, c4, c5, c6, c7, c8, cf⟩ := hSw.1.cells; have hy := hSw.2.cells; go_simp; try with_reducible rfl)
  try simp only [Act.put, gA, gS, gZ, sA, sZ, sS]
  refine wpAnyH_ready (rs := [1]) (by kernel_rfl) (by simp) ?_
  refine AllReadyH.cons rfl (fun K hK => ?_) AllReadyH.nil
  simp only [gA, gS, gZ]
  rw [if_pos (by rfl)]
  go_simp
  (refine (ordered_g hHeld.1).mono ?_; rintro e w1 ⟨rfl, hw⟩; obtain rfl := hw.symm; clear hw)
  go_wp2_with fail
  refine hK.out _ _ hHeld (fun hHeld => ?_)
  clear hK K
  try simp only [Act.put, gA, gS, gZ, sA, sZ, sS]
  refine tk (i := 6) (v := ?_) rfl (by kernel_rfl) (fun _ _ _ h => h) (by rfl) ?_ (by assumption) ?_
  rotate_left
  · (intro W hSw; obtain ⟨c0, c1, c2, c3, c4, c5, c6, c7, c8, cf⟩ := hSw.1.cells; have hy := hSw.2.cells; go_simp; try with_reducible rfl)
  try simp only [Act.put, gA, gS, gZ, sA, sZ, sS]
  refine tk (i := 7) (v := ?_) rfl (by kernel_rfl) (fun _ _ _ h => h) (by rfl) ?_ (by assumption) ?_
  rotate_left
  · (intro W hSw; obtain ⟨c0, c1, c2, c3, c4, c5, c6, c7, c8, cf⟩ := hSw.1.cells; have hy := hSw.2.cells; go_simp; try with_reducible rfl)
  try simp only [Act.put, gA, gS, gZ, sA, sZ, sS]
  refine tk (i := 8) (v := ?_) rfl (by kernel_rfl) (fun _ _ _ h => h) (by rfl) ?_ (by assumption) ?_
  rotate_left
  · (intro W hSw; obtain ⟨c0, c1, c2, c3, c4, c5, c6, c7, c8, cf⟩ := hSw.1.cells; have hy := hSw.2.cells; go_simp; try with_reducible rfl)
  try simp only [Act.put, gA, gS, gZ, sA, sZ, sS]
  refine tk (i := 10) (v := ?_) rfl (by kernel_rfl) (fun _ _ _ h => h) (by rfl) ?_ (by assumption) ?_
  rotate_left
  · (intro W hSw; obtain ⟨c0, c1, c2, c3, c4, c5, c6, c7, c8, cf⟩ := hSw.1.cells; have hy := hSw.2.cells; go_simp; try with_reducible rfl)
  try simp only [Act.put, gA, gS, gZ, sA, sZ, sS]
  refine tk (i := 11) (v := ?_) rfl (by kernel_rfl) (fun _ _ _ h => h) (by rfl) ?_ (by assumption) ?_
  rotate_left
  · (intro W hSw; obtain ⟨c0, c1, c2, c3, c4, c5, c6, c7, c8, cf⟩ := hSw.1.cells; have hy := hSw.2.cells; go_simp; try with_reducible rfl)
  try simp only [Act.put, gA, gS, gZ, sA, sZ, sS]
  refine tk (i := 12) (v := ?_) rfl (by kernel_rfl) (fun _ _ _ h => h) (by rfl) ?_ (by assumption) ?_
  rotate_left
  · (intro W hSw; obtain ⟨c0, c1, c2, c3, c4, c5, c6, c7, c8, cf⟩ := hSw.1.cells; have hy := hSw.2.cells; go_simp; try with_reducible rfl)
  try simp only [Act.put, gA, gS, gZ, sA, sZ, sS]
  refine tk (i := 13) (v := ?_) rfl (by kernel_rfl) (fun _ _ _ h => h) (by rfl) ?_ (by assumption) ?_
  rotate_left
  · (intro W hSw; obtain ⟨c0, c1, c2, c3, c4, c5, c6, c7, c8, cf⟩ := hSw.1.cells; have hy := hSw.2.cells; go_simp; try with_reducible rfl)
  try simp only [Act.put, gA, gS, gZ, sA, sZ, sS]
  refine wpAnyH_ready (rs := [9]) (by kernel_rfl) (by simp) ?_
  refine AllReadyH.cons rfl (fun K hK => ?_) AllReadyH.nil
  simp only [gA, gS, gZ]
  rw [if_pos (by rfl)]
  go_simp
  (refine (closed_g hHeld.1).mono ?_; rintro e w1 ⟨rfl, hw⟩; obtain rfl := hw.symm; clear hw)
  go_wp2_with fail
  refine hK.out _ _ hHeld (fun hHeld => ?_)
  clear hK K
  try simp only [Act.put, gA, gS, gZ, sA, sZ, sS]
  refine tk (i := 14) (v := ?_) rfl (by kernel_rfl) (fun _ _ _ h => h) (by rfl) ?_ (by assumption) ?_
  rotate_left
  · (intro W hSw; obtain ⟨c0, c1, c2, c3, c4, c5, c6, c7, c8, cf⟩ := hSw.1.cells; have hy := hSw.2.cells; go_simp; try with_reducible rfl)
  try simp only [Act.put, gA, gS, gZ, sA, sZ, sS]
  refine tk (i := 15) (v := ?_) rfl (by kernel_rfl) (fun _ _ _ h => h) (by rfl) ?_ (by assumption) ?_
  rotate_left
  · (intro W hSw; obtain ⟨c0, c1, c2, c3, c4, c5, c6, c7, c8, cf⟩ := hSw.1.cells; have hy := hSw.2.cells; go_simp; try with_reducible rfl)
  try simp only [Act.put, gA, gS, gZ, sA, sZ, sS]
  refine tk (i := 16) (v := ?_) rfl (by kernel_rfl) (fun _ _ _ h => h) (by rfl) ?_ (by assumption) ?_
  rotate_left
  · (intro W hSw; obtain ⟨c0, c1, c2, c3, c4, c5, c6, c7, c8, cf⟩ := hSw.1.cells; have hy := hSw.2.cells; go_simp; try with_reducible rfl)
  try simp only [Act.put, gA, gS, gZ, sA, sZ, sS]
  refine tk (i := 17) (v := ?_) rfl (by kernel_rfl) (fun _ _ _ h => h) (by rfl) ?_ (by assumption) ?_
  rotate_left
  · (intro W hSw; obtain ⟨c0, c1, c2, c3, c4, c5, c6, c7, c8, cf⟩ := hSw.1.cells; have hy := hSw.2.cells; go_simp; try with_reducible rfl)
  try simp only [Act.put, gA, gS, gZ, sA, sZ, sS]
  refine tk (i := 18) (v := ?_) rfl (by kernel_rfl) (fun _ _ _ h => h) (by rfl) ?_ (by assumption) ?_
  rotate_left
  · (intro W hSw; obtain ⟨c0, c1, c2, c3, c4, c5, c6, c7, c8, cf⟩ := hSw.1.cells; have hy := hSw.2.cells; go_simp; try with_reducible rfl)
  try simp only [Act.put, gA, gS, gZ, sA, sZ, sS]
  refine tk (i := 19) (v := ?_) rfl (by kernel_rfl) (fun _ _ _ h => h) (by rfl) ?_ (by assumption) ?_
  rotate_left
  · (intro W hSw; obtain ⟨c0, c1, c2, c3, c4, c5, c6, c7, c8, cf⟩ := hSw.1.cells; have hy := hSw.2.cells; go_simp; try with_reducible rfl)
  try simp only [Act.put, gA, gS, gZ, sA, sZ, sS]
  refine tk (i := 20) (v := ?_) rfl (by kernel_rfl) (fun _ _ _ h => h) (by rfl) ?_ (by assumption) ?_
  rotate_left
  · (intro W hSw; obtain ⟨c0, c1, c2, c3, c4, c5, c6, c7, c8, cf⟩ := hSw.1.cells; have hy := hSw.2.cells; go_simp; try with_reducible rfl)
  try simp only [Act.put, gA, gS, gZ, sA, sZ, sS]
  refine tk (i := 21) (v := ?_) rfl (by kernel_rfl) (fun _ _ _ h => h) (by rfl) ?_ (by assumption) ?_
  rotate_left
  · (intro W hSw; obtain ⟨c0, c1, c2, c3, c4, c5, c6, c7, c8, cf⟩ := hSw.1.cells; have hy := hSw.2.cells; go_simp; try with_reducible rfl)
  try simp only [Act.put, gA, gS, gZ, sA, sZ, sS]
  refine tk (i := 22) (v := ?_) rfl (by kernel_rfl) (fun _ _ _ h => h) (by rfl) ?_ (by assumption) ?_
  rotate_left
  · (intro W hSw; obtain ⟨c0, c1, c2, c3, c4, c5, c6, c7, c8, cf⟩ := hSw.1.cells; have hy := hSw.2.cells; go_simp; try with_reducible rfl)
  try simp only [Act.put, gA, gS, gZ, sA, sZ, sS]
  refine tk (i := 23) (v := ?_) rfl (by kernel_rfl) (fun _ _ _ h => h) (by rfl) ?_ (by assumption) ?_
  rotate_left
  · (intro W hSw; obtain ⟨c0, c1, c2, c3, c4, c5, c6, c7, c8, cf⟩ := hSw.1.cells; have hy := hSw.2.cells; go_simp; try with_reducible rfl)
  try simp only [Act.put, gA, gS, gZ, sA, sZ, sS]
  refine tk (i := 24) (v := ?_) rfl (by kernel_rfl) (fun _ _ _ h => h) (by rfl) ?_ (by assumption) ?_
  rotate_left
  · (intro W hSw; obtain ⟨c0, c1, c2, c3, c4, c5, c6, c7, c8, cf⟩ := hSw.1.cells; have hy := hSw.2.cells; go_simp; try with_reducible rfl)
  try simp only [Act.put, gA, gS, gZ, sA, sZ, sS]
  refine tk (i := 25) (v := ?_) rfl (by kernel_rfl) (fun _ _ _ h => h) (by rfl) ?_ (by assumption) ?_
  rotate_left
  · (intro W hSw; obtain ⟨c0, c1, c2, c3, c4, c5, c6, c7, c8, cf⟩ := hSw.1.cells; have hy := hSw.2.cells; go_simp; try with_reducible rfl)
  try simp only [Act.put, gA, gS, gZ, sA, sZ, sS]
  refine tk (i := 26) (v := ?_) rfl (by kernel_rfl) (fun _ _ _ h => h) (by rfl) ?_ (by assumption) ?_
  rotate_left
  · (intro W hSw; obtain ⟨c0, c1, c2, c3, c4, c5, c6, c7, c8, cf⟩ := hSw.1.cells; have hy := hSw.2.cells; go_simp; try with_reducible rfl)
  try simp only [Act.put, gA, gS, gZ, sA, sZ, sS]
  refine tk (i := 27) (v := ?_) rfl (by kernel_rfl) (fun _ _ _ h => h) (by rfl) ?_ (by assumption) ?_
  rotate_left
  · (intro W hSw; obtain ⟨c0, c1, c2, c3, c4, c5, c6, c7, c8, cf⟩ := hSw.1.cells; have hy := hSw.2.cells; go_simp; try with_reducible rfl)
  try simp only [Act.put, gA, gS, gZ, sA, sZ, sS]
  refine tk (i := 28) (v := ?_) rfl (by kernel_rfl) (fun _ _ _ h => h) (by rfl) ?_ (by assumption) ?_
  rotate_left
  · (intro W hSw; obtain ⟨c0, c1, c2, c3, c4, c5, c6, c7, c8, cf⟩ := hSw.1.cells; have hy := hSw.2.cells; go_simp; try with_reducible rfl)
  try simp only [Act.put, gA, gS, gZ, sA, sZ, sS]
  refine tk (i := 29) (v := ?_) rfl (by kernel_rfl) (fun _ _ _ h => h) (by rfl) ?_ (by assumption) ?_
  rotate_left
  · (intro W hSw; obtain ⟨c0, c1, c2, c3, c4, c5, c6, c7, c8, cf⟩ := hSw.1.cells; have hy := hSw.2.cells; go_simp; try with_reducible rfl)
  try simp only [Act.put, gA, gS, gZ, sA, sZ, sS]
  refine tk (i := 30) (v := ?_) rfl (by kernel_rfl) (fun _ _ _ h => h) (by rfl) ?_ (by assumption) ?_
  rotate_left
  · (intro W hSw; obtain ⟨c0, c1, c2, c3, c4, c5, c6, c7, c8, cf⟩ := hSw.1.cells; have hy := hSw.2.cells; go_simp; try with_reducible rfl)
  try simp only [Act.put, gA, gS, gZ, sA, sZ, sS]
  refine tk (i := 31) (v := ?_) rfl (by kernel_rfl) (fun _ _ _ h => h) (by rfl) ?_ (by assumption) ?_
  rotate_left
  · (intro W hSw; obtain ⟨c0, c1, c2, c3, c4, c5, c6, c7, c8, cf⟩ := hSw.1.cells; have hy := hSw.2.cells; go_simp; try with_reducible rfl)
  try simp only [Act.put, gA, gS, gZ, sA, sZ, sS]
  refine tk (i := 32) (v := ?_) rfl (by kernel_rfl) (fun _ _ _ h => h) (by rfl) ?_ (by assumption) ?_
  rotate_left
  · (intro W hSw; obtain ⟨c0, c1, c2, c3, c4, c5, c6, c7, c8, cf⟩ := hSw.1.cells; have hy := hSw.2.cells; go_simp; try with_reducible rfl)
  try simp only [Act.put, gA, gS, gZ, sA, sZ, sS]
  refine tk (i := 33) (v := ?_) rfl (by kernel_rfl) (fun _ _ _ h => h) (by rfl) ?_ (by assumption) ?_
  rotate_left
  · (intro W hSw; obtain ⟨c0, c1, c2, c3, c4, c5, c6, c7, c8, cf⟩ := hSw.1.cells; have hy := hSw.2.cells; go_simp; try with_reducible rfl)
  try simp only [Act.put, gA, gS, gZ, sA, sZ, sS]
  refine tk (i := 34) (v := ?_) rfl (by kernel_rfl) (fun _ _ _ h => h) (by rfl) ?_ (by assumption) ?_
  rotate_left
  · (intro W hSw; obtain ⟨c0, c1, c2, c3, c4, c5, c6, c7, c8, cf⟩ := hSw.1.cells; have hy := hSw.2.cells; go_simp; try with_reducible rfl)
  try simp only [Act.put, gA, gS, gZ, sA, sZ, sS]
  refine tk (i := 35) (v := ?_) rfl (by kernel_rfl) (fun _ _ _ h => h) (by rfl) ?_ (by assumption) ?_
  rotate_left
  · (intro W hSw; obtain ⟨c0, c1, c2, c3, c4, c5, c6, c7, c8, cf⟩ := hSw.1.cells; have hy := hSw.2.cells; go_simp; try with_reducible rfl)
  try simp only [Act.put, gA, gS, gZ, sA, sZ, sS]
  refine tk (i := 36) (v := ?_) rfl (by kernel_rfl) (fun _ _ _ h => h) (by rfl) ?_ (by assumption) ?_
  rotate_left
  · (intro W hSw; obtain ⟨c0, c1, c2, c3, c4, c5, c6, c7, c8, cf⟩ := hSw.1.cells; have hy := hSw.2.cells; go_simp; try with_reducible rfl)
  try simp only [Act.put, gA, gS, gZ, sA, sZ, sS]
  refine tk (i := 37) (v := ?_) rfl (by kernel_rfl) (fun _ _ _ h => h) (by rfl) ?_ (by assumption) ?_
  rotate_left
  · (intro W hSw; obtain ⟨c0, c1, c2, c3, c4, c5, c6, c7, c8, cf⟩ := hSw.1.cells; have hy := hSw.2.cells; go_simp; try with_reducible rfl)
  try simp only [Act.put, gA, gS, gZ, sA, sZ, sS]
  refine tk (i := 38) (v := ?_) rfl (by kernel_rfl) (fun _ _ _ h => h) (by rfl) ?_ (by assumption) ?_
  rotate_left
  · (intro W hSw; obtain ⟨c0, c1, c2, c3, c4, c5, c6, c7, c8, cf⟩ := hSw.1.cells; have hy := hSw.2.cells; go_simp; try with_reducible rfl)
  try simp only [Act.put, gA, gS, gZ, sA, sZ, sS]
  refine tk (i := 39) (v := ?_) rfl (by kernel_rfl) (fun _ _ _ h => h) (by rfl) ?_ (by assumption) ?_
  rotate_left
  · (intro W hSw; obtain ⟨c0, c1, c2, c3, c4, c5, c6, c7, c8, cf⟩ := hSw.1.cells; have hy := hSw.2.cells; go_simp; try with_reducible rfl)
  try simp only [Act.put, gA, gS, gZ, sA, sZ, sS]
  refine wpAnyH_done (by kernel_rfl) ?_ _
  have hb2 : Below W.heap.size W w1.drew := HB1.out.drew
  obtain ⟨w2, hw2⟩ : ∃ X, X = w1.drew := ⟨_, rfl⟩
  rw [← hw2] at hb2 H1d ⊢
  have HB2 := Lib.hid hb2
  clear hw2 hb2 hHeld H1 HB1
  go_wp2_with fail
  refine (Wa.waiting_g H1d.out.1 HM.out).mono ?_
  rintro _ w3 ⟨⟨A1, n1, c1, Z, rfl, hp, hpw, hn1, hr1⟩, b3⟩
  have hlt := lt_of_nodup hpw (hp.nodup_iff.2 HN.out)
  have H3 := Lib.hid (lgp_below H1d.out b3)
  have HR1 := Lib.hid (And.intro hr1 (And.intro hp (And.intro hlt hn1)))
  have HB3 := Lib.hid (HB2.out.trans (b3.mono HB2.out.size))
  clear hp hpw hn1 hr1 b3 hlt H1d HB2
  go_wp2_with fail
  refine (pwait_any H3.out.2 HM.out Z HR1.out.2.1 HR1.out.2.2.1).mono ?_
  rintro _ w4 ⟨A2, n2, c2, rfl, hn2, hr2, b4⟩
  have hr1 := own_belowU HR1.out.1 b4
  have hnn : n2 = n1 := by rw [hn2, HR1.out.2.2.2]
  subst hnn
  have hnm : n2 ≤ 1000000 := by have := HR1.out.2.1.length_eq; rw [List.length_map] at this; have := HM.out; omega
  have H4 := Lib.hid (And.intro (lgp_below H3.out b4) (And.intro (HB3.out.trans (b4.mono HB3.out.size)) (And.intro hr1 hr2)))
  have HZ := Lib.hid (And.intro HR1.out.2.1 hn2)
  clear hr1 hr2 hn2 b4 H3 HB3 HR1
  have hne : ((n2 : Int) != (n2 : Int)) = false := by simp
  go_wp2
  clear hne
  go_loopw [10] (fun v wr => ∃ i : Nat, v = .int .i64 (i : Int) ∧ i ≤ n2 ∧ Hid ((LG wr E M N s ∧ PN b0 wr B s Ac mc cc Aa ma ca) ∧ Below W.heap.size W wr ∧ wr.ownsRow w2.heap.size TUu 1 (.slice A1 n2 c1) n2 (uuc Z) ∧ wr.ownsRow w3.heap.size TUu 1 (.slice A2 n2 c2) n2 (uuc Z))) (fun v _ => n2 - (intOf v).toNat)
  case atStart => exact ⟨0, rfl, Nat.zero_le _, Lib.hid H4.out⟩
  case round =>
    clear H4
    obtain ⟨i, rfl, hi, HA⟩ := hrel
    by_cases hlt : i < n2
    · have hi0 : (0 : Int) ≤ (i : Int) := by omega
      have hi1 : (i : Int) < (n2 : Int) := by omega
      have hiZ : i < Z.length := by have := HZ.out.2; omega
      obtain ⟨g1, hA1, hg1, hc1⟩ := own_cellU HA.out.2.2.1 HZ.out.2 (by omega)
      obtain ⟨g2, hA2, hg2, hc2⟩ := own_cellU HA.out.2.2.2 HZ.out.2 (by omega)
      subst hA1 hA2
      have hkm : Z[i] ∈ s.cm.map (·.1) := HZ.out.1.mem_iff.1 (List.getElem_mem hiZ)
      have hks := lk_mem s.cm Z[i] hkm
      obtain ⟨k, hk⟩ : ∃ k, k = Z[i] := ⟨_, rfl⟩
      have q1 := hc1 i hiZ
      have q2 := hc2 i hiZ
      rw [← hk] at q1 q2 hks
      have HC := Lib.hid (And.intro hg1 (And.intro q1 (And.intro hg2 q2)))
      have HKs := Lib.hid hks
      clear hkm hc1 hc2 hk hg1 hg2 hks q1 q2
      go_upto_region 10 with fail
      have HAd : Hid ((LG wr.drew E M N s ∧ PN b0 wr.drew B s Ac mc cc Aa ma ca) ∧ wr.drew.cell? ⟨g2, i, none⟩ = some (.int .u64 k)) := Lib.hid ⟨lgp_below HA.out.1 (Below.refl _ _).drew, HC.out.2.2.2⟩
      refine wp_region_held_drew (S := (fun V => (LG V E M N s ∧ PN b0 V B s Ac mc cc Aa ma ca) ∧ V.cell? ⟨g2, i, none⟩ = some (.int .u64 k))) (by kernel_rfl) HAd.out (fun hHeld => ?_)
      refine tk (i := 0) (v := ?_) rfl (by kernel_rfl) (fun _ _ _ h => h) (by rfl) ?_ (by assumption) ?_
      rotate_left
      · (intro W hSw; have hy := hSw.1.2.cells; have q2 := hSw.2; go_simp; try with_reducible rfl)
      try simp only [Act.put, gA, gZ, sA, sZ, sS]
      refine tk (i := 1) (v := ?_) rfl (by kernel_rfl) (fun _ _ _ h => h) (by rfl) ?_ (by assumption) ?_
      rotate_left
      · (intro W hSw; have hy := hSw.1.2.cells; have q2 := hSw.2; go_simp; try with_reducible rfl)
      try simp only [Act.put, gA, gS, gZ, sA, sZ, sS]
      refine tk (i := 2) (v := ?_) rfl (by kernel_rfl) (fun _ _ _ h => h) (by rfl) ?_ (by assumption) ?_
      rotate_left
      · (intro W hSw; have hy := hSw.1.2.cells; have q2 := hSw.2; go_simp; try with_reducible rfl)
      try simp only [Act.put, gA, gS, gZ, sA, sZ, sS]
      refine tk (i := 3) (v := ?_) rfl (by kernel_rfl) (fun _ _ _ h => h) (by rfl) ?_ (by assumption) ?_
      rotate_left
      · (intro W hSw; have hy := hSw.1.2.cells; have q2 := hSw.2; go_simp; try with_reducible rfl)
      try simp only [Act.put, gA, gS, gZ, sA, sZ, sS]
      refine tk (i := 4) (v := ?_) rfl (by kernel_rfl) (fun _ _ _ h => h) (by rfl) ?_ (by assumption) ?_
      rotate_left
      · (intro W hSw; have hy := hSw.1.2.cells; have q2 := hSw.2; go_simp; try with_reducible rfl)
      try simp only [Act.put, gA, gS, gZ, sA, sZ, sS]
      refine tk (i := 5) (v := ?_) rfl (by kernel_rfl) (fun _ _ _ h => h) (by rfl) ?_ (by assumption) ?_
      rotate_left
      · (intro W hSw; have hy := hSw.1.2.cells; have q2 := hSw.2; go_simp; try with_reducible rfl)
      try simp only [Act.put, gA, gS, gZ, sA, sZ, sS]
      refine tk (i := 6) (v := ?_) rfl (by kernel_rfl) (fun _ _ _ h => h) (by rfl) ?_ (by assumption) ?_
      rotate_left
      · (intro W hSw; have hy := hSw.1.2.cells; have q2 := hSw.2; go_simp; try with_reducible rfl)
      try simp only [Act.put, gA, gS, gZ, sA, sZ, sS]
      refine tk (i := 7) (v := ?_) rfl (by kernel_rfl) (fun _ _ _ h => h) (by rfl) ?_ (by assumption) ?_
      rotate_left
      · (intro W hSw; have hy := hSw.1.2.cells; have q2 := hSw.2; go_simp; try with_reducible rfl)
      try simp only [Act.put, gA, gS, gZ, sA, sZ, sS]
      refine wpAnyH_ready (rs := [8]) (by kernel_rfl) (by simp) ?_
      refine AllReadyH.cons rfl (fun K hK => ?_) AllReadyH.nil
      simp only [gA, gS, gZ]
      rw [if_pos (by rfl)]
      go_simp
      refine (find_any Ac mc cc s.cm k _ (own_rdT hHeld.1.2.rc hHeld.1.2.cok) (by have := hHeld.1.2.rc.2; have := HM.out; omega)).mono ?_
      rintro e w5 ⟨⟨z, rfl, hz⟩, hw⟩
      obtain rfl := hw.symm
      clear hw
      rcases hz with ⟨j, hj, rfl, hk1, hk2, -⟩ | ⟨rfl, hk2⟩
      rotate_left
      · exact absurd HKs.out (by rw [hk2]; simp)
      have HJ := Lib.hid (And.intro hk1 hk2)
      have hj0 : (0 : Int) ≤ (j : Int) := by omega
      clear hk1 hk2
      go_wp2_with fail
      refine hK.out _ _ hHeld (fun hHeld => ?_)
      clear hK K
      try simp only [Act.put, gA, gS, gZ, sA, sZ, sS]
      refine tk (i := 9) (v := ?_) rfl (by kernel_rfl) (fun _ _ _ h => h) (by rfl) ?_ (by assumption) ?_
      rotate_left
      · (intro W hSw; have hy := hSw.1.2.cells; have q2 := hSw.2; go_simp; try with_reducible rfl)
      try simp only [Act.put, gA, gS, gZ, sA, sZ, sS]
      refine wpAnyH_done (by kernel_rfl) ?_ _
      have hb5 := HA.out.2.1.drew
      have hb6 := (Below.refl wr.heap.size wr).drew
      have h5 : Hid ((LG wr.drew E M N s ∧ PN b0 wr.drew B s Ac mc cc Aa ma ca) ∧ Below W.heap.size W wr.drew ∧ wr.drew.ownsRow w2.heap.size TUu 1 (.slice (some ⟨g1, 0, none⟩) n2 c1) n2 (uuc Z) ∧ wr.drew.ownsRow w3.heap.size TUu 1 (.slice (some ⟨g2, 0, none⟩) n2 c2) n2 (uuc Z) ∧ wr.drew.cell? ⟨g1, i, none⟩ = some (.int .u64 k) ∧ wr.drew.cell? ⟨g2, i, none⟩ = some (.int .u64 k)) := Lib.hid ⟨HAd.out.1, hb5, own_belowU HA.out.2.2.1 hb6, own_belowU HA.out.2.2.2 hb6, HC.out.2.1, HC.out.2.2.2⟩
      obtain ⟨w5, hw5⟩ : ∃ X, X = wr.drew := ⟨_, rfl⟩
      rw [← hw5] at h5 ⊢
      clear hw5 hb5 hb6 hHeld HAd HA HC
      obtain ⟨b9, off, hAq, hbl, hcs⟩ := (own_rdT h5.out.1.2.rc h5.out.1.2.cok).cells (by have := h5.out.1.2.rc.2; omega)
      subst hAq
      have hjm : (j : Int) < (mc : Int) := by have := h5.out.1.2.rc.2; omega
      obtain ⟨C, hC⟩ : ∃ C, C = sumOf k s.cm := ⟨_, rfl⟩
      have hsum : (s.cm[j]'hj).2 = C := by rw [hC]; unfold sumOf; rw [HJ.out.2]; rfl
      have hCo : SumOk C := by rw [hC]; exact sumOf_ok h5.out.1.1.cok
      have hcm := commit_g k h5.out.1.1
      rw [← hC, HKs.out] at hcm
      have HCm := Lib.hid hcm
      have HCo := Lib.hid hCo
      have HSm := Lib.hid hsum
      obtain ⟨b, hb, hneq⟩ := neq_sum C C hCo hCo
      have hbt : b = true := hb.2 rfl
      rw [hbt] at hneq
      have HNq := Lib.hid hneq
      clear hbl hcs hcm hsum hCo hC hb hbt hneq
      have q2 := h5.out.2.2.2.2.2
      go_wp2_with fail
      refine HCm.out.mono ?_
      rintro _ w6 ⟨rfl, b6⟩
      have hst := run_storeCells_new (P := Tryz.prog) w6 TSm #[.int .u8 0, .int .u8 0, .int .u8 0, .int .u8 0, .int .u8 0, .int .u8 0, .int .u8 0, .int .u8 0, .int .u8 0, .int .u8 0, .int .u8 0, .int .u8 0, .int .u8 0, .int .u8 0, .int .u8 0, .int .u8 0, .int .u8 0, .int .u8 0, .int .u8 0, .int .u8 0, .int .u8 0, .int .u8 0, .int .u8 0, .int .u8 0, .int .u8 0, .int .u8 0, .int .u8 0, .int .u8 0, .int .u8 0, .int .u8 0, .int .u8 0, .int .u8 0] C (i32 C HCo.out.1) (by rw [HCo.out.1]; rfl) HCo.out.2.1
      have hCz := HCo.out.1
      go_upto_region 12 with fail
      clear hCz
      have b7 : Below w5.heap.size w5 (w6.alloc (.cells C TSm)) := b6.alloc b6.size _
      have h7 : Hid ((LG (w6.alloc (.cells C TSm)) E M N s ∧ PN b0 (w6.alloc (.cells C TSm)) B s (some ⟨b9, off, none⟩) mc cc Aa ma ca) ∧ Below W.heap.size W (w6.alloc (.cells C TSm)) ∧ (w6.alloc (.cells C TSm)).ownsRow w2.heap.size TUu 1 (.slice (some ⟨g1, 0, none⟩) n2 c1) n2 (uuc Z) ∧ (w6.alloc (.cells C TSm)).ownsRow w3.heap.size TUu 1 (.slice (some ⟨g2, 0, none⟩) n2 c2) n2 (uuc Z)) := Lib.hid ⟨lgp_below h5.out.1 b7, h5.out.2.1.trans (b7.mono h5.out.2.1.size), own_belowU h5.out.2.2.1 b7, own_belowU h5.out.2.2.2.1 b7⟩
      have h8 : (w6.alloc (.cells C TSm)).cell? ⟨g1, i, none⟩ = some (.int .u64 k) ∧ (w6.alloc (.cells C TSm)).cell? ⟨g2, i, none⟩ = some (.int .u64 k) := ⟨(b7.cell (p := ⟨g1, i, none⟩) (World.block_lt_of_cell? _ _ h5.out.2.2.2.2.1)).trans h5.out.2.2.2.2.1, (b7.cell (p := ⟨g2, i, none⟩) (World.block_lt_of_cell? _ _ h5.out.2.2.2.2.2)).trans h5.out.2.2.2.2.2⟩
      have h9 : (w6.alloc (.cells C TSm)).heap[w6.heap.size]? = some (.cells C TSm (0, 0)) := heap_alloc_new _ _
      obtain ⟨G, hG⟩ : ∃ G, G = w6.heap.size := ⟨_, rfl⟩
      obtain ⟨w7, hw7⟩ : ∃ X, X = w6.alloc (.cells C TSm) := ⟨_, rfl⟩
      rw [← hw7] at h7 h8 h9 ⊢
      rw [← hG] at h9 ⊢
      have H8 := Lib.hid (And.intro h8 h9)
      clear hw7 hG h8 h9 b6 b7 hst q2 HCm h5
      have hHd : Hid ((LG w7.drew E M N s ∧ PN b0 w7.drew B s (some ⟨b9, off, none⟩) mc cc Aa ma ca) ∧ w7.drew.cell? ⟨g1, i, none⟩ = some (.int .u64 k) ∧ w7.drew.cell? ⟨g2, i, none⟩ = some (.int .u64 k) ∧ w7.drew.heap[G]? = some (.cells C TSm (0, 0))) := Lib.hid ⟨lgp_below h7.out.1 (Below.refl _ _).drew, H8.out.1.1, H8.out.1.2, H8.out.2⟩
      have HCs : Hid (∀ V, PN b0 V B s (some ⟨b9, off, none⟩) mc cc Aa ma ca → V.rangeAt b9 (off + j * 33 + 1) C.toList) := Lib.hid fun V hV => by
        obtain ⟨b9', off', hA', _, hcs'⟩ := (own_rdT hV.rc hV.cok).cells (by have := hV.rc.2; omega)
        injection hA' with hA'
        injection hA' with h1 h2
        subst h1 h2
        rw [← HSm.out]
        exact ncl_sum (fun j' hj' => hcs' j hj j' hj') (hV.cok _ (List.getElem_mem hj))
      refine wp_region_held_drew (S := (fun V => (LG V E M N s ∧ PN b0 V B s (some ⟨b9, off, none⟩) mc cc Aa ma ca) ∧ V.cell? ⟨g1, i, none⟩ = some (.int .u64 k) ∧ V.cell? ⟨g2, i, none⟩ = some (.int .u64 k) ∧ V.heap[G]? = some (.cells C TSm (0, 0)))) (by kernel_rfl) hHd.out (fun hHeld => ?_)
      refine tk (i := 0) (v := ?_) rfl (by kernel_rfl) (fun _ _ _ h => h) (by rfl) ?_ (by assumption) ?_
      rotate_left
      · (intro W hSw; have hy := hSw.1.2.cells; have q1 := hSw.2.1; have q2 := hSw.2.2.1; go_simp; try with_reducible rfl)
      try simp only [Act.put, gA, gZ, sA, sZ, sS]
      refine tk (i := 1) (v := ?_) rfl (by kernel_rfl) (fun _ _ _ h => h) (by rfl) ?_ (by assumption) ?_
      rotate_left
      · (intro W hSw; have hy := hSw.1.2.cells; have q1 := hSw.2.1; have q2 := hSw.2.2.1; go_simp; try with_reducible rfl)
      try simp only [Act.put, gA, gS, gZ, sA, sZ, sS]
      refine tk (i := 2) (v := ?_) rfl (by kernel_rfl) (fun _ _ _ h => h) (by rfl) ?_ (by assumption) ?_
      rotate_left
      · (intro W hSw; have hy := hSw.1.2.cells; have q1 := hSw.2.1; have q2 := hSw.2.2.1; go_simp; try with_reducible rfl)
      try simp only [Act.put, gA, gS, gZ, sA, sZ, sS]
      refine tk (i := 3) (v := ?_) rfl (by kernel_rfl) (fun _ _ _ h => h) (by rfl) ?_ (by assumption) ?_
      rotate_left
      · (intro W hSw; have hy := hSw.1.2.cells; have q1 := hSw.2.1; have q2 := hSw.2.2.1; go_simp; try with_reducible rfl)
      try simp only [Act.put, gA, gS, gZ, sA, sZ, sS]
      refine tk (i := 4) (v := ?_) rfl (by kernel_rfl) (fun _ _ _ h => h) (by rfl) ?_ (by assumption) ?_
      rotate_left
      · (intro W hSw; have hy := hSw.1.2.cells; have q1 := hSw.2.1; have q2 := hSw.2.2.1; go_simp; try with_reducible rfl)
      try simp only [Act.put, gA, gS, gZ, sA, sZ, sS]
      refine tk (i := 5) (v := ?_) rfl (by kernel_rfl) (fun _ _ _ h => h) (by rfl) ?_ (by assumption) ?_
      rotate_left
      · (intro W hSw; have hy := hSw.1.2.cells; have q1 := hSw.2.1; have q2 := hSw.2.2.1; go_simp; try with_reducible rfl)
      try simp only [Act.put, gA, gS, gZ, sA, sZ, sS]
      refine tk (i := 6) (v := ?_) rfl (by kernel_rfl) (fun _ _ _ h => h) (by rfl) ?_ (by assumption) ?_
      rotate_left
      · (intro W hSw; have hy := hSw.1.2.cells; have q1 := hSw.2.1; have q2 := hSw.2.2.1; go_simp; try with_reducible rfl)
      try simp only [Act.put, gA, gS, gZ, sA, sZ, sS]
      refine tk (i := 7) (v := ?_) rfl (by kernel_rfl) (fun _ _ _ h => h) (by rfl) ?_ (by assumption) ?_
      rotate_left
      · (intro W hSw; have hy := hSw.1.2.cells; have q1 := hSw.2.1; have q2 := hSw.2.2.1; go_simp; try with_reducible rfl)
      try simp only [Act.put, gA, gS, gZ, sA, sZ, sS]
      refine tk (i := 8) (v := ?_) rfl (by kernel_rfl) (fun _ _ _ h => h) (by rfl) ?_ (by assumption) ?_
      rotate_left
      · (intro W hSw; have hy := hSw.1.2.cells; have q1 := hSw.2.1; have q2 := hSw.2.2.1; go_simp; try with_reducible rfl)
      try simp only [Act.put, gA, gS, gZ, sA, sZ, sS]
      refine tk (i := 9) (v := ?_) rfl (by kernel_rfl) (fun _ _ _ h => h) (by rfl) ?_ (by assumption) ?_
      rotate_left
      · (intro W hSw; have hy := hSw.1.2.cells; have q1 := hSw.2.1; have q2 := hSw.2.2.1; go_simp; try with_reducible rfl)
      try simp only [Act.put, gA, gS, gZ, sA, sZ, sS]
      refine tk (i := 10) (v := ?_) rfl (by kernel_rfl) (fun _ _ _ h => h) (by rfl) ?_ (by assumption) ?_
      rotate_left
      · (intro W hSw; have hy := hSw.1.2.cells; have q1 := hSw.2.1; have q2 := hSw.2.2.1; go_simp; try with_reducible rfl)
      try simp only [Act.put, gA, gS, gZ, sA, sZ, sS]
      refine tk (i := 11) (v := ?_) rfl (by kernel_rfl) (fun _ _ _ h => h) (by rfl) ?_ (by assumption) ?_
      rotate_left
      · (intro W hSw; have hy := hSw.1.2.cells; have q1 := hSw.2.1; have q2 := hSw.2.2.1; go_simp; try with_reducible rfl)
      try simp only [Act.put, gA, gS, gZ, sA, sZ, sS]
      refine tk (i := 12) (v := ?_) rfl (by kernel_rfl) (fun _ _ _ h => h) (by rfl) ?_ (by assumption) ?_
      rotate_left
      · (intro W hSw; have hy := hSw.1.2.cells; have q1 := hSw.2.1; have q2 := hSw.2.2.1; go_simp; try with_reducible rfl)
      try simp only [Act.put, gA, gS, gZ, sA, sZ, sS]
      refine tk (i := 13) (v := ?_) rfl (by kernel_rfl) (fun _ _ _ h => h) (by rfl) ?_ (by assumption) ?_
      rotate_left
      · (intro W hSw; have hy := hSw.1.2.cells; have q1 := hSw.2.1; have q2 := hSw.2.2.1; go_simp; try with_reducible rfl)
      try simp only [Act.put, gA, gS, gZ, sA, sZ, sS]
      refine tk (i := 14) (v := ?_) rfl (by kernel_rfl) (fun _ _ _ h => h) (by rfl) ?_ (by assumption) ?_
      rotate_left
      · (intro W hSw; (refine Sha.yields_row TSm (.tmp 12) ?_ G ?_ TSm C (0, 0) _ hSw.2.2.2 Tryz.underlying58 rfl (i32 C HCo.out.1)); rfl; rfl)
      try simp only [Act.put, gA, gS, gZ, sA, sZ, sS]
      refine tk (i := 15) (v := ?_) rfl (by kernel_rfl) (fun _ _ _ h => h) (by rfl) ?_ (by assumption) ?_
      rotate_left
      · (intro W hSw; have hy := hSw.1.2.cells; have q1 := hSw.2.1; have q2 := hSw.2.2.1; go_simp; try with_reducible rfl)
      try simp only [Act.put, gA, gS, gZ, sA, sZ, sS]
      refine tk (i := 16) (v := ?_) rfl (by kernel_rfl) (fun _ _ _ h => h) (by rfl) ?_ (by assumption) ?_
      rotate_left
      · (intro W hSw; have hy := hSw.1.2.cells; have q1 := hSw.2.1; have q2 := hSw.2.2.1; go_simp; try with_reducible rfl)
      try simp only [Act.put, gA, gS, gZ, sA, sZ, sS]
      refine tk (i := 17) (v := ?_) rfl (by kernel_rfl) (fun _ _ _ h => h) (by rfl) ?_ (by assumption) ?_
      rotate_left
      · (intro W hSw; have hy := hSw.1.2.cells; have q1 := hSw.2.1; have q2 := hSw.2.2.1; go_simp; try with_reducible rfl)
      try simp only [Act.put, gA, gS, gZ, sA, sZ, sS]
      refine tk (i := 18) (v := ?_) rfl (by kernel_rfl) (fun _ _ _ h => h) (by rfl) ?_ (by assumption) ?_
      rotate_left
      · (intro W hSw; have hy := hSw.1.2.cells; have q1 := hSw.2.1; have q2 := hSw.2.2.1; go_simp; try with_reducible rfl)
      try simp only [Act.put, gA, gS, gZ, sA, sZ, sS]
      refine tk (i := 19) (v := ?_) rfl (by kernel_rfl) (fun _ _ _ h => h) (by rfl) ?_ (by assumption) ?_
      rotate_left
      · (intro W hSw; have hy := hSw.1.2.cells; have q1 := hSw.2.1; have q2 := hSw.2.2.1; go_simp; try with_reducible rfl)
      try simp only [Act.put, gA, gS, gZ, sA, sZ, sS]
      refine tk (i := 20) (v := ?_) rfl (by kernel_rfl) (fun _ _ _ h => h) (by rfl) ?_ (by assumption) ?_
      rotate_left
      · (intro W hSw; have hy := hSw.1.2.cells; have q1 := hSw.2.1; have q2 := hSw.2.2.1; go_simp; try with_reducible rfl)
      try simp only [Act.put, gA, gS, gZ, sA, sZ, sS]
      refine tk (i := 21) (v := ?_) rfl (by kernel_rfl) (fun _ _ _ h => h) (by rfl) ?_ (by assumption) ?_
      rotate_left
      · (intro W hSw; have hy := hSw.1.2.cells; have q1 := hSw.2.1; have q2 := hSw.2.2.1; go_simp; try with_reducible rfl)
      try simp only [Act.put, gA, gS, gZ, sA, sZ, sS]
      refine tk (i := 22) (v := ?_) rfl (by kernel_rfl) (fun _ _ _ h => h) (by rfl) ?_ (by assumption) ?_
      rotate_left
      · (intro W hSw; (refine yields_mid TA3 (.tmp 117) ?_ b9 (off + j * 33 + 1) ?_ C _ (HCs.out _ hSw.1.2) Tryz.underlying57 rfl (a32 C HCo.out.1)); rfl; rfl)
      try simp only [Act.put, gA, gS, gZ, sA, sZ, sS]
      have hneq := HNq.out
      refine tk (i := 23) (v := ?_) rfl (by kernel_rfl) (fun _ _ _ h => h) (by rfl) ?_ (by assumption) ?_
      rotate_left
      · (intro W hSw; have hy := hSw.1.2.cells; have q1 := hSw.2.1; have q2 := hSw.2.2.1; go_simp; try with_reducible rfl)
      try simp only [Act.put, gA, gS, gZ, sA, sZ, sS]
      refine tk (i := 24) (v := ?_) rfl (by kernel_rfl) (fun _ _ _ h => h) (by rfl) ?_ (by assumption) ?_
      rotate_left
      · (intro W hSw; have hy := hSw.1.2.cells; have q1 := hSw.2.1; have q2 := hSw.2.2.1; go_simp; try with_reducible rfl)
      try simp only [Act.put, gA, gS, gZ, sA, sZ, sS]
      refine wpAnyH_done (by kernel_rfl) ?_ _
      have hfin : Hid ((LG w7.drew E M N s ∧ PN b0 w7.drew B s (some ⟨b9, off, none⟩) mc cc Aa ma ca) ∧ Below W.heap.size W w7.drew ∧ w7.drew.ownsRow w2.heap.size TUu 1 (.slice (some ⟨g1, 0, none⟩) n2 c1) n2 (uuc Z) ∧ w7.drew.ownsRow w3.heap.size TUu 1 (.slice (some ⟨g2, 0, none⟩) n2 c2) n2 (uuc Z)) := Lib.hid ⟨hHd.out.1, h7.out.2.1.drew, own_belowU h7.out.2.2.1 (Below.refl _ _).drew, own_belowU h7.out.2.2.2 (Below.refl _ _).drew⟩
      clear hneq hHeld
      go_wp2
      go_roundw
      case rel => exact ⟨i + 1, by go_num, by omega, Lib.hid hfin.out⟩
      case measure => simp [intOf]; omega
    · obtain rfl : i = n2 := by omega
      have hii : ¬ ((i : Int) < (i : Int)) := by omega
      have H9 := Lib.hid (And.intro HA.out.1 HA.out.2.1)
      clear HA
      go_wp2
      clear hii
      have hma2 : ma ≤ 1000000 := by have := H9.out.1.2.ra.2; have := HMa.out; omega
      go_loopw [14] (fun v wr => ∃ j : Nat, v = .int .i64 (j : Int) ∧ j ≤ ma ∧ Hid ((LG wr E M N s ∧ PN b0 wr B s Ac mc cc Aa ma ca) ∧ Below W.heap.size W wr)) (fun v _ => ma - (intOf v).toNat)
      case atStart => exact ⟨0, rfl, Nat.zero_le _, Lib.hid H9.out⟩
      case round =>
        clear H9
        obtain ⟨j, rfl, hj, HA⟩ := hrel
        obtain ⟨e0, e1, e2, e3, e4, e5, e6, e7, e8, hf1⟩ := HA.out.1.2.cells
        by_cases hlt2 : j < ma
        · have hj0 : (0 : Int) ≤ (j : Int) := by omega
          have hj1 : (j : Int) < (ma : Int) := by omega
          have hjl : j < s.ac.length := by have := HA.out.1.2.ra.2; omega
          obtain ⟨b9, off, hAq, hbl, hcs⟩ := (own_rdT HA.out.1.2.ra HA.out.1.2.aok).cells (by omega)
          subst hAq
          have hlk := lk_nodup s.ac HNa.out j hjl
          have q0 : _ = _ := (hcs j hjl 0 (by decide)).trans (ncl_zero _)
          obtain ⟨k, hk⟩ : ∃ k, k = (s.ac[j]).1 := ⟨_, rfl⟩
          obtain ⟨C, hC⟩ : ∃ C, C = (s.ac[j]).2 := ⟨_, rfl⟩
          rw [← hk] at q0 hlk
          rw [← hC] at hlk
          have hCo : SumOk C := by rw [hC]; exact HA.out.1.2.aok _ (List.getElem_mem hjl)
          have hsm : sumOf k s.ac = C := by unfold sumOf; rw [hlk]; rfl
          have hac := acked_g k HA.out.1.1
          have hrv : (Mg.lk k s.ac).isSome = true := by rw [hlk]; rfl
          rw [hsm, hrv] at hac
          obtain ⟨b, hb, hneq⟩ := neq_sum C C hCo hCo
          have hbt : b = true := hb.2 rfl
          rw [hbt] at hneq
          have HNq := Lib.hid hneq
          have HAc := Lib.hid hac
          have HCo := Lib.hid hCo
          have HRv := Lib.hid hrv
          have HSm := Lib.hid hC.symm
          have HKk := Lib.hid hk.symm
          have q0' : wr.cell? ⟨b9, off + j * 33, none⟩ = some (.int .u64 k) := q0
          clear hbl hcs hlk hCo hsm hac hrv hb hbt hneq hC hk q0
          go_wp2_with fail
          refine HAc.out.mono ?_
          rintro _ w6 ⟨rfl, b6⟩
          have hst := run_storeCells_new (P := Tryz.prog) w6 TSm #[.int .u8 0, .int .u8 0, .int .u8 0, .int .u8 0, .int .u8 0, .int .u8 0, .int .u8 0, .int .u8 0, .int .u8 0, .int .u8 0, .int .u8 0, .int .u8 0, .int .u8 0, .int .u8 0, .int .u8 0, .int .u8 0, .int .u8 0, .int .u8 0, .int .u8 0, .int .u8 0, .int .u8 0, .int .u8 0, .int .u8 0, .int .u8 0, .int .u8 0, .int .u8 0, .int .u8 0, .int .u8 0, .int .u8 0, .int .u8 0, .int .u8 0, .int .u8 0] C (i32 C HCo.out.1) (by rw [HCo.out.1]; rfl) HCo.out.2.1
          have hCz := HCo.out.1
          go_upto_region 18 with fail
          clear hCz
          have b7 : Below wr.heap.size wr (w6.alloc (.cells C TSm)) := b6.alloc b6.size _
          have h7 : Hid ((LG (w6.alloc (.cells C TSm)) E M N s ∧ PN b0 (w6.alloc (.cells C TSm)) B s Ac mc cc (some ⟨b9, off, none⟩) ma ca) ∧ Below W.heap.size W (w6.alloc (.cells C TSm)) ∧ (w6.alloc (.cells C TSm)).heap[w6.heap.size]? = some (.cells C TSm (0, 0))) := Lib.hid ⟨lgp_below HA.out.1 b7, HA.out.2.trans (b7.mono HA.out.2.size), heap_alloc_new _ _⟩
          obtain ⟨G, hG⟩ : ∃ G, G = w6.heap.size := ⟨_, rfl⟩
          obtain ⟨w7, hw7⟩ : ∃ X, X = w6.alloc (.cells C TSm) := ⟨_, rfl⟩
          rw [← hw7] at h7 ⊢
          rw [← hG] at h7 ⊢
          clear hw7 hG b6 b7 hst q0' HAc HA e0 e1 e2 e3 e4 e5 e6 e7 e8 hf1
          have hHd : Hid ((LG w7.drew E M N s ∧ PN b0 w7.drew B s Ac mc cc (some ⟨b9, off, none⟩) ma ca) ∧ w7.drew.heap[G]? = some (.cells C TSm (0, 0))) := Lib.hid ⟨lgp_below h7.out.1 (Below.refl _ _).drew, h7.out.2.2⟩
          have HCs : Hid (∀ V, PN b0 V B s Ac mc cc (some ⟨b9, off, none⟩) ma ca → V.rangeAt b9 (off + j * 33 + 1) C.toList ∧ V.cell? ⟨b9, off + j * 33, none⟩ = some (.int .u64 k)) := Lib.hid fun V hV => by
            obtain ⟨b9', off', hA', _, hcs'⟩ := (own_rdT hV.ra hV.aok).cells (by omega)
            injection hA' with hA'
            injection hA' with h1 h2
            subst h1 h2
            refine ⟨?_, ?_⟩
            · rw [← HSm.out]
              exact ncl_sum (fun j' hj' => hcs' j hjl j' hj') (hV.aok _ (List.getElem_mem hjl))
            · rw [← HKk.out]
              exact (hcs' j hjl 0 (by decide)).trans (ncl_zero _)
          refine wp_region_held_drew (S := (fun V => (LG V E M N s ∧ PN b0 V B s Ac mc cc (some ⟨b9, off, none⟩) ma ca) ∧ V.heap[G]? = some (.cells C TSm (0, 0)))) (by kernel_rfl) hHd.out (fun hHeld => ?_)
          refine tk (i := 0) (v := ?_) rfl (by kernel_rfl) (fun _ _ _ h => h) (by rfl) ?_ (by assumption) ?_
          rotate_left
          · (intro W hSw; have hy := hSw.1.2.cells; have q0 := (HCs.out _ hSw.1.2).2; go_simp; try with_reducible rfl)
          try simp only [Act.put, gA, gZ, sA, sZ, sS]
          refine tk (i := 1) (v := ?_) rfl (by kernel_rfl) (fun _ _ _ h => h) (by rfl) ?_ (by assumption) ?_
          rotate_left
          · (intro W hSw; have hy := hSw.1.2.cells; have q0 := (HCs.out _ hSw.1.2).2; go_simp; try with_reducible rfl)
          try simp only [Act.put, gA, gS, gZ, sA, sZ, sS]
          refine tk (i := 2) (v := ?_) rfl (by kernel_rfl) (fun _ _ _ h => h) (by rfl) ?_ (by assumption) ?_
          rotate_left
          · (intro W hSw; have hy := hSw.1.2.cells; have q0 := (HCs.out _ hSw.1.2).2; go_simp; try with_reducible rfl)
          try simp only [Act.put, gA, gS, gZ, sA, sZ, sS]
          refine tk (i := 3) (v := ?_) rfl (by kernel_rfl) (fun _ _ _ h => h) (by rfl) ?_ (by assumption) ?_
          rotate_left
          · (intro W hSw; (refine Sha.yields_row TSm (.tmp 15) ?_ G ?_ TSm C (0, 0) _ hSw.2 Tryz.underlying58 rfl (i32 C HCo.out.1)); rfl; rfl)
          try simp only [Act.put, gA, gS, gZ, sA, sZ, sS]
          refine tk (i := 4) (v := ?_) rfl (by kernel_rfl) (fun _ _ _ h => h) (by rfl) ?_ (by assumption) ?_
          rotate_left
          · (intro W hSw; have hy := hSw.1.2.cells; have q0 := (HCs.out _ hSw.1.2).2; go_simp; try with_reducible rfl)
          try simp only [Act.put, gA, gS, gZ, sA, sZ, sS]
          refine tk (i := 5) (v := ?_) rfl (by kernel_rfl) (fun _ _ _ h => h) (by rfl) ?_ (by assumption) ?_
          rotate_left
          · (intro W hSw; have hy := hSw.1.2.cells; have q0 := (HCs.out _ hSw.1.2).2; go_simp; try with_reducible rfl)
          try simp only [Act.put, gA, gS, gZ, sA, sZ, sS]
          refine tk (i := 6) (v := ?_) rfl (by kernel_rfl) (fun _ _ _ h => h) (by rfl) ?_ (by assumption) ?_
          rotate_left
          · (intro W hSw; have hy := hSw.1.2.cells; have q0 := (HCs.out _ hSw.1.2).2; go_simp; try with_reducible rfl)
          try simp only [Act.put, gA, gS, gZ, sA, sZ, sS]
          refine tk (i := 7) (v := ?_) rfl (by kernel_rfl) (fun _ _ _ h => h) (by rfl) ?_ (by assumption) ?_
          rotate_left
          · (intro W hSw; have hy := hSw.1.2.cells; have q0 := (HCs.out _ hSw.1.2).2; go_simp; try with_reducible rfl)
          try simp only [Act.put, gA, gS, gZ, sA, sZ, sS]
          refine tk (i := 8) (v := ?_) rfl (by kernel_rfl) (fun _ _ _ h => h) (by rfl) ?_ (by assumption) ?_
          rotate_left
          · (intro W hSw; have hy := hSw.1.2.cells; have q0 := (HCs.out _ hSw.1.2).2; go_simp; try with_reducible rfl)
          try simp only [Act.put, gA, gS, gZ, sA, sZ, sS]
          refine tk (i := 9) (v := ?_) rfl (by kernel_rfl) (fun _ _ _ h => h) (by rfl) ?_ (by assumption) ?_
          rotate_left
          · (intro W hSw; have hy := hSw.1.2.cells; have q0 := (HCs.out _ hSw.1.2).2; go_simp; try with_reducible rfl)
          try simp only [Act.put, gA, gS, gZ, sA, sZ, sS]
          refine tk (i := 10) (v := ?_) rfl (by kernel_rfl) (fun _ _ _ h => h) (by rfl) ?_ (by assumption) ?_
          rotate_left
          · (intro W hSw; have hy := hSw.1.2.cells; have q0 := (HCs.out _ hSw.1.2).2; go_simp; try with_reducible rfl)
          try simp only [Act.put, gA, gS, gZ, sA, sZ, sS]
          refine tk (i := 11) (v := ?_) rfl (by kernel_rfl) (fun _ _ _ h => h) (by rfl) ?_ (by assumption) ?_
          rotate_left
          · (intro W hSw; (refine yields_mid TA3 (.tmp 153) ?_ b9 (off + j * 33 + 1) ?_ C _ (HCs.out _ hSw.1.2).1 Tryz.underlying57 rfl (a32 C HCo.out.1)); rfl; rfl)
          try simp only [Act.put, gA, gS, gZ, sA, sZ, sS]
          have hneq := HNq.out
          refine tk (i := 12) (v := ?_) rfl (by kernel_rfl) (fun _ _ _ h => h) (by rfl) ?_ (by assumption) ?_
          rotate_left
          · (intro W hSw; have hy := hSw.1.2.cells; have q0 := (HCs.out _ hSw.1.2).2; go_simp; try with_reducible rfl)
          try simp only [Act.put, gA, gS, gZ, sA, sZ, sS]
          refine tk (i := 13) (v := ?_) rfl (by kernel_rfl) (fun _ _ _ h => h) (by rfl) ?_ (by assumption) ?_
          rotate_left
          · (intro W hSw; have hy := hSw.1.2.cells; have q0 := (HCs.out _ hSw.1.2).2; go_simp; try with_reducible rfl)
          try simp only [Act.put, gA, gS, gZ, sA, sZ, sS]
          refine tk (i := 14) (v := ?_) rfl (by kernel_rfl) (fun _ _ _ h => h) (by rfl) ?_ (by assumption) ?_
          rotate_left
          · (intro W hSw; have hy := hSw.1.2.cells; have q0 := (HCs.out _ hSw.1.2).2; go_simp; try with_reducible rfl)
          try simp only [Act.put, gA, gS, gZ, sA, sZ, sS]
          refine tk (i := 15) (v := ?_) rfl (by kernel_rfl) (fun _ _ _ h => h) (by rfl) ?_ (by assumption) ?_
          rotate_left
          · (intro W hSw; have hy := hSw.1.2.cells; have q0 := (HCs.out _ hSw.1.2).2; go_simp; try with_reducible rfl)
          try simp only [Act.put, gA, gS, gZ, sA, sZ, sS]
          refine tk (i := 16) (v := ?_) rfl (by kernel_rfl) (fun _ _ _ h => h) (by rfl) ?_ (by assumption) ?_
          rotate_left
          · (intro W hSw; have hy := hSw.1.2.cells; have q0 := (HCs.out _ hSw.1.2).2; go_simp; try with_reducible rfl)
          try simp only [Act.put, gA, gS, gZ, sA, sZ, sS]
          refine tk (i := 17) (v := ?_) rfl (by kernel_rfl) (fun _ _ _ h => h) (by rfl) ?_ (by assumption) ?_
          rotate_left
          · (intro W hSw; have hy := hSw.1.2.cells; have q0 := (HCs.out _ hSw.1.2).2; go_simp; try with_reducible rfl)
          try simp only [Act.put, gA, gS, gZ, sA, sZ, sS]
          refine tk (i := 18) (v := ?_) rfl (by kernel_rfl) (fun _ _ _ h => h) (by rfl) ?_ (by assumption) ?_
          rotate_left
          · (intro W hSw; have hy := hSw.1.2.cells; have q0 := (HCs.out _ hSw.1.2).2; go_simp; try with_reducible rfl)
          try simp only [Act.put, gA, gS, gZ, sA, sZ, sS]
          refine tk (i := 19) (v := ?_) rfl (by kernel_rfl) (fun _ _ _ h => h) (by rfl) ?_ (by assumption) ?_
          rotate_left
          · (intro W hSw; have hy := hSw.1.2.cells; have q0 := (HCs.out _ hSw.1.2).2; go_simp; try with_reducible rfl)
          try simp only [Act.put, gA, gS, gZ, sA, sZ, sS]
          refine tk (i := 20) (v := ?_) rfl (by kernel_rfl) (fun _ _ _ h => h) (by rfl) ?_ (by assumption) ?_
          rotate_left
          · (intro W hSw; have hy := hSw.1.2.cells; have q0 := (HCs.out _ hSw.1.2).2; go_simp; try with_reducible rfl)
          try simp only [Act.put, gA, gS, gZ, sA, sZ, sS]
          refine tk (i := 21) (v := ?_) rfl (by kernel_rfl) (fun _ _ _ h => h) (by rfl) ?_ (by assumption) ?_
          rotate_left
          · (intro W hSw; have hy := hSw.1.2.cells; have q0 := (HCs.out _ hSw.1.2).2; go_simp; try with_reducible rfl)
          try simp only [Act.put, gA, gS, gZ, sA, sZ, sS]
          refine tk (i := 22) (v := ?_) rfl (by kernel_rfl) (fun _ _ _ h => h) (by rfl) ?_ (by assumption) ?_
          rotate_left
          · (intro W hSw; have hy := hSw.1.2.cells; have q0 := (HCs.out _ hSw.1.2).2; go_simp; try with_reducible rfl)
          try simp only [Act.put, gA, gS, gZ, sA, sZ, sS]
          refine tk (i := 23) (v := ?_) rfl (by kernel_rfl) (fun _ _ _ h => h) (by rfl) ?_ (by assumption) ?_
          rotate_left
          · (intro W hSw; have hy := hSw.1.2.cells; have q0 := (HCs.out _ hSw.1.2).2; go_simp; try with_reducible rfl)
          try simp only [Act.put, gA, gS, gZ, sA, sZ, sS]
          refine wpAnyH_ready (rs := [24]) (by kernel_rfl) (by simp) ?_
          refine AllReadyH.cons rfl (fun K hK => ?_) AllReadyH.nil
          simp only [gA, gS, gZ]
          rw [if_pos (by rfl)]
          go_simp
          (refine (HRv.out ▸ received_g k hHeld.1.1).mono ?_; rintro e w8 ⟨rfl, hb8⟩; have hHb := Lib.hid hb8)
          go_wp2_with fail
          refine hK.out _ _ ⟨lgp_below hHeld.1 hb8, (hb8.block _ (lt_of hHeld.2)).trans hHeld.2⟩ (fun hHeld => ?_)
          clear hK K
          try simp only [Act.put, gA, gS, gZ, sA, sZ, sS]
          refine tk (i := 25) (v := ?_) rfl (by kernel_rfl) (fun _ _ _ h => h) (by rfl) ?_ (by assumption) ?_
          rotate_left
          · (intro W hSw; have hy := hSw.1.2.cells; have q0 := (HCs.out _ hSw.1.2).2; go_simp; try with_reducible rfl)
          try simp only [Act.put, gA, gS, gZ, sA, sZ, sS]
          refine tk (i := 26) (v := ?_) rfl (by kernel_rfl) (fun _ _ _ h => h) (by rfl) ?_ (by assumption) ?_
          rotate_left
          · (intro W hSw; have hy := hSw.1.2.cells; have q0 := (HCs.out _ hSw.1.2).2; go_simp; try with_reducible rfl)
          try simp only [Act.put, gA, gS, gZ, sA, sZ, sS]
          refine wpAnyH_done (by kernel_rfl) ?_ _
          have hfin : Hid ((LG w8 E M N s ∧ PN b0 w8 B s Ac mc cc (some ⟨b9, off, none⟩) ma ca) ∧ Below W.heap.size W w8) := Lib.hid ⟨hHeld.1, h7.out.2.1.drew.trans (hHb.out.mono h7.out.2.1.drew.size)⟩
          clear hneq hHeld
          go_wp2
          go_roundw
          case rel => exact ⟨j + 1, by go_num, by omega, Lib.hid hfin.out⟩
          case measure => simp [intOf]; omega
        · obtain rfl : j = ma := by omega
          have hii : ¬ ((j : Int) < (j : Int)) := by omega
          go_wp2
          go_ret
          exact ⟨rfl, HA.out.2⟩
end Go.Proofs.YtdljphbfbiganaaGreatDoor.Pl
