import Derived.Test.YtdljphbfbiganaaGreatDoorTk
import Derived.Test.YtdljphbfbiganaaGreatDoorGShaTurned
/- What a block makes of a state, by the page: muleteerref02.Turn. -/
namespace Go.Proofs.YtdljphbfbiganaaGreatDoor.Sha
open Go.RowKit

set_option maxRecDepth 100000 in
set_option maxHeartbeats 4000000 in
theorem rturn_any (S : St) (s : ByteArray) (hs : s.size = 64) (b cap : Nat) (w : World) (cs : Array Value) (hst : w.heap[b]? = some (.cells cs 85 (0, 0))) (hfirst : First8 cs S) :
    Calls Tryz.prog 52 #[.slice (some ⟨b, 0, none⟩) 8 cap, .string s] w
      fun r w' => ∃ g, r = .returned (.slice (some ⟨g, 0, none⟩) 8 8) ∧ w'.heap[g]? = some (.cells #[.int .u32 ((turn S s.data.toList).a.toNat : Int), .int .u32 ((turn S s.data.toList).b.toNat : Int), .int .u32 ((turn S s.data.toList).c.toNat : Int), .int .u32 ((turn S s.data.toList).d.toNat : Int), .int .u32 ((turn S s.data.toList).e.toNat : Int), .int .u32 ((turn S s.data.toList).f.toNat : Int), .int .u32 ((turn S s.data.toList).g.toNat : Int), .int .u32 ((turn S s.data.toList).h.toNat : Int)] 85 (0, 0)) ∧ Below w.heap.size w w' := by
  obtain ⟨i0, hi, hz0, hz1, hz2⟩ := info_parts infoW
  have HZ := Lib.hid hs; clear hs
  have HST := Lib.hid hst; clear hst
  have HF8 := Lib.hid hfirst; clear hfirst
  have HY := Lib.hid hz2
  go_enter Tryz.func52, Tryz.ntmps52
  go_wp2_with fail
  go_loopw [5, 6] (fun v i wr => ∃ (k : Nat), k ≤ 64 ∧ i = .int .i64 k ∧ wr.ownsRow w.heap.size 85 1 v k (wl s.data.toList k) ∧ Below w.heap.size w wr) (fun _ i _ => 64 - (intOf i).toNat)
  case atStart => exact ⟨0, by omega, rfl, World.ownsRow_nil _ _ _ _, Below.refl _ _⟩
  case round =>
    obtain ⟨k, hk, rfl, hown, hB⟩ := hrel
    obtain ⟨A, c, rfl⟩ := own_form hown
    have HO := Lib.hid hown
    clear hown
    rcases Nat.lt_or_ge k 64 with hlt | hge
    · have hk64 : (k : Int) < 64 := by omega
      by_cases h16 : k < 16
      · obtain ⟨J, hJ⟩ : ∃ J : Nat, J = 4 * k := ⟨_, rfl⟩
        obtain ⟨J1, hJ1⟩ : ∃ J1 : Nat, J1 = J + 1 := ⟨_, rfl⟩
        obtain ⟨J2, hJ2⟩ : ∃ J2 : Nat, J2 = J + 2 := ⟨_, rfl⟩
        obtain ⟨J3, hJ3⟩ : ∃ J3 : Nat, J3 = J + 3 := ⟨_, rfl⟩
        have x0 : (J : Int) < 64 := by omega
        have x1 : (J1 : Int) < 64 := by omega
        have x2 : (J2 : Int) < 64 := by omega
        have x3 : (J3 : Int) < 64 := by omega
        have y0 : IntKind.i64.wrap ((4 : Int) * (k : Int)) = (J : Int) := by rw [IntWalk.i64_in _ (by omega)]; omega
        have y1 : IntKind.i64.wrap ((J : Int) + 1) = (J1 : Int) := by rw [IntWalk.i64_in _ (by omega)]; omega
        have y2 : IntKind.i64.wrap ((J : Int) + 2) = (J2 : Int) := by rw [IntWalk.i64_in _ (by omega)]; omega
        have y3 : IntKind.i64.wrap ((J : Int) + 3) = (J3 : Int) := by rw [IntWalk.i64_in _ (by omega)]; omega
        have K0 := Lib.hid hJ
        have K1 := Lib.hid hJ1
        have K2 := Lib.hid hJ2
        have K3 := Lib.hid hJ3
        have hss := HZ.out
        clear hJ hJ1 hJ2 hJ3
        have hle : w.heap.size ≤ wr.heap.size := hB.size
        go_wp2_with fail
        refine wp_region_held_drew (S := (fun W => Below w.heap.size w W ∧ W.ownsRow w.heap.size 85 1 (.slice A k c) k (wl s.data.toList k))) (by kernel_rfl) ⟨hB.drew, HO.out⟩ (fun hHeld => ?_)
        refine tk (i := 0) (v := ?_) rfl (by kernel_rfl) (fun _ _ _ h => h) (by rfl) ?_ (by assumption) ?_
        rotate_left
        · (intro W hSw; (try dsimp only at hSw); go_simp; try with_reducible rfl)
        try simp only [Act.put, gA, gZ, sA, sZ, sS]
        refine tk (i := 1) (v := ?_) rfl (by kernel_rfl) (fun _ _ _ h => h) (by rfl) ?_ (by assumption) ?_
        rotate_left
        · (intro W hSw; (try dsimp only at hSw); go_simp; try with_reducible rfl)
        try simp only [Act.put, gA, gS, gZ, sA, sZ, sS]
        refine tk (i := 2) (v := ?_) rfl (by kernel_rfl) (fun _ _ _ h => h) (by rfl) ?_ (by assumption) ?_
        rotate_left
        · (intro W hSw; (try dsimp only at hSw); go_simp; try with_reducible rfl)
        try simp only [Act.put, gA, gS, gZ, sA, sZ, sS]
        refine tk (i := 3) (v := ?_) rfl (by kernel_rfl) (fun _ _ _ h => h) (by rfl) ?_ (by assumption) ?_
        rotate_left
        · (intro W hSw; (try dsimp only at hSw); go_simp; try with_reducible rfl)
        try simp only [Act.put, gA, gS, gZ, sA, sZ, sS]
        refine tk (i := 4) (v := ?_) rfl (by kernel_rfl) (fun _ _ _ h => h) (by rfl) ?_ (by assumption) ?_
        rotate_left
        · (intro W hSw; (try dsimp only at hSw); go_simp; try with_reducible rfl)
        try simp only [Act.put, gA, gS, gZ, sA, sZ, sS]
        refine tk (i := 5) (v := ?_) rfl (by kernel_rfl) (fun _ _ _ h => h) (by rfl) ?_ (by assumption) ?_
        rotate_left
        · (intro W hSw; (try dsimp only at hSw); go_simp; try with_reducible rfl)
        try simp only [Act.put, gA, gS, gZ, sA, sZ, sS]
        refine tk (i := 6) (v := ?_) rfl (by kernel_rfl) (fun _ _ _ h => h) (by rfl) ?_ (by assumption) ?_
        rotate_left
        · (intro W hSw; (try dsimp only at hSw); go_simp; try with_reducible rfl)
        try simp only [Act.put, gA, gS, gZ, sA, sZ, sS]
        refine tk (i := 7) (v := ?_) rfl (by kernel_rfl) (fun _ _ _ h => h) (by rfl) ?_ (by assumption) ?_
        rotate_left
        · (intro W hSw; (try dsimp only at hSw); go_simp; try with_reducible rfl)
        try simp only [Act.put, gA, gS, gZ, sA, sZ, sS]
        refine tk (i := 8) (v := ?_) rfl (by kernel_rfl) (fun _ _ _ h => h) (by rfl) ?_ (by assumption) ?_
        rotate_left
        · (intro W hSw; (try dsimp only at hSw); go_simp; try with_reducible rfl)
        try simp only [Act.put, gA, gS, gZ, sA, sZ, sS]
        refine tk (i := 9) (v := ?_) rfl (by kernel_rfl) (fun _ _ _ h => h) (by rfl) ?_ (by assumption) ?_
        rotate_left
        · (intro W hSw; (try dsimp only at hSw); go_simp; try with_reducible rfl)
        try simp only [Act.put, gA, gS, gZ, sA, sZ, sS]
        refine tk (i := 10) (v := ?_) rfl (by kernel_rfl) (fun _ _ _ h => h) (by rfl) ?_ (by assumption) ?_
        rotate_left
        · (intro W hSw; (try dsimp only at hSw); go_simp; try with_reducible rfl)
        try simp only [Act.put, gA, gS, gZ, sA, sZ, sS]
        refine tk (i := 11) (v := ?_) rfl (by kernel_rfl) (fun _ _ _ h => h) (by rfl) ?_ (by assumption) ?_
        rotate_left
        · (intro W hSw; (try dsimp only at hSw); go_simp; try with_reducible rfl)
        try simp only [Act.put, gA, gS, gZ, sA, sZ, sS]
        refine tk (i := 12) (v := ?_) rfl (by kernel_rfl) (fun _ _ _ h => h) (by rfl) ?_ (by assumption) ?_
        rotate_left
        · (intro W hSw; (try dsimp only at hSw); go_simp; try with_reducible rfl)
        try simp only [Act.put, gA, gS, gZ, sA, sZ, sS]
        refine tk (i := 13) (v := ?_) rfl (by kernel_rfl) (fun _ _ _ h => h) (by rfl) ?_ (by assumption) ?_
        rotate_left
        · (intro W hSw; (try dsimp only at hSw); go_simp; try with_reducible rfl)
        try simp only [Act.put, gA, gS, gZ, sA, sZ, sS]
        refine tk (i := 14) (v := ?_) rfl (by kernel_rfl) (fun _ _ _ h => h) (by rfl) ?_ (by assumption) ?_
        rotate_left
        · (intro W hSw; (try dsimp only at hSw); go_simp; try with_reducible rfl)
        try simp only [Act.put, gA, gS, gZ, sA, sZ, sS]
        refine tk (i := 15) (v := ?_) rfl (by kernel_rfl) (fun _ _ _ h => h) (by rfl) ?_ (by assumption) ?_
        rotate_left
        · (intro W hSw; (try dsimp only at hSw); go_simp; try with_reducible rfl)
        try simp only [Act.put, gA, gS, gZ, sA, sZ, sS]
        refine tk (i := 16) (v := ?_) rfl (by kernel_rfl) (fun _ _ _ h => h) (by rfl) ?_ (by assumption) ?_
        rotate_left
        · (intro W hSw; (try dsimp only at hSw); go_simp; try with_reducible rfl)
        try simp only [Act.put, gA, gS, gZ, sA, sZ, sS]
        refine tk (i := 17) (v := ?_) rfl (by kernel_rfl) (fun _ _ _ h => h) (by rfl) ?_ (by assumption) ?_
        rotate_left
        · (intro W hSw; (try dsimp only at hSw); go_simp; try with_reducible rfl)
        try simp only [Act.put, gA, gS, gZ, sA, sZ, sS]
        refine tk (i := 18) (v := ?_) rfl (by kernel_rfl) (fun _ _ _ h => h) (by rfl) ?_ (by assumption) ?_
        rotate_left
        · (intro W hSw; (try dsimp only at hSw); go_simp; try with_reducible rfl)
        try simp only [Act.put, gA, gS, gZ, sA, sZ, sS]
        refine tk (i := 19) (v := ?_) rfl (by kernel_rfl) (fun _ _ _ h => h) (by rfl) ?_ (by assumption) ?_
        rotate_left
        · (intro W hSw; (try dsimp only at hSw); go_simp; try with_reducible rfl)
        try simp only [Act.put, gA, gS, gZ, sA, sZ, sS]
        refine tk (i := 20) (v := ?_) rfl (by kernel_rfl) (fun _ _ _ h => h) (by rfl) ?_ (by assumption) ?_
        rotate_left
        · (intro W hSw; (try dsimp only at hSw); go_simp; try with_reducible rfl)
        try simp only [Act.put, gA, gS, gZ, sA, sZ, sS]
        refine tk (i := 21) (v := ?_) rfl (by kernel_rfl) (fun _ _ _ h => h) (by rfl) ?_ (by assumption) ?_
        rotate_left
        · (intro W hSw; (try dsimp only at hSw); go_simp; try with_reducible rfl)
        try simp only [Act.put, gA, gS, gZ, sA, sZ, sS]
        refine tk (i := 22) (v := ?_) rfl (by kernel_rfl) (fun _ _ _ h => h) (by rfl) ?_ (by assumption) ?_
        rotate_left
        · (intro W hSw; (try dsimp only at hSw); go_simp; try with_reducible rfl)
        try simp only [Act.put, gA, gS, gZ, sA, sZ, sS]
        refine tk (i := 23) (v := ?_) rfl (by kernel_rfl) (fun _ _ _ h => h) (by rfl) ?_ (by assumption) ?_
        rotate_left
        · (intro W hSw; (try dsimp only at hSw); go_simp; try with_reducible rfl)
        try simp only [Act.put, gA, gS, gZ, sA, sZ, sS]
        refine tk (i := 24) (v := ?_) rfl (by kernel_rfl) (fun _ _ _ h => h) (by rfl) ?_ (by assumption) ?_
        rotate_left
        · (intro W hSw; (try dsimp only at hSw); go_simp; try with_reducible rfl)
        try simp only [Act.put, gA, gS, gZ, sA, sZ, sS]
        refine tk (i := 25) (v := ?_) rfl (by kernel_rfl) (fun _ _ _ h => h) (by rfl) ?_ (by assumption) ?_
        rotate_left
        · (intro W hSw; (try dsimp only at hSw); go_simp; try with_reducible rfl)
        try simp only [Act.put, gA, gS, gZ, sA, sZ, sS]
        refine tk (i := 26) (v := ?_) rfl (by kernel_rfl) (fun _ _ _ h => h) (by rfl) ?_ (by assumption) ?_
        rotate_left
        · (intro W hSw; (try dsimp only at hSw); go_simp; try with_reducible rfl)
        try simp only [Act.put, gA, gS, gZ, sA, sZ, sS]
        refine tk (i := 27) (v := ?_) rfl (by kernel_rfl) (fun _ _ _ h => h) (by rfl) ?_ (by assumption) ?_
        rotate_left
        · (intro W hSw; (try dsimp only at hSw); go_simp; try with_reducible rfl)
        try simp only [Act.put, gA, gS, gZ, sA, sZ, sS]
        refine tk (i := 28) (v := ?_) rfl (by kernel_rfl) (fun _ _ _ h => h) (by rfl) ?_ (by assumption) ?_
        rotate_left
        · (intro W hSw; (try dsimp only at hSw); go_simp; try with_reducible rfl)
        try simp only [Act.put, gA, gS, gZ, sA, sZ, sS]
        refine tk (i := 29) (v := ?_) rfl (by kernel_rfl) (fun _ _ _ h => h) (by rfl) ?_ (by assumption) ?_
        rotate_left
        · (intro W hSw; (try dsimp only at hSw); go_simp; try with_reducible rfl)
        try simp only [Act.put, gA, gS, gZ, sA, sZ, sS]
        refine wpAnyH_ready (rs := [30]) (by kernel_rfl) (by simp) ?_
        refine AllReadyH.cons rfl (fun K hK => ?_) AllReadyH.nil
        simp only [gA, gS, gZ]
        rw [if_pos (by rfl)]
        go_simp
        refine hK.out _ _ ⟨(hB.alloc hle _).drew, World.ownsRow.drew (World.ownsRow.alloc HO.out _)⟩ (fun hHeld => ?_)
        clear hK K
        try simp only [Act.put, gA, gS, gZ, sA, sZ, sS]
        refine wpAnyH_ready (rs := [31]) (by kernel_rfl) (by simp) ?_
        refine AllReadyH.cons rfl (fun K hK => ?_) AllReadyH.nil
        simp only [gA, gS, gZ]
        rw [if_pos (by rfl)]
        (refine wp_append_keep _ _ _ _ (by rfl) w.heap.size 85 i0 _ 1 4 Tryz.underlying90 hi hz0 hz1 HY.out rfl (by decide) _ _ _ (by rfl) (World.ownsRow.drew (World.ownsRow.alloc HO.out _)) ⟨wr.heap.size, 0, none⟩ 1 1 [.int .u32 _] (by rfl) rfl (cell_one_new _ _ _) (one_one rfl) (by decide) (by unfold maxLen; omega) (by omega) (by simp; omega) (wr.heap.size + 1) (by simp) ?_; intro g2 cap2 w2 hown2 hg2 hat2 hold2; have hS2 := And.intro (below_pushD hB hle HO.out hg2) hold2)
        refine hK.out _ _ hS2 (fun hHeld => ?_)
        clear hK K
        try simp only [Act.put, sA, sZ, sS]
        refine tk (i := 32) (v := ?_) rfl (by kernel_rfl) (fun _ _ _ h => h) (by rfl) ?_ (by assumption) ?_
        rotate_left
        · (intro W hSw; (try dsimp only at hSw); go_simp; try with_reducible rfl)
        try simp only [Act.put, gA, gS, gZ, sA, sZ, sS]
        refine wpAnyH_done (by kernel_rfl) ?_ _
        have hx := word_of s k J J1 J2 J3 HZ.out h16 K0.out K1.out K2.out K3.out
        rw [add4, ← hx] at hown2
        have hw := wl_next s.data.toList k (word s.data.toList k) (by rw [if_pos h16])
        have HO2 := Lib.hid (show w2.ownsRow w.heap.size 85 1 (.slice (some ⟨g2, 0, none⟩) (k + 1) cap2) (k + 1) (wl s.data.toList (k + 1)) by rw [hw]; exact hown2)
        have HB2 := Lib.hid hS2.1
        clear hS2 hown2 hg2 hold2 hat2 hw hx y0 y1 y2 y3
        go_wp2
        go_roundw
        case rel => exact ⟨k + 1, by omega, by go_num, HO2.out, HB2.out⟩
        case measure => simp [intOf]; omega
      · obtain ⟨j2, hj2⟩ : ∃ a : Nat, a + 2 = k := ⟨k - 2, by omega⟩
        obtain ⟨j7, hj7⟩ : ∃ b : Nat, b + 7 = k := ⟨k - 7, by omega⟩
        obtain ⟨j15, hj15⟩ : ∃ c : Nat, c + 15 = k := ⟨k - 15, by omega⟩
        obtain ⟨j16, hj16⟩ : ∃ d : Nat, d + 16 = k := ⟨k - 16, by omega⟩
        have x2 : (j2 : Int) < k := by omega
        have x7 : (j7 : Int) < k := by omega
        have x15 : (j15 : Int) < k := by omega
        have x16 : (j16 : Int) < k := by omega
        have y7 : IntKind.i64.wrap ((k : Int) - 7) = (j7 : Int) := by rw [IntWalk.i64_in _ (by omega)]; omega
        have y16 : IntKind.i64.wrap ((k : Int) - 16) = (j16 : Int) := by rw [IntWalk.i64_in _ (by omega)]; omega
        have y2 : (k : Int) - 2 = (j2 : Int) := by omega
        have y15 : (k : Int) - 15 = (j15 : Int) := by omega
        have hn : next (words s.data.toList k) = small1 ((words s.data.toList k).getD j2 0) + (words s.data.toList k).getD j7 0 + small0 ((words s.data.toList k).getD j15 0) + (words s.data.toList k).getD j16 0 := by
          unfold next
          rw [words_len, show k - 2 = j2 by omega, show k - 7 = j7 by omega, show k - 15 = j15 by omega, show k - 16 = j16 by omega]
        obtain ⟨g, c', hv, hg, -⟩ := own_word HO.out j2 (by omega)
        injection hv with hA _ hc
        subst hA
        subst hc
        have HP : Hid (∀ W : World, W.ownsRow w.heap.size 85 1 (.slice (some ⟨g, 0, none⟩) k c) k (wl s.data.toList k) → W.cell? ⟨g, j2, none⟩ = some (.int .u32 (((words s.data.toList k).getD j2 0).toNat : Int)) ∧ W.cell? ⟨g, j7, none⟩ = some (.int .u32 (((words s.data.toList k).getD j7 0).toNat : Int)) ∧ W.cell? ⟨g, j15, none⟩ = some (.int .u32 (((words s.data.toList k).getD j15 0).toNat : Int)) ∧ W.cell? ⟨g, j16, none⟩ = some (.int .u32 (((words s.data.toList k).getD j16 0).toNat : Int))) := Lib.hid (fun W hW => by
          obtain ⟨_, _, h2, _, q2⟩ := own_word hW j2 (by omega)
          obtain ⟨_, _, h7, _, q7⟩ := own_word hW j7 (by omega)
          obtain ⟨_, _, h15, _, q15⟩ := own_word hW j15 (by omega)
          obtain ⟨_, _, h16, _, q16⟩ := own_word hW j16 (by omega)
          injection h2 with h2 _ _; injection h2 with h2; injection h2 with h2
          injection h7 with h7 _ _; injection h7 with h7; injection h7 with h7
          injection h15 with h15 _ _; injection h15 with h15; injection h15 with h15
          injection h16 with h16 _ _; injection h16 with h16; injection h16 with h16
          subst h2; subst h7; subst h15; subst h16
          exact ⟨q2, q7, q15, q16⟩)
        generalize (words s.data.toList k).getD j2 0 = V2 at hn HP
        generalize (words s.data.toList k).getD j7 0 = V7 at hn HP
        generalize (words s.data.toList k).getD j15 0 = V15 at hn HP
        generalize (words s.data.toList k).getD j16 0 = V16 at hn HP
        obtain ⟨q2, q7, q15, q16⟩ := HP.out wr HO.out
        have HN := Lib.hid hn
        have hgl : g < wr.heap.size := by obtain ⟨_, _, hv, _, hl⟩ := World.ownsRow.form HO.out (by omega); injection hv with h _ _; injection h with h; injection h with h; omega
        clear hn hj2 hj7 hj15 hj16
        have hle : w.heap.size ≤ wr.heap.size := hB.size
        have k16 : ¬ (k : Int) < 16 := by omega
        go_wp2_with fail
        refine wp_region_held_drew (S := (fun W => Below w.heap.size w W ∧ W.ownsRow w.heap.size 85 1 (.slice (some ⟨g, 0, none⟩) k c) k (wl s.data.toList k) ∧ W.cell? ⟨g, j7, none⟩ = some (.int .u32 (V7.toNat : Int)) ∧ W.cell? ⟨g, j16, none⟩ = some (.int .u32 (V16.toNat : Int)))) (by kernel_rfl) ⟨hB.drew, HO.out, q7, q16⟩ (fun hHeld => ?_)
        refine tk (i := 0) (v := ?_) rfl (by kernel_rfl) (fun _ _ _ h => h) (by rfl) ?_ (by assumption) ?_
        rotate_left
        · (intro W hSw; (try dsimp only at hSw); go_simp; try with_reducible rfl)
        try simp only [Act.put, gA, gZ, sA, sZ, sS]
        refine tk (i := 1) (v := ?_) rfl (by kernel_rfl) (fun _ _ _ h => h) (by rfl) ?_ (by assumption) ?_
        rotate_left
        · (intro W hSw; (try dsimp only at hSw); go_simp; try with_reducible rfl)
        try simp only [Act.put, gA, gS, gZ, sA, sZ, sS]
        refine tk (i := 3) (v := ?_) rfl (by kernel_rfl) (fun _ _ _ h => h) (by rfl) ?_ (by assumption) ?_
        rotate_left
        · (intro W hSw; (try dsimp only at hSw); go_simp; try with_reducible rfl)
        try simp only [Act.put, gA, gS, gZ, sA, sZ, sS]
        refine tk (i := 6) (v := ?_) rfl (by kernel_rfl) (fun _ _ _ h => h) (by rfl) ?_ (by assumption) ?_
        rotate_left
        · (intro W hSw; (try dsimp only at hSw); go_simp; try with_reducible rfl)
        try simp only [Act.put, gA, gS, gZ, sA, sZ, sS]
        refine tk (i := 7) (v := ?_) rfl (by kernel_rfl) (fun _ _ _ h => h) (by rfl) ?_ (by assumption) ?_
        rotate_left
        · (intro W hSw; (try dsimp only at hSw); go_simp; try with_reducible rfl)
        try simp only [Act.put, gA, gS, gZ, sA, sZ, sS]
        refine tk (i := 9) (v := ?_) rfl (by kernel_rfl) (fun _ _ _ h => h) (by rfl) ?_ (by assumption) ?_
        rotate_left
        · (intro W hSw; (try dsimp only at hSw); go_simp; try with_reducible rfl)
        try simp only [Act.put, gA, gS, gZ, sA, sZ, sS]
        refine tk (i := 10) (v := ?_) rfl (by kernel_rfl) (fun _ _ _ h => h) (by rfl) ?_ (by assumption) ?_
        rotate_left
        · (intro W hSw; (try dsimp only at hSw); go_simp; try with_reducible rfl)
        try simp only [Act.put, gA, gS, gZ, sA, sZ, sS]
        refine tk (i := 11) (v := ?_) rfl (by kernel_rfl) (fun _ _ _ h => h) (by rfl) ?_ (by assumption) ?_
        rotate_left
        · (intro W hSw; (try dsimp only at hSw); go_simp; try with_reducible rfl)
        try simp only [Act.put, gA, gS, gZ, sA, sZ, sS]
        refine tk (i := 12) (v := ?_) rfl (by kernel_rfl) (fun _ _ _ h => h) (by rfl) ?_ (by assumption) ?_
        rotate_left
        · (intro W hSw; (try dsimp only at hSw); go_simp; try with_reducible rfl)
        try simp only [Act.put, gA, gS, gZ, sA, sZ, sS]
        refine tk (i := 13) (v := ?_) rfl (by kernel_rfl) (fun _ _ _ h => h) (by rfl) ?_ (by assumption) ?_
        rotate_left
        · (intro W hSw; (try dsimp only at hSw); go_simp; try with_reducible rfl)
        try simp only [Act.put, gA, gS, gZ, sA, sZ, sS]
        refine tk (i := 15) (v := ?_) rfl (by kernel_rfl) (fun _ _ _ h => h) (by rfl) ?_ (by assumption) ?_
        rotate_left
        · (intro W hSw; (try dsimp only at hSw); go_simp; try with_reducible rfl)
        try simp only [Act.put, gA, gS, gZ, sA, sZ, sS]
        refine tk (i := 17) (v := ?_) rfl (by kernel_rfl) (fun _ _ _ h => h) (by rfl) ?_ (by assumption) ?_
        rotate_left
        · (intro W hSw; (try dsimp only at hSw); go_simp; try with_reducible rfl)
        try simp only [Act.put, gA, gS, gZ, sA, sZ, sS]
        refine tk (i := 20) (v := ?_) rfl (by kernel_rfl) (fun _ _ _ h => h) (by rfl) ?_ (by assumption) ?_
        rotate_left
        · (intro W hSw; (try dsimp only at hSw); go_simp; try with_reducible rfl)
        try simp only [Act.put, gA, gS, gZ, sA, sZ, sS]
        refine tk (i := 21) (v := ?_) rfl (by kernel_rfl) (fun _ _ _ h => h) (by rfl) ?_ (by assumption) ?_
        rotate_left
        · (intro W hSw; (try dsimp only at hSw); go_simp; try with_reducible rfl)
        try simp only [Act.put, gA, gS, gZ, sA, sZ, sS]
        refine tk (i := 24) (v := ?_) rfl (by kernel_rfl) (fun _ _ _ h => h) (by rfl) ?_ (by assumption) ?_
        rotate_left
        · (intro W hSw; (try dsimp only at hSw); go_simp; try with_reducible rfl)
        try simp only [Act.put, gA, gS, gZ, sA, sZ, sS]
        refine tk (i := 25) (v := ?_) rfl (by kernel_rfl) (fun _ _ _ h => h) (by rfl) ?_ (by assumption) ?_
        rotate_left
        · (intro W hSw; (try dsimp only at hSw); go_simp; try with_reducible rfl)
        try simp only [Act.put, gA, gS, gZ, sA, sZ, sS]
        refine tk (i := 26) (v := ?_) rfl (by kernel_rfl) (fun _ _ _ h => h) (by rfl) ?_ (by assumption) ?_
        rotate_left
        · (intro W hSw; (try dsimp only at hSw); go_simp; try with_reducible rfl)
        try simp only [Act.put, gA, gS, gZ, sA, sZ, sS]
        refine tk (i := 27) (v := ?_) rfl (by kernel_rfl) (fun _ _ _ h => h) (by rfl) ?_ (by assumption) ?_
        rotate_left
        · (intro W hSw; (try dsimp only at hSw); go_simp; try with_reducible rfl)
        try simp only [Act.put, gA, gS, gZ, sA, sZ, sS]
        refine tk (i := 28) (v := ?_) rfl (by kernel_rfl) (fun _ _ _ h => h) (by rfl) ?_ (by assumption) ?_
        rotate_left
        · (intro W hSw; (try dsimp only at hSw); go_simp; try with_reducible rfl)
        try simp only [Act.put, gA, gS, gZ, sA, sZ, sS]
        refine wpAnyH_ready (rs := [2]) (by kernel_rfl) (by simp) ?_
        refine AllReadyH.cons rfl (fun K hK => ?_) AllReadyH.nil
        simp only [gA, gS, gZ]
        rw [if_pos (by rfl)]
        go_simp
        (go_at_call 66; refine (turned_any _ _ _ (by decide)).mono ?_; rintro _ _ ⟨rfl, nd, rfl⟩)
        go_wp2_with fail
        refine hK.out _ _ ⟨below_drewN hB _, HO.out, q7, q16⟩ (fun hHeld => ?_)
        clear hK K
        try simp only [Act.put, gA, gS, gZ, sA, sZ, sS]
        refine wpAnyH_ready (rs := [4]) (by kernel_rfl) (by simp) ?_
        refine AllReadyH.cons rfl (fun K hK => ?_) AllReadyH.nil
        simp only [gA, gS, gZ]
        rw [if_pos (by rfl)]
        go_simp
        (go_at_call 66; refine (turned_any _ _ _ (by decide)).mono ?_; rintro _ _ ⟨rfl, nd, rfl⟩)
        go_wp2_with fail
        refine hK.out _ _ ⟨below_drewN hB _, HO.out, q7, q16⟩ (fun hHeld => ?_)
        clear hK K
        try simp only [Act.put, gA, gS, gZ, sA, sZ, sS]
        refine tk (i := 5) (v := ?_) rfl (by kernel_rfl) (fun _ _ _ h => h) (by rfl) ?_ (by assumption) ?_
        rotate_left
        · (intro W hSw; (try dsimp only at hSw); go_simp; try with_reducible rfl)
        try simp only [Act.put, gA, gS, gZ, sA, sZ, sS]
        refine tk (i := 8) (v := ?_) rfl (by kernel_rfl) (fun _ _ _ h => h) (by rfl) ?_ (by assumption) ?_
        rotate_left
        · (intro W hSw; (try dsimp only at hSw); go_simp; try with_reducible rfl)
        try simp only [Act.put, gA, gS, gZ, sA, sZ, sS]
        refine tk (i := 14) (v := ?_) rfl (by kernel_rfl) (fun _ _ _ h => h) (by rfl) ?_ (by assumption) ?_
        rotate_left
        · (intro W hSw; (try dsimp only at hSw); go_simp; try with_reducible rfl)
        try simp only [Act.put, gA, gS, gZ, sA, sZ, sS]
        refine wpAnyH_ready (rs := [16]) (by kernel_rfl) (by simp) ?_
        refine AllReadyH.cons rfl (fun K hK => ?_) AllReadyH.nil
        simp only [gA, gS, gZ]
        rw [if_pos (by rfl)]
        go_simp
        (go_at_call 66; refine (turned_any _ _ _ (by decide)).mono ?_; rintro _ _ ⟨rfl, nd, rfl⟩)
        go_wp2_with fail
        refine hK.out _ _ ⟨below_drewN hB _, HO.out, q7, q16⟩ (fun hHeld => ?_)
        clear hK K
        try simp only [Act.put, gA, gS, gZ, sA, sZ, sS]
        refine wpAnyH_ready (rs := [18]) (by kernel_rfl) (by simp) ?_
        refine AllReadyH.cons rfl (fun K hK => ?_) AllReadyH.nil
        simp only [gA, gS, gZ]
        rw [if_pos (by rfl)]
        go_simp
        (go_at_call 66; refine (turned_any _ _ _ (by decide)).mono ?_; rintro _ _ ⟨rfl, nd, rfl⟩)
        go_wp2_with fail
        refine hK.out _ _ ⟨below_drewN hB _, HO.out, q7, q16⟩ (fun hHeld => ?_)
        clear hK K
        try simp only [Act.put, gA, gS, gZ, sA, sZ, sS]
        refine tk (i := 19) (v := ?_) rfl (by kernel_rfl) (fun _ _ _ h => h) (by rfl) ?_ (by assumption) ?_
        rotate_left
        · (intro W hSw; (try dsimp only at hSw); go_simp; try with_reducible rfl)
        try simp only [Act.put, gA, gS, gZ, sA, sZ, sS]
        refine tk (i := 22) (v := ?_) rfl (by kernel_rfl) (fun _ _ _ h => h) (by rfl) ?_ (by assumption) ?_
        rotate_left
        · (intro W hSw; (try dsimp only at hSw); go_simp; try with_reducible rfl)
        try simp only [Act.put, gA, gS, gZ, sA, sZ, sS]
        refine tk (i := 23) (v := ?_) rfl (by kernel_rfl) (fun _ _ _ h => h) (by rfl) ?_ (by assumption) ?_
        rotate_left
        · (intro W hSw; (try dsimp only at hSw); go_simp; try with_reducible rfl)
        try simp only [Act.put, gA, gS, gZ, sA, sZ, sS]
        refine tk (i := 29) (v := ?_) rfl (by kernel_rfl) (fun _ _ _ h => h) (by rfl) ?_ (by assumption) ?_
        rotate_left
        · (intro W hSw; (try dsimp only at hSw); go_simp; try with_reducible rfl)
        try simp only [Act.put, gA, gS, gZ, sA, sZ, sS]
        refine wpAnyH_ready (rs := [30]) (by kernel_rfl) (by simp) ?_
        refine AllReadyH.cons rfl (fun K hK => ?_) AllReadyH.nil
        simp only [gA, gS, gZ]
        rw [if_pos (by rfl)]
        go_simp
        refine hK.out _ _ ⟨below_drewN (hB.alloc hle _) _, World.ownsRow.alloc HO.out _, (World.cell?_alloc_lt wr _ _ hgl).trans q7, (World.cell?_alloc_lt wr _ _ hgl).trans q16⟩ (fun hHeld => ?_)
        clear hK K
        try simp only [Act.put, gA, gS, gZ, sA, sZ, sS]
        refine wpAnyH_ready (rs := [31]) (by kernel_rfl) (by simp) ?_
        refine AllReadyH.cons rfl (fun K hK => ?_) AllReadyH.nil
        simp only [gA, gS, gZ]
        rw [if_pos (by rfl)]
        (refine wp_append_keep _ _ _ _ (by rfl) w.heap.size 85 i0 _ 1 4 Tryz.underlying90 hi hz0 hz1 HY.out rfl (by decide) _ _ _ (by rfl) (World.ownsRow.alloc HO.out _) ⟨wr.heap.size, 0, none⟩ 1 1 [.int .u32 _] (by rfl) rfl (cell_one_new _ _ _) (one_one rfl) (by decide) (by unfold maxLen; omega) (by omega) (by simp; omega) (wr.heap.size + 1) (by simp) ?_; intro g2 cap2 w2 hown2 hg2 hat2 hold2; have hS2 := And.intro (below_push (below_drewN hB _) hle HO.out hg2) hold2)
        refine hK.out _ _ ⟨hS2.1, hS2.2, (HP.out w2 hS2.2).2.1, (HP.out w2 hS2.2).2.2.2⟩ (fun hHeld => ?_)
        clear hK K
        try simp only [Act.put, sA, sZ, sS]
        refine tk (i := 32) (v := ?_) rfl (by kernel_rfl) (fun _ _ _ h => h) (by rfl) ?_ (by assumption) ?_
        rotate_left
        · (intro W hSw; (try dsimp only at hSw); go_simp; try with_reducible rfl)
        try simp only [Act.put, gA, gS, gZ, sA, sZ, sS]
        refine wpAnyH_done (by kernel_rfl) ?_ _
        have hx : IntKind.u32.wrap (IntKind.u32.wrap (IntKind.u32.wrap (bits .xor .u32 (bits .xor .u32 ((rot V2 17).toNat : Int) ((rot V2 19).toNat : Int)) (IntKind.u32.wrap (HDiv.hDiv (α := Int) (β := Int) (γ := Int) (V2.toNat : Int) 1024)) + (V7.toNat : Int)) + bits .xor .u32 (bits .xor .u32 ((rot V15 7).toNat : Int) ((rot V15 18).toNat : Int)) (IntKind.u32.wrap (HDiv.hDiv (α := Int) (β := Int) (γ := Int) (V15.toNat : Int) 8))) + (V16.toNat : Int)) = ((next (words s.data.toList k)).toNat : Int) := by
          rw [HN.out]; simp only [shr10, shr3, wrap_w, xor_w, add_w]; rfl
        rw [hx] at hown2
        have hw := wl_next s.data.toList k (next (words s.data.toList k)) (by rw [if_neg h16])
        have HO2 := Lib.hid (show w2.ownsRow w.heap.size 85 1 (.slice (some ⟨g2, 0, none⟩) (k + 1) cap2) (k + 1) (wl s.data.toList (k + 1)) by rw [hw]; exact hown2)
        have HB2 := Lib.hid hS2.1
        clear hS2 hown2 hg2 hold2 hat2 hw hx y2 y7 y15 y16
        go_wp2
        go_roundw
        case rel => exact ⟨k + 1, by omega, by go_num, HO2.out, HB2.out⟩
        case measure => simp [intOf]; omega
    · have hk64 : k = 64 := by omega
      subst hk64
      obtain ⟨wo, hwo⟩ : ∃ wo : World, wo = wr := ⟨_, rfl⟩
      subst hwo
      obtain ⟨gw, cw, hv, hgw, -⟩ := own_word HO.out 0 (by omega)
      injection hv with hA _ hc
      subst hA
      subst hc
      have hgl : gw < wo.heap.size := by obtain ⟨_, _, hv, _, hl⟩ := World.ownsRow.form HO.out (by omega); injection hv with h _ _; injection h with h; injection h with h; omega
      have hbl : b < w.heap.size := (Array.getElem?_eq_some_iff.1 HST.out).1
      have HW : Hid (∀ (W : World), Below wo.heap.size wo W → ∀ (j : Nat), j < 64 → W.cell? ⟨gw, j, none⟩ = some (.int .u32 (((words s.data.toList 64).getD j 0).toNat : Int))) := Lib.hid (fun W hW j hj => by
        obtain ⟨_, _, h2, _, q⟩ := own_word HO.out j hj
        injection h2 with h2 _ _; injection h2 with h2; injection h2 with h2
        subst h2
        exact (hW.cell (p := ⟨gw, j, none⟩) hgl).trans q)
      go_wp2_with fail
      refine (constants_any _).mono ?_
      rintro e w1 ⟨rfl, hw1⟩
      have hB1 : Below wo.heap.size wo w1 := by rw [hw1]; exact (Below.refl _ _).alloc (Nat.le_refl _) _
      have hC1 : w1.heap[wo.heap.size]? = some (.cells constC 85 (0, 0)) := by rw [hw1]; exact Array.getElem?_push_size
      have hz1' : wo.heap.size < w1.heap.size := by rw [hw1]; simp
      clear hw1
      have hS1 : w1.heap[b]? = some (.cells cs 85 (0, 0)) := (hB1.block b (Nat.lt_of_lt_of_le hbl hB.size)).trans ((hB.block b hbl).trans HST.out)
      obtain ⟨a0, a1, a2, a3, a4, a5, a6, a7⟩ := cellsX hS1 HF8.out
      have HS1 := Lib.hid hS1
      have HC1 := Lib.hid hC1
      have HB1 := Lib.hid hB1
      clear hS1 hC1 hB1
      go_wp2_with fail
      go_quiet (fail)
      go_wp2_with fail
      obtain ⟨w2, hw2⟩ : ∃ w2, w2 = w1.drewN nq := ⟨_, rfl⟩
      rw [← hw2]
      have hc2 : ∀ p : Addr, w2.cell? p = w1.cell? p := by intro p; rw [hw2]; rfl
      have hh2 : w2.heap = w1.heap := by rw [hw2]; rfl
      have hb2 : Below wo.heap.size wo w2 := by rw [hw2]; exact below_drewN HB1.out _
      have b4 := (hc2 _).trans a4
      have b5 := (hc2 _).trans a5
      have b6 := (hc2 _).trans a6
      have b7 := (hc2 _).trans a7
      have HH2 := Lib.hid hh2
      have HB2 := Lib.hid hb2
      clear hw2 a0 a1 a2 a3 a4 a5 a6 a7 hc2 hh2 hb2
      go_quiet (fail)
      go_wp2_with fail
      obtain ⟨w3, hw3⟩ : ∃ w3, w3 = w2.drewN nq := ⟨_, rfl⟩
      rw [← hw3]
      have hc3 : w3.heap = w1.heap := by rw [hw3]; exact HH2.out
      have HC3 : Hid (w3.heap[wo.heap.size]? = some (Obj.cells constC 85 (0, 0))) := Lib.hid (by rw [hc3]; exact HC1.out)
      have HS3 : Hid (w3.heap[b]? = some (Obj.cells cs 85 (0, 0))) := Lib.hid (by rw [hc3]; exact HS1.out)
      have HB3 : Hid (Below wo.heap.size wo w3) := Lib.hid (by rw [hw3]; exact below_drewN HB2.out _)
      have hz3 : wo.heap.size < w3.heap.size := by rw [hc3]; exact hz1'
      clear hw3 hc3 b4 b5 b6 b7 HC1 HS1 HB1 HB2 HH2 hz1'
      go_loopw [10, 11, 12, 13, 14, 15, 16, 17, 18] (fun xa xb xc xd xe xf xg xh i wq => ∃ k : Nat, k ≤ 64 ∧ i = .int .i64 k ∧ xa = .int .u32 ((rounds s.data.toList S k).a.toNat : Int) ∧ xb = .int .u32 ((rounds s.data.toList S k).b.toNat : Int) ∧ xc = .int .u32 ((rounds s.data.toList S k).c.toNat : Int) ∧ xd = .int .u32 ((rounds s.data.toList S k).d.toNat : Int) ∧ xe = .int .u32 ((rounds s.data.toList S k).e.toNat : Int) ∧ xf = .int .u32 ((rounds s.data.toList S k).f.toNat : Int) ∧ xg = .int .u32 ((rounds s.data.toList S k).g.toNat : Int) ∧ xh = .int .u32 ((rounds s.data.toList S k).h.toNat : Int) ∧ Below w3.heap.size w3 wq) (fun _ _ _ _ _ _ _ _ i _ => 64 - (intOf i).toNat)
      case atStart => exact ⟨0, by omega, rfl, rfl, rfl, rfl, rfl, rfl, rfl, rfl, rfl, Below.refl _ _⟩
      case round =>
        obtain ⟨k, hk, rfl, rfl, rfl, rfl, rfl, rfl, rfl, rfl, rfl, hq⟩ := hrel
        rcases Nat.lt_or_ge k 64 with hlt | hge
        · have hk64 : (k : Int) < 64 := by omega
          have ck : wr.cell? ⟨wo.heap.size, k, none⟩ = some (.int .u32 ((const k).toNat : Int)) := (hq.cell (p := ⟨wo.heap.size, k, none⟩) hz3).trans (const_cell HC3.out k hlt)
          have cw : wr.cell? ⟨gw, k, none⟩ = some (.int .u32 (((words s.data.toList 64).getD k 0).toNat : Int)) := (hq.cell (p := ⟨gw, k, none⟩) (Nat.lt_trans hgl hz3)).trans (HW.out w3 HB3.out k hlt)
          have hn : rounds s.data.toList S (k + 1) = round (rounds s.data.toList S k) (const k + (words s.data.toList 64).getD k 0) := rfl
          generalize rounds s.data.toList S k = R at *
          generalize (words s.data.toList 64).getD k 0 = x at hn cw
          generalize const k = q at hn ck
          have HN := Lib.hid hn
          obtain ⟨ne, hne⟩ : ∃ ne : W, ne = ~~~R.e := ⟨_, rfl⟩
          have hnot : IntKind.u32.wrap ((4294967295 : Int) - (R.e.toNat : Int)) = (ne.toNat : Int) := by rw [not_w, wrap_w, hne]
          have HNe := Lib.hid hne
          clear hne
          clear hn
          go_wp2_with fail
          go_quiet ((go_at_call 66; exact Calls.quiet_of (turned_any _ _ _ (by decide))))
          obtain ⟨one, hone⟩ : ∃ one : W, R.h + (rot R.e 6 ^^^ rot R.e 11 ^^^ rot R.e 25) + (R.e &&& R.f ^^^ ne &&& R.g) + q + x = one := ⟨_, rfl⟩
          have HOne := Lib.hid hone
          obtain ⟨w4, hw4⟩ : ∃ w4, w4 = wr.drewN nq := ⟨_, rfl⟩
          rw [← hw4]
          have hq4 : Below w3.heap.size w3 w4 := by rw [hw4]; exact below_drewN hq _
          clear hone hnot hw4 ck cw hq
          go_wp2_with (go_at_call 66; refine (turned_any _ _ _ (by decide)).mono ?_; rintro _ _ ⟨rfl, nd, rfl⟩)
          have hr : rounds s.data.toList S (k + 1) = ⟨one + ((rot R.a 2 ^^^ rot R.a 13 ^^^ rot R.a 22) + (R.a &&& R.b ^^^ R.a &&& R.c ^^^ R.b &&& R.c)), R.a, R.b, R.c, R.d + one, R.e, R.f, R.g⟩ := by
            rw [HN.out, ← HOne.out, HNe.out, BitVec.add_assoc _ q x]; rfl
          simp only [xor_w, and_w, sum5q, HOne.out]
          refine ⟨⟨k + 1, by omega, by go_num, ?_, ?_, ?_, ?_, ?_, ?_, ?_, ?_, below_drewN hq4 _⟩, by simp [intOf]; omega⟩
          all_goals rw [hr]
          · rw [← add_w, ← add_w, IntKind.wrap_u32', IntKind.wrap_u32']
          · rw [← add_w, IntKind.wrap_u32']
        · have hk64 : k = 64 := by omega
          subst hk64
          have hturn : turn S s.data.toList = S.add (rounds s.data.toList S 64) := rfl
          generalize rounds s.data.toList S 64 = R at *
          have hadd : turn S s.data.toList = ⟨S.a + R.a, S.b + R.b, S.c + R.c, S.d + R.d, S.e + R.e, S.f + R.f, S.g + R.g, S.h + R.h⟩ := hturn
          have HAdd := Lib.hid hadd
          clear hturn hadd
          have hbz : b < w3.heap.size := Nat.lt_trans (Nat.lt_of_lt_of_le hbl hB.size) hz3
          have hSr := (hq.block b hbz).trans HS3.out
          obtain ⟨a0, a1, a2, a3, a4, a5, a6, a7⟩ := cellsX hSr HF8.out
          clear hSr
          have hBr : Below w.heap.size w wr := hB.trans ((HB3.out.mono hB.size).trans (hq.mono (Nat.le_of_lt (Nat.lt_of_le_of_lt hB.size hz3))))
          have HBr := Lib.hid hBr
          clear hBr hq
          go_wp2_with fail
          go_still_tail 40, (by kernel_rfl)
          change wpList _ _ _ _ _ wr.drew
          simp only [add_w]
          obtain ⟨w5, hw5⟩ : ∃ w5, w5 = wr.drew := ⟨_, rfl⟩
          rw [← hw5]
          have hB5 : Below w.heap.size w w5 := by rw [hw5]; exact HBr.out.drew
          clear hw5 a0 a1 a2 a3 a4 a5 a6 a7
          obtain ⟨na, hna⟩ : ∃ na, na = S.a + R.a := ⟨_, rfl⟩
          obtain ⟨nb, hnb⟩ : ∃ nb, nb = S.b + R.b := ⟨_, rfl⟩
          obtain ⟨nc, hnc⟩ : ∃ nc, nc = S.c + R.c := ⟨_, rfl⟩
          obtain ⟨nd, hnd⟩ : ∃ nd, nd = S.d + R.d := ⟨_, rfl⟩
          obtain ⟨ne, hne⟩ : ∃ ne, ne = S.e + R.e := ⟨_, rfl⟩
          obtain ⟨nf, hnf⟩ : ∃ nf, nf = S.f + R.f := ⟨_, rfl⟩
          obtain ⟨ng, hng⟩ : ∃ ng, ng = S.g + R.g := ⟨_, rfl⟩
          obtain ⟨nh, hnh⟩ : ∃ nh, nh = S.h + R.h := ⟨_, rfl⟩
          rw [← hna, ← hnb, ← hnc, ← hnd, ← hne, ← hnf, ← hng, ← hnh]
          have HAdd2 : Hid (turn S s.data.toList = ⟨na, nb, nc, nd, ne, nf, ng, nh⟩) := Lib.hid (by rw [HAdd.out, hna, hnb, hnc, hnd, hne, hnf, hng, hnh])
          clear hna hnb hnc hnd hne hnf hng hnh HAdd
          go_wp2
          go_ret
          exact ⟨_, rfl, by rw [HAdd2.out]; exact Array.getElem?_push_size, hB5.alloc hB5.size _⟩
end Go.Proofs.YtdljphbfbiganaaGreatDoor.Sha
