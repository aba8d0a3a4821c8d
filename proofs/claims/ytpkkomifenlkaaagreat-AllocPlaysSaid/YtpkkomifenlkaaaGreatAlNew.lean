import Derived.Test.YtpkkomifenlkaaaGreatAlNw
import Derived.Deep.DeepCutAuto
/- alloc.New: of a config that may be, and of one that may not. -/
namespace Go.Proofs.YtpkkomifenlkaaaGreat.Au
open Go Go.RowKit Conf
set_option linter.unusedVariables false

set_option maxRecDepth 20000 in
set_option maxHeartbeats 8000000 in
theorem anew_any (c : Cfg) (hc : code c 11 0 = 0) (A : Nat) (h1 : c.f1 = (A : Int)) (hA9 : A ≤ 1000000) (w : World) :
    Calls Tryz.prog 11 #[.agg c.cells] w fun e w' => ∃ S b z0 z1, e = .returned (.tuple #[.pointer (some ⟨S, 0, none⟩), .int .i64 0]) ∧ NW w w' ⟨S, A, b⟩ A A c z0 z1 := by
  have HCk := Lib.hid (fun V => check_any c V)
  rw [hc] at HCk
  obtain ⟨i0, hi, hz0, hz1, hz2⟩ := info_partsU infoP
  have h0 := heap_alloc_new w (.cells (ccells c) TCf)
  obtain ⟨w0, hw0⟩ : ∃ X, X = w.alloc (.cells (ccells c) TCf) := ⟨_, rfl⟩
  have hb0 : Below w.heap.size w w0 := by rw [hw0]; exact (Below.refl _ _).alloc (Nat.le_refl _) _
  rw [← hw0] at h0
  have H0 := Lib.hid (And.intro h0 hb0)
  have HF1 := Lib.hid h1
  have HA9 := Lib.hid hA9
  have q := fun i => cell_of_row w0 w.heap.size i _ _ (0, 0) h0
  have q0 := q 0; have q1 := q 1; have q2 := q 2; have q3 := q 3; have q4 := q 4; have q5 := q 5; have q6 := q 6; have q7 := q 7; have q8 := q 8; have q9 := q 9; have q10 := q 10; have q11 := q 11
  clear q h0 hb0 h1 hc
  generalize wrong c 11 0 = wd at HCk
  unfold Cfg.cells at HCk ⊢
  go_enter Tryz.func11, Tryz.ntmps11
  go_upto_region 1 with fail
  rw [← hw0]
  clear hw0
  go_wp2_with fail
  refine (HCk.out _).mono ?_
  rintro _ w1 ⟨rfl, b1⟩
  have hcb := kp b1 H0.out.1
  have hbb := H0.out.2.trans (b1.mono H0.out.2.size)
  have H1 := Lib.hid (And.intro hcb hbb)
  clear b1 hcb hbb H0 HCk q0 q1 q2 q3 q4 q5 q6 q7 q8 q9 q10 q11
  obtain ⟨S, hS⟩ : ∃ S, S = w1.heap.size := ⟨_, rfl⟩
  have ha := heap_alloc_new w1 (.cells #[.int .i32 0, .int .u32 0, .slice none 0 0, .slice none 0 0] TAl)
  obtain ⟨w2, hw2⟩ : ∃ X, X = w1.alloc (.cells #[.int .i32 0, .int .u32 0, .slice none 0 0, .slice none 0 0] TAl) := ⟨_, rfl⟩
  have hb2 : Below w1.heap.size w1 w2 := by rw [hw2]; exact (Below.refl _ _).alloc (Nat.le_refl _) _
  rw [← hw2, ← hS] at ha
  have HA : Hid (NW w w2 ⟨S, A, fun _ => ⟨0, 0, 0⟩⟩ 0 0 c (.slice none 0 0) (.slice none 0 0)) := Lib.hid
    ⟨kp hb2 H1.out.1, ⟨ha, by show w.heap.size + 1 ≤ S; rw [hS]; exact ltO H1.out.1, World.ownsRow_nil _ _ _ _, World.ownsRow_nil _ _ _ _, Nat.zero_le _, fun i hi => (by rcases hi with hi | ⟨p1, p2⟩; exact absurd hi (Nat.not_lt_zero _); exact absurd p2 (by omega)), fun i j hi => (by rcases hi with hi | ⟨p1, p2⟩; exact absurd hi (Nat.not_lt_zero _); exact absurd p2 (by omega))⟩, H1.out.2.trans (hb2.mono H1.out.2.size), fun k hk => (by cases hk)⟩
  clear ha hb2 H1
  go_upto_region 5 with fail
  rw [← hw2, ← hS]
  clear hw2 hS
  have p1 := cell_of_row w2 w.heap.size 1 _ _ (0, 0) HA.out.cf
  simp only [List.getElem?_toArray, List.getElem?_cons_succ, List.getElem?_cons_zero] at p1
  rw [HF1.out] at p1
  go_wp2_with fail
  refine wp_loop_rounds 3 ?_
  rw [rounds_succ]
  go_wp2_with fail
  clear p1
  go_loopw [23] (fun iv wr => ∃ k : Nat, iv = .int .i64 (k : Int) ∧ k ≤ A ∧ ∃ b z0, NW w wr ⟨S, A, b⟩ k 0 c z0 (.slice none 0 0)) (fun iv _ => A - (intOf iv).toNat)
  case atStart => exact ⟨0, rfl, Nat.zero_le _, _, _, HA.out⟩
  case round =>
    obtain ⟨k, rfl, hk, b, z0, hN⟩ := hrel
    by_cases hkA : k < A
    · have d1 : decide ((k : Int) < (A : Int)) = true := decide_eq_true (by omega)
      obtain ⟨M, hMd⟩ : ∃ M, M = wr.heap.size := ⟨_, rfl⟩
      have hMb : w.heap.size + 1 ≤ M := by rw [hMd]; exact ltO hN.cf
      have HMb := Lib.hid hMb
      have HU := Lib.hid (hMd ▸ hN.und)
      have HKb : Hid (k < 1000000) := Lib.hid (by show k < 1000000; have := HA9.out; omega)
      have HB0 := Lib.hid (And.intro hN (Nat.le_of_eq hMd))
      clear hN hMd hMb
      go_upto_region 10 with fail
      refine wp_region_held_drew (S := fun V => V.heap[w.heap.size]? = some (.cells (ccells c) TCf (0, 0))) (by kernel_rfl) HB0.out.1.cf (fun hHeld => ?_)
      have HV2 := Lib.hid (And.intro HB0.out.1.drew (And.intro (show M ≤ wr.drew.heap.size from HB0.out.2) (And.intro trivial (And.intro trivial (And.intro trivial trivial)))))
      obtain ⟨V1, hV1⟩ : ∃ X, X = wr.drew := ⟨_, rfl⟩
      have hsz : M ≤ V1.heap.size := by rw [hV1]; exact HB0.out.2
      rw [← hV1] at HV2 hHeld ⊢
      clear hV1 HB0 hsz
      refine wpAnyH_take (i := 0) (oi := _) (v := ?_) rfl (by kernel_rfl) (by kernel_rfl) (by kernel_rfl) (fun _ _ _ h => h) (Or.inl ⟨by rfl, ?_⟩) (by assumption) ?_
      rotate_left
      · (intro W hSw; (try dsimp only at hSw); go_simp; try with_reducible rfl)
      try simp only [Act.put, List.getElem_toArray, List.getElem_cons_zero, List.setIfInBounds_toArray, List.set_cons_zero, List.set_cons_succ]
      refine wpAnyH_take (i := 1) (oi := _) (v := ?_) rfl (by kernel_rfl) (by kernel_rfl) (by kernel_rfl) (fun _ _ _ h => h) (Or.inl ⟨by rfl, ?_⟩) (by assumption) ?_
      rotate_left
      · (intro W hSw; (try dsimp only at hSw); go_simp; try with_reducible rfl)
      try simp only [Act.put, List.getElem_toArray, List.getElem_cons_succ, List.getElem_cons_zero, List.setIfInBounds_toArray, List.set_cons_zero, List.set_cons_succ]
      refine wpAnyH_take (i := 2) (oi := _) (v := ?_) rfl (by kernel_rfl) (by kernel_rfl) (by kernel_rfl) (fun _ _ _ h => h) (Or.inl ⟨by rfl, ?_⟩) (by assumption) ?_
      rotate_left
      · (intro W hSw; (try dsimp only at hSw); go_simp; try with_reducible rfl)
      try simp only [Act.put, List.getElem_toArray, List.getElem_cons_succ, List.getElem_cons_zero, List.setIfInBounds_toArray, List.set_cons_zero, List.set_cons_succ]
      refine wpAnyH_take (i := 3) (oi := _) (v := ?_) rfl (by kernel_rfl) (by kernel_rfl) (by kernel_rfl) (fun _ _ _ h => h) (Or.inl ⟨by rfl, ?_⟩) (by assumption) ?_
      rotate_left
      · (intro W hSw; (try dsimp only at hSw); go_simp; try with_reducible rfl)
      try simp only [Act.put, List.getElem_toArray, List.getElem_cons_succ, List.getElem_cons_zero, List.setIfInBounds_toArray, List.set_cons_zero, List.set_cons_succ]
      refine wpAnyH_take (i := 4) (oi := _) (v := ?_) rfl (by kernel_rfl) (by kernel_rfl) (by kernel_rfl) (fun _ _ _ h => h) (Or.inl ⟨by rfl, ?_⟩) (by assumption) ?_
      rotate_left
      · (intro W hSw; (try dsimp only at hSw); go_simp; try with_reducible rfl)
      try simp only [Act.put, List.getElem_toArray, List.getElem_cons_succ, List.getElem_cons_zero, List.setIfInBounds_toArray, List.set_cons_zero, List.set_cons_succ]
      refine wpAnyH_take (i := 5) (oi := _) (v := ?_) rfl (by kernel_rfl) (by kernel_rfl) (by kernel_rfl) (fun _ _ _ h => h) (Or.inl ⟨by rfl, ?_⟩) (by assumption) ?_
      rotate_left
      · (intro W hSw; (try dsimp only at hSw); go_simp; try with_reducible rfl)
      try simp only [Act.put, List.getElem_toArray, List.getElem_cons_succ, List.getElem_cons_zero, List.setIfInBounds_toArray, List.set_cons_zero, List.set_cons_succ]
      refine wpAnyH_take (i := 6) (oi := _) (v := ?_) rfl (by kernel_rfl) (by kernel_rfl) (by kernel_rfl) (fun _ _ _ h => h) (Or.inl ⟨by rfl, ?_⟩) (by assumption) ?_
      rotate_left
      · (intro W hSw; (try dsimp only at hSw); go_simp; try with_reducible rfl)
      try simp only [Act.put, List.getElem_toArray, List.getElem_cons_succ, List.getElem_cons_zero, List.setIfInBounds_toArray, List.set_cons_zero, List.set_cons_succ]
      refine wpAnyH_take (i := 8) (oi := _) (v := ?_) rfl (by kernel_rfl) (by kernel_rfl) (by kernel_rfl) (fun _ _ _ h => h) (Or.inl ⟨by rfl, ?_⟩) (by assumption) ?_
      rotate_left
      · (intro W hSw; (try dsimp only at hSw); go_simp; try with_reducible rfl)
      try simp only [Act.put, List.getElem_toArray, List.getElem_cons_succ, List.getElem_cons_zero, List.setIfInBounds_toArray, List.set_cons_zero, List.set_cons_succ]
      refine wpAnyH_take (i := 16) (oi := _) (v := ?_) rfl (by kernel_rfl) (by kernel_rfl) (by kernel_rfl) (fun _ _ _ h => h) (Or.inl ⟨by rfl, ?_⟩) (by assumption) ?_
      rotate_left
      · (intro W hSw; (try dsimp only at hSw); go_simp; try with_reducible rfl)
      try simp only [Act.put, List.getElem_toArray, List.getElem_cons_succ, List.getElem_cons_zero, List.setIfInBounds_toArray, List.set_cons_zero, List.set_cons_succ]
      refine wpAnyH_take (i := 17) (oi := _) (v := ?_) rfl (by kernel_rfl) (by kernel_rfl) (by kernel_rfl) (fun _ _ _ h => h) (Or.inl ⟨by rfl, ?_⟩) (by assumption) ?_
      rotate_left
      · (intro W hSw; (try dsimp only at hSw); go_simp; try with_reducible rfl)
      try simp only [Act.put, List.getElem_toArray, List.getElem_cons_succ, List.getElem_cons_zero, List.setIfInBounds_toArray, List.set_cons_zero, List.set_cons_succ]
      refine wpAnyH_take (i := 9) (oi := _) (v := ?_) rfl (by kernel_rfl) (by kernel_rfl) (by kernel_rfl) (fun _ _ _ h => h) (Or.inl ⟨by rfl, ?_⟩) (by assumption) ?_
      rotate_left
      · (intro V hSw; have q := fun i => cell_of_row V w.heap.size i _ _ (0, 0) hSw; have q11 := q 11; clear q hSw; go_simp; try with_reducible rfl)
      try simp only [Act.put, List.getElem_toArray, List.getElem_cons_succ, List.getElem_cons_zero, List.setIfInBounds_toArray, List.set_cons_zero, List.set_cons_succ]
      refine wpAnyH_ready (rs := [7, 10, 11]) (by kernel_rfl) (by simp) ?_
      refine AllReadyH.cons rfl (fun K hK => ?_) (AllReadyH.cons rfl (fun K hK => ?_) (AllReadyH.cons rfl (fun K hK => ?_) AllReadyH.nil))
      · simp only [List.getElem_toArray, List.getElem_cons_succ, List.getElem_cons_zero]
        rw [if_pos (by rfl)]
        have q := cell_of_row V1 S 2 _ _ (0, 0) HV2.out.1.a
        go_simp
        clear q
        refine hK.out _ _ HV2.out.1.cf (fun hHeld => ?_)
        clear hK K
        try simp only [Act.put, List.getElem_toArray, List.getElem_cons_succ, List.getElem_cons_zero, List.setIfInBounds_toArray, List.set_cons_zero, List.set_cons_succ]
        refine wpAnyH_ready (rs := [10, 11]) (by kernel_rfl) (by simp) ?_
        refine AllReadyH.cons rfl (fun K hK => ?_) (AllReadyH.cons rfl (fun K hK => ?_) AllReadyH.nil)
        · simp only [List.getElem_toArray, List.getElem_cons_succ, List.getElem_cons_zero]
          rw [if_pos (by rfl)]
          go_simp
          refine (gnew _).mono ?_
          rintro _ V3 ⟨rfl, hg, bb⟩
          obtain ⟨g5, hg5⟩ : ∃ X, X = V1.heap.size := ⟨_, rfl⟩
          have mg5 : M ≤ g5 := by rw [hg5]; exact HV2.out.2.1
          rw [← hg5] at hg ⊢
          have HV4 := Lib.hid (And.intro (HV2.out.1.below bb) (And.intro (Nat.le_trans HV2.out.2.1 bb.size) (And.intro hg (And.intro trivial (And.intro trivial trivial)))))
          clear bb hg
          clear hg5
          go_wp2_with fail
          refine hK.out _ _ HV4.out.1.cf (fun hHeld => ?_)
          clear hK K
          try simp only [Act.put, List.getElem_toArray, List.getElem_cons_succ, List.getElem_cons_zero, List.setIfInBounds_toArray, List.set_cons_zero, List.set_cons_succ]
          refine wpAnyH_ready (rs := [11]) (by kernel_rfl) (by simp) ?_
          refine AllReadyH.cons rfl (fun K hK => ?_) AllReadyH.nil
          · simp only [List.getElem_toArray, List.getElem_cons_succ, List.getElem_cons_zero]
            rw [if_pos (by rfl)]
            have emk := mk_map V3
            go_simp
            clear emk
            obtain ⟨b8, hb8⟩ : ∃ X, X = V3.heap.size := ⟨_, rfl⟩
            have mb8 : M ≤ b8 := by rw [hb8]; exact HV4.out.2.1
            obtain ⟨V6, hV6⟩ : ∃ X, X = V3.alloc (.map #[] 0) := ⟨_, rfl⟩
            have hg : V6.heap[b8]? = some (.map #[] 0) := by rw [hV6, hb8]; exact heap_alloc_new V3 _
            have bb : Below V3.heap.size V3 V6 := by rw [hV6]; exact (Below.refl _ _).alloc (Nat.le_refl _) _
            rw [← hV6]
            try rw [← hb8]
            have HV7 := Lib.hid (And.intro (HV4.out.1.below bb) (And.intro (Nat.le_trans HV4.out.2.1 bb.size) (And.intro (kp bb HV4.out.2.2.1) (And.intro hg (And.intro trivial trivial)))))
            clear bb hg
            clear hV6 hb8
            refine hK.out _ _ HV7.out.1.cf (fun hHeld => ?_)
            clear hK K
            try simp only [Act.put, List.getElem_toArray, List.getElem_cons_succ, List.getElem_cons_zero, List.setIfInBounds_toArray, List.set_cons_zero, List.set_cons_succ]
            refine wpAnyH_take (i := 12) (oi := _) (v := ?_) rfl (by kernel_rfl) (by kernel_rfl) (by kernel_rfl) (fun _ _ _ h => h) (Or.inl ⟨by rfl, ?_⟩) (by assumption) ?_
            rotate_left
            · (intro W hSw; (try dsimp only at hSw); go_simp; try with_reducible rfl)
            try simp only [Act.put, List.getElem_toArray, List.getElem_cons_succ, List.getElem_cons_zero, List.setIfInBounds_toArray, List.set_cons_zero, List.set_cons_succ]
            refine wpAnyH_ready (rs := [13]) (by kernel_rfl) (by simp) ?_
            refine AllReadyH.cons rfl (fun K hK => ?_) AllReadyH.nil
            · simp only [List.getElem_toArray, List.getElem_cons_succ, List.getElem_cons_zero]
              rw [if_pos (by rfl)]
              go_simp
              obtain ⟨n11, hn11⟩ : ∃ X, X = V6.heap.size := ⟨_, rfl⟩
              have mn11 : M ≤ n11 := by rw [hn11]; exact HV7.out.2.1
              obtain ⟨V9, hV9⟩ : ∃ X, X = V6.alloc (.cells #[.int .u64 0, .int .u64 c.f11, .pointer (some ⟨g5, 0, none⟩), .map (some b8)] TNm) := ⟨_, rfl⟩
              have hg : V9.heap[n11]? = some (.cells #[.int .u64 0, .int .u64 c.f11, .pointer (some ⟨g5, 0, none⟩), .map (some b8)] TNm (0, 0)) := by rw [hV9, hn11]; exact heap_alloc_new V6 _
              have bb : Below V6.heap.size V6 V9 := by rw [hV9]; exact (Below.refl _ _).alloc (Nat.le_refl _) _
              rw [← hV9]
              try rw [← hn11]
              have HV10 := Lib.hid (And.intro (HV7.out.1.below bb) (And.intro (Nat.le_trans HV7.out.2.1 bb.size) (And.intro (kp bb HV7.out.2.2.1) (And.intro (kp bb HV7.out.2.2.2.1) (And.intro hg trivial)))))
              clear bb hg
              clear hV9 hn11
              refine hK.out _ _ HV10.out.1.cf (fun hHeld => ?_)
              clear hK K
              try simp only [Act.put, List.getElem_toArray, List.getElem_cons_succ, List.getElem_cons_zero, List.setIfInBounds_toArray, List.set_cons_zero, List.set_cons_succ]
              refine wpAnyH_ready (rs := [14]) (by kernel_rfl) (by simp) ?_
              refine AllReadyH.cons rfl (fun K hK => ?_) AllReadyH.nil
              · simp only [List.getElem_toArray, List.getElem_cons_succ, List.getElem_cons_zero]
                rw [if_pos (by rfl)]
                go_simp
                obtain ⟨k14, hk14⟩ : ∃ X, X = V9.heap.size := ⟨_, rfl⟩
                have mk14 : M ≤ k14 := by rw [hk14]; exact HV10.out.2.1
                obtain ⟨V12, hV12⟩ : ∃ X, X = V9.alloc (.cells #[.pointer (some ⟨n11, 0, none⟩)] TNp) := ⟨_, rfl⟩
                have hNk14 : Hid (∀ j u, [Value.pointer (some ⟨n11, 0, none⟩)][j]? = some u → V12.cell? ((⟨k14, 0, none⟩ : Addr).add j) = some u) := Lib.hid (by rw [hV12, hk14]; exact news_p V9 _)
                have bb : Below V9.heap.size V9 V12 := by rw [hV12]; exact (Below.refl _ _).alloc (Nat.le_refl _) _
                rw [← hV12]
                try rw [← hk14]
                have HV13 := Lib.hid (And.intro (HV10.out.1.below bb) (And.intro (Nat.le_trans HV10.out.2.1 bb.size) (And.intro (kp bb HV10.out.2.2.1) (And.intro (kp bb HV10.out.2.2.2.1) (And.intro (kp bb HV10.out.2.2.2.2.1) trivial)))))
                clear bb
                clear hV12 hk14
                refine hK.out _ _ HV13.out.1.cf (fun hHeld => ?_)
                clear hK K
                try simp only [Act.put, List.getElem_toArray, List.getElem_cons_succ, List.getElem_cons_zero, List.setIfInBounds_toArray, List.set_cons_zero, List.set_cons_succ]
                refine wpAnyH_ready (rs := [15]) (by kernel_rfl) (by simp) ?_
                refine AllReadyH.cons rfl (fun K hK => ?_) AllReadyH.nil
                simp only [List.getElem_toArray, List.getElem_cons_succ, List.getElem_cons_zero]
                rw [if_pos (by rfl)]
                (refine wp_append_keep _ _ _ _ (by rfl) (w.heap.size + 1) TNp i0 _ 1 8 Tryz.underlying68 hi hz0 hz1 hz2 rfl (by decide) z0 k _ (by rfl) HV13.out.1.al.r0 ⟨k14, 0, none⟩ 1 1 [.pointer (some ⟨n11, 0, none⟩)] (by rfl) rfl hNk14.out (ones_p _) (by decide) (by have := HKb.out; unfold maxLen; omega) (by have := HKb.out; omega) (by have := HV13.out.2.1; have := HMb.out; omega) V12.heap.size rfl ?_; intro g2 cap2 w3 hown2 hg2 hat2 hold2; obtain ⟨hC3, hS3, hN3⟩ := NW.push0 HV13.out.1 HU.out (by show k < A; omega) (NumN.mk HV13.out.2.2.2.2.1 HV13.out.2.2.1 HV13.out.2.2.2.1) ⟨mn11, mg5, mb8⟩ HMb.out rfl hown2 hg2; have HP := Lib.hid (And.intro hN3 hS3); clear hown2 hg2 hat2 hold2 hN3 hS3)
                refine hK.out _ _ hC3 (fun hHeld => ?_)
                clear hK K
                try simp only [Act.put, List.setIfInBounds_toArray, List.set_cons_zero, List.set_cons_succ]
                refine wpAnyH_take (i := 18) (oi := _) (v := ?_) rfl (by kernel_rfl) (by kernel_rfl) (by kernel_rfl) (fun _ _ _ h => h) (Or.inl ⟨by rfl, ?_⟩) (by assumption) ?_
                rotate_left
                · (intro W hSw; (try dsimp only at hSw); go_simp; try with_reducible rfl)
                try simp only [Act.put, List.getElem_toArray, List.getElem_cons_succ, List.getElem_cons_zero, List.setIfInBounds_toArray, List.set_cons_zero, List.set_cons_succ]
                have qs := cell_of_row w3 S 2 _ _ (0, 0) HP.out.2
                have fs : w3.frozen? ⟨S, 2, none⟩ = false := by have := HP.out.2; simp [World.frozen?, this]
                refine wpAnyH_ready (rs := [19]) (by kernel_rfl) (by simp) ?_
                refine AllReadyH.cons rfl (fun K hK => ?_) AllReadyH.nil
                simp only [List.getElem_toArray, List.getElem_cons_succ, List.getElem_cons_zero]
                rw [if_pos (by rfl)]
                go_simp
                refine hK.out _ _ HP.out.1.cf (fun hHeld => ?_)
                clear hK K
                try simp only [Act.put, List.getElem_toArray, List.getElem_cons_succ, List.getElem_cons_zero, List.setIfInBounds_toArray, List.set_cons_zero, List.set_cons_succ]
                refine wpAnyH_done (by kernel_rfl) ?_ _
                have hR : ∃ b z0, NW w (w3.setCell ⟨S, 2, none⟩ (.slice (some ⟨g2, 0, none⟩) (k + 1) cap2)) ⟨S, A, b⟩ (k + 1) 0 c z0 (.slice none 0 0) := ⟨_, _, HP.out.1⟩
                have HR := Lib.hid hR
                clear hR qs fs
                go_wp2
                go_roundw
                case rel => exact ⟨k + 1, by go_num, hkA, HR.out⟩
                case measure => simp [intOf]; omega
        · simp only [List.getElem_toArray, List.getElem_cons_succ, List.getElem_cons_zero]
          rw [if_pos (by rfl)]
          have emk := mk_map V1
          go_simp
          clear emk
          obtain ⟨b17, hb17⟩ : ∃ X, X = V1.heap.size := ⟨_, rfl⟩
          have mb17 : M ≤ b17 := by rw [hb17]; exact HV2.out.2.1
          obtain ⟨V15, hV15⟩ : ∃ X, X = V1.alloc (.map #[] 0) := ⟨_, rfl⟩
          have hg : V15.heap[b17]? = some (.map #[] 0) := by rw [hV15, hb17]; exact heap_alloc_new V1 _
          have bb : Below V1.heap.size V1 V15 := by rw [hV15]; exact (Below.refl _ _).alloc (Nat.le_refl _) _
          rw [← hV15]
          try rw [← hb17]
          have HV16 := Lib.hid (And.intro (HV2.out.1.below bb) (And.intro (Nat.le_trans HV2.out.2.1 bb.size) (And.intro trivial (And.intro hg (And.intro trivial trivial)))))
          clear bb hg
          clear hV15 hb17
          refine hK.out _ _ HV16.out.1.cf (fun hHeld => ?_)
          clear hK K
          try simp only [Act.put, List.getElem_toArray, List.getElem_cons_succ, List.getElem_cons_zero, List.setIfInBounds_toArray, List.set_cons_zero, List.set_cons_succ]
          refine wpAnyH_ready (rs := [10]) (by kernel_rfl) (by simp) ?_
          refine AllReadyH.cons rfl (fun K hK => ?_) AllReadyH.nil
          · simp only [List.getElem_toArray, List.getElem_cons_succ, List.getElem_cons_zero]
            rw [if_pos (by rfl)]
            go_simp
            refine (gnew _).mono ?_
            rintro _ V18 ⟨rfl, hg, bb⟩
            obtain ⟨g20, hg20⟩ : ∃ X, X = V15.heap.size := ⟨_, rfl⟩
            have mg20 : M ≤ g20 := by rw [hg20]; exact HV16.out.2.1
            rw [← hg20] at hg ⊢
            have HV19 := Lib.hid (And.intro (HV16.out.1.below bb) (And.intro (Nat.le_trans HV16.out.2.1 bb.size) (And.intro hg (And.intro (kp bb HV16.out.2.2.2.1) (And.intro trivial trivial)))))
            clear bb hg
            clear hg20
            go_wp2_with fail
            refine hK.out _ _ HV19.out.1.cf (fun hHeld => ?_)
            clear hK K
            try simp only [Act.put, List.getElem_toArray, List.getElem_cons_succ, List.getElem_cons_zero, List.setIfInBounds_toArray, List.set_cons_zero, List.set_cons_succ]
            refine wpAnyH_take (i := 12) (oi := _) (v := ?_) rfl (by kernel_rfl) (by kernel_rfl) (by kernel_rfl) (fun _ _ _ h => h) (Or.inl ⟨by rfl, ?_⟩) (by assumption) ?_
            rotate_left
            · (intro W hSw; (try dsimp only at hSw); go_simp; try with_reducible rfl)
            try simp only [Act.put, List.getElem_toArray, List.getElem_cons_succ, List.getElem_cons_zero, List.setIfInBounds_toArray, List.set_cons_zero, List.set_cons_succ]
            refine wpAnyH_ready (rs := [13]) (by kernel_rfl) (by simp) ?_
            refine AllReadyH.cons rfl (fun K hK => ?_) AllReadyH.nil
            · simp only [List.getElem_toArray, List.getElem_cons_succ, List.getElem_cons_zero]
              rw [if_pos (by rfl)]
              go_simp
              obtain ⟨n23, hn23⟩ : ∃ X, X = V18.heap.size := ⟨_, rfl⟩
              have mn23 : M ≤ n23 := by rw [hn23]; exact HV19.out.2.1
              obtain ⟨V21, hV21⟩ : ∃ X, X = V18.alloc (.cells #[.int .u64 0, .int .u64 c.f11, .pointer (some ⟨g20, 0, none⟩), .map (some b17)] TNm) := ⟨_, rfl⟩
              have hg : V21.heap[n23]? = some (.cells #[.int .u64 0, .int .u64 c.f11, .pointer (some ⟨g20, 0, none⟩), .map (some b17)] TNm (0, 0)) := by rw [hV21, hn23]; exact heap_alloc_new V18 _
              have bb : Below V18.heap.size V18 V21 := by rw [hV21]; exact (Below.refl _ _).alloc (Nat.le_refl _) _
              rw [← hV21]
              try rw [← hn23]
              have HV22 := Lib.hid (And.intro (HV19.out.1.below bb) (And.intro (Nat.le_trans HV19.out.2.1 bb.size) (And.intro (kp bb HV19.out.2.2.1) (And.intro (kp bb HV19.out.2.2.2.1) (And.intro hg trivial)))))
              clear bb hg
              clear hV21 hn23
              refine hK.out _ _ HV22.out.1.cf (fun hHeld => ?_)
              clear hK K
              try simp only [Act.put, List.getElem_toArray, List.getElem_cons_succ, List.getElem_cons_zero, List.setIfInBounds_toArray, List.set_cons_zero, List.set_cons_succ]
              refine wpAnyH_ready (rs := [14]) (by kernel_rfl) (by simp) ?_
              refine AllReadyH.cons rfl (fun K hK => ?_) AllReadyH.nil
              · simp only [List.getElem_toArray, List.getElem_cons_succ, List.getElem_cons_zero]
                rw [if_pos (by rfl)]
                go_simp
                obtain ⟨k26, hk26⟩ : ∃ X, X = V21.heap.size := ⟨_, rfl⟩
                have mk26 : M ≤ k26 := by rw [hk26]; exact HV22.out.2.1
                obtain ⟨V24, hV24⟩ : ∃ X, X = V21.alloc (.cells #[.pointer (some ⟨n23, 0, none⟩)] TNp) := ⟨_, rfl⟩
                have hNk26 : Hid (∀ j u, [Value.pointer (some ⟨n23, 0, none⟩)][j]? = some u → V24.cell? ((⟨k26, 0, none⟩ : Addr).add j) = some u) := Lib.hid (by rw [hV24, hk26]; exact news_p V21 _)
                have bb : Below V21.heap.size V21 V24 := by rw [hV24]; exact (Below.refl _ _).alloc (Nat.le_refl _) _
                rw [← hV24]
                try rw [← hk26]
                have HV25 := Lib.hid (And.intro (HV22.out.1.below bb) (And.intro (Nat.le_trans HV22.out.2.1 bb.size) (And.intro (kp bb HV22.out.2.2.1) (And.intro (kp bb HV22.out.2.2.2.1) (And.intro (kp bb HV22.out.2.2.2.2.1) trivial)))))
                clear bb
                clear hV24 hk26
                refine hK.out _ _ HV25.out.1.cf (fun hHeld => ?_)
                clear hK K
                try simp only [Act.put, List.getElem_toArray, List.getElem_cons_succ, List.getElem_cons_zero, List.setIfInBounds_toArray, List.set_cons_zero, List.set_cons_succ]
                refine wpAnyH_ready (rs := [15]) (by kernel_rfl) (by simp) ?_
                refine AllReadyH.cons rfl (fun K hK => ?_) AllReadyH.nil
                simp only [List.getElem_toArray, List.getElem_cons_succ, List.getElem_cons_zero]
                rw [if_pos (by rfl)]
                (refine wp_append_keep _ _ _ _ (by rfl) (w.heap.size + 1) TNp i0 _ 1 8 Tryz.underlying68 hi hz0 hz1 hz2 rfl (by decide) z0 k _ (by rfl) HV25.out.1.al.r0 ⟨k26, 0, none⟩ 1 1 [.pointer (some ⟨n23, 0, none⟩)] (by rfl) rfl hNk26.out (ones_p _) (by decide) (by have := HKb.out; unfold maxLen; omega) (by have := HKb.out; omega) (by have := HV25.out.2.1; have := HMb.out; omega) V24.heap.size rfl ?_; intro g2 cap2 w3 hown2 hg2 hat2 hold2; obtain ⟨hC3, hS3, hN3⟩ := NW.push0 HV25.out.1 HU.out (by show k < A; omega) (NumN.mk HV25.out.2.2.2.2.1 HV25.out.2.2.1 HV25.out.2.2.2.1) ⟨mn23, mg20, mb17⟩ HMb.out rfl hown2 hg2; have HP := Lib.hid (And.intro hN3 hS3); clear hown2 hg2 hat2 hold2 hN3 hS3)
                refine hK.out _ _ hC3 (fun hHeld => ?_)
                clear hK K
                try simp only [Act.put, List.setIfInBounds_toArray, List.set_cons_zero, List.set_cons_succ]
                refine wpAnyH_take (i := 18) (oi := _) (v := ?_) rfl (by kernel_rfl) (by kernel_rfl) (by kernel_rfl) (fun _ _ _ h => h) (Or.inl ⟨by rfl, ?_⟩) (by assumption) ?_
                rotate_left
                · (intro W hSw; (try dsimp only at hSw); go_simp; try with_reducible rfl)
                try simp only [Act.put, List.getElem_toArray, List.getElem_cons_succ, List.getElem_cons_zero, List.setIfInBounds_toArray, List.set_cons_zero, List.set_cons_succ]
                have qs := cell_of_row w3 S 2 _ _ (0, 0) HP.out.2
                have fs : w3.frozen? ⟨S, 2, none⟩ = false := by have := HP.out.2; simp [World.frozen?, this]
                refine wpAnyH_ready (rs := [19]) (by kernel_rfl) (by simp) ?_
                refine AllReadyH.cons rfl (fun K hK => ?_) AllReadyH.nil
                simp only [List.getElem_toArray, List.getElem_cons_succ, List.getElem_cons_zero]
                rw [if_pos (by rfl)]
                go_simp
                refine hK.out _ _ HP.out.1.cf (fun hHeld => ?_)
                clear hK K
                try simp only [Act.put, List.getElem_toArray, List.getElem_cons_succ, List.getElem_cons_zero, List.setIfInBounds_toArray, List.set_cons_zero, List.set_cons_succ]
                refine wpAnyH_done (by kernel_rfl) ?_ _
                have hR : ∃ b z0, NW w (w3.setCell ⟨S, 2, none⟩ (.slice (some ⟨g2, 0, none⟩) (k + 1) cap2)) ⟨S, A, b⟩ (k + 1) 0 c z0 (.slice none 0 0) := ⟨_, _, HP.out.1⟩
                have HR := Lib.hid hR
                clear hR qs fs
                go_wp2
                go_roundw
                case rel => exact ⟨k + 1, by go_num, hkA, HR.out⟩
                case measure => simp [intOf]; omega
      · simp only [List.getElem_toArray, List.getElem_cons_succ, List.getElem_cons_zero]
        rw [if_pos (by rfl)]
        go_simp
        refine (gnew _).mono ?_
        rintro _ V27 ⟨rfl, hg, bb⟩
        obtain ⟨g29, hg29⟩ : ∃ X, X = V1.heap.size := ⟨_, rfl⟩
        have mg29 : M ≤ g29 := by rw [hg29]; exact HV2.out.2.1
        rw [← hg29] at hg ⊢
        have HV28 := Lib.hid (And.intro (HV2.out.1.below bb) (And.intro (Nat.le_trans HV2.out.2.1 bb.size) (And.intro hg (And.intro trivial (And.intro trivial trivial)))))
        clear bb hg
        clear hg29
        go_wp2_with fail
        refine hK.out _ _ HV28.out.1.cf (fun hHeld => ?_)
        clear hK K
        try simp only [Act.put, List.getElem_toArray, List.getElem_cons_succ, List.getElem_cons_zero, List.setIfInBounds_toArray, List.set_cons_zero, List.set_cons_succ]
        refine wpAnyH_ready (rs := [7, 11]) (by kernel_rfl) (by simp) ?_
        refine AllReadyH.cons rfl (fun K hK => ?_) (AllReadyH.cons rfl (fun K hK => ?_) AllReadyH.nil)
        · simp only [List.getElem_toArray, List.getElem_cons_succ, List.getElem_cons_zero]
          rw [if_pos (by rfl)]
          have q := cell_of_row V27 S 2 _ _ (0, 0) HV28.out.1.a
          go_simp
          clear q
          refine hK.out _ _ HV28.out.1.cf (fun hHeld => ?_)
          clear hK K
          try simp only [Act.put, List.getElem_toArray, List.getElem_cons_succ, List.getElem_cons_zero, List.setIfInBounds_toArray, List.set_cons_zero, List.set_cons_succ]
          refine wpAnyH_ready (rs := [11]) (by kernel_rfl) (by simp) ?_
          refine AllReadyH.cons rfl (fun K hK => ?_) AllReadyH.nil
          · simp only [List.getElem_toArray, List.getElem_cons_succ, List.getElem_cons_zero]
            rw [if_pos (by rfl)]
            have emk := mk_map V27
            go_simp
            clear emk
            obtain ⟨b32, hb32⟩ : ∃ X, X = V27.heap.size := ⟨_, rfl⟩
            have mb32 : M ≤ b32 := by rw [hb32]; exact HV28.out.2.1
            obtain ⟨V30, hV30⟩ : ∃ X, X = V27.alloc (.map #[] 0) := ⟨_, rfl⟩
            have hg : V30.heap[b32]? = some (.map #[] 0) := by rw [hV30, hb32]; exact heap_alloc_new V27 _
            have bb : Below V27.heap.size V27 V30 := by rw [hV30]; exact (Below.refl _ _).alloc (Nat.le_refl _) _
            rw [← hV30]
            try rw [← hb32]
            have HV31 := Lib.hid (And.intro (HV28.out.1.below bb) (And.intro (Nat.le_trans HV28.out.2.1 bb.size) (And.intro (kp bb HV28.out.2.2.1) (And.intro hg (And.intro trivial trivial)))))
            clear bb hg
            clear hV30 hb32
            refine hK.out _ _ HV31.out.1.cf (fun hHeld => ?_)
            clear hK K
            try simp only [Act.put, List.getElem_toArray, List.getElem_cons_succ, List.getElem_cons_zero, List.setIfInBounds_toArray, List.set_cons_zero, List.set_cons_succ]
            refine wpAnyH_take (i := 12) (oi := _) (v := ?_) rfl (by kernel_rfl) (by kernel_rfl) (by kernel_rfl) (fun _ _ _ h => h) (Or.inl ⟨by rfl, ?_⟩) (by assumption) ?_
            rotate_left
            · (intro W hSw; (try dsimp only at hSw); go_simp; try with_reducible rfl)
            try simp only [Act.put, List.getElem_toArray, List.getElem_cons_succ, List.getElem_cons_zero, List.setIfInBounds_toArray, List.set_cons_zero, List.set_cons_succ]
            refine wpAnyH_ready (rs := [13]) (by kernel_rfl) (by simp) ?_
            refine AllReadyH.cons rfl (fun K hK => ?_) AllReadyH.nil
            · simp only [List.getElem_toArray, List.getElem_cons_succ, List.getElem_cons_zero]
              rw [if_pos (by rfl)]
              go_simp
              obtain ⟨n35, hn35⟩ : ∃ X, X = V30.heap.size := ⟨_, rfl⟩
              have mn35 : M ≤ n35 := by rw [hn35]; exact HV31.out.2.1
              obtain ⟨V33, hV33⟩ : ∃ X, X = V30.alloc (.cells #[.int .u64 0, .int .u64 c.f11, .pointer (some ⟨g29, 0, none⟩), .map (some b32)] TNm) := ⟨_, rfl⟩
              have hg : V33.heap[n35]? = some (.cells #[.int .u64 0, .int .u64 c.f11, .pointer (some ⟨g29, 0, none⟩), .map (some b32)] TNm (0, 0)) := by rw [hV33, hn35]; exact heap_alloc_new V30 _
              have bb : Below V30.heap.size V30 V33 := by rw [hV33]; exact (Below.refl _ _).alloc (Nat.le_refl _) _
              rw [← hV33]
              try rw [← hn35]
              have HV34 := Lib.hid (And.intro (HV31.out.1.below bb) (And.intro (Nat.le_trans HV31.out.2.1 bb.size) (And.intro (kp bb HV31.out.2.2.1) (And.intro (kp bb HV31.out.2.2.2.1) (And.intro hg trivial)))))
              clear bb hg
              clear hV33 hn35
              refine hK.out _ _ HV34.out.1.cf (fun hHeld => ?_)
              clear hK K
              try simp only [Act.put, List.getElem_toArray, List.getElem_cons_succ, List.getElem_cons_zero, List.setIfInBounds_toArray, List.set_cons_zero, List.set_cons_succ]
              refine wpAnyH_ready (rs := [14]) (by kernel_rfl) (by simp) ?_
              refine AllReadyH.cons rfl (fun K hK => ?_) AllReadyH.nil
              · simp only [List.getElem_toArray, List.getElem_cons_succ, List.getElem_cons_zero]
                rw [if_pos (by rfl)]
                go_simp
                obtain ⟨k38, hk38⟩ : ∃ X, X = V33.heap.size := ⟨_, rfl⟩
                have mk38 : M ≤ k38 := by rw [hk38]; exact HV34.out.2.1
                obtain ⟨V36, hV36⟩ : ∃ X, X = V33.alloc (.cells #[.pointer (some ⟨n35, 0, none⟩)] TNp) := ⟨_, rfl⟩
                have hNk38 : Hid (∀ j u, [Value.pointer (some ⟨n35, 0, none⟩)][j]? = some u → V36.cell? ((⟨k38, 0, none⟩ : Addr).add j) = some u) := Lib.hid (by rw [hV36, hk38]; exact news_p V33 _)
                have bb : Below V33.heap.size V33 V36 := by rw [hV36]; exact (Below.refl _ _).alloc (Nat.le_refl _) _
                rw [← hV36]
                try rw [← hk38]
                have HV37 := Lib.hid (And.intro (HV34.out.1.below bb) (And.intro (Nat.le_trans HV34.out.2.1 bb.size) (And.intro (kp bb HV34.out.2.2.1) (And.intro (kp bb HV34.out.2.2.2.1) (And.intro (kp bb HV34.out.2.2.2.2.1) trivial)))))
                clear bb
                clear hV36 hk38
                refine hK.out _ _ HV37.out.1.cf (fun hHeld => ?_)
                clear hK K
                try simp only [Act.put, List.getElem_toArray, List.getElem_cons_succ, List.getElem_cons_zero, List.setIfInBounds_toArray, List.set_cons_zero, List.set_cons_succ]
                refine wpAnyH_ready (rs := [15]) (by kernel_rfl) (by simp) ?_
                refine AllReadyH.cons rfl (fun K hK => ?_) AllReadyH.nil
                simp only [List.getElem_toArray, List.getElem_cons_succ, List.getElem_cons_zero]
                rw [if_pos (by rfl)]
                (refine wp_append_keep _ _ _ _ (by rfl) (w.heap.size + 1) TNp i0 _ 1 8 Tryz.underlying68 hi hz0 hz1 hz2 rfl (by decide) z0 k _ (by rfl) HV37.out.1.al.r0 ⟨k38, 0, none⟩ 1 1 [.pointer (some ⟨n35, 0, none⟩)] (by rfl) rfl hNk38.out (ones_p _) (by decide) (by have := HKb.out; unfold maxLen; omega) (by have := HKb.out; omega) (by have := HV37.out.2.1; have := HMb.out; omega) V36.heap.size rfl ?_; intro g2 cap2 w3 hown2 hg2 hat2 hold2; obtain ⟨hC3, hS3, hN3⟩ := NW.push0 HV37.out.1 HU.out (by show k < A; omega) (NumN.mk HV37.out.2.2.2.2.1 HV37.out.2.2.1 HV37.out.2.2.2.1) ⟨mn35, mg29, mb32⟩ HMb.out rfl hown2 hg2; have HP := Lib.hid (And.intro hN3 hS3); clear hown2 hg2 hat2 hold2 hN3 hS3)
                refine hK.out _ _ hC3 (fun hHeld => ?_)
                clear hK K
                try simp only [Act.put, List.setIfInBounds_toArray, List.set_cons_zero, List.set_cons_succ]
                refine wpAnyH_take (i := 18) (oi := _) (v := ?_) rfl (by kernel_rfl) (by kernel_rfl) (by kernel_rfl) (fun _ _ _ h => h) (Or.inl ⟨by rfl, ?_⟩) (by assumption) ?_
                rotate_left
                · (intro W hSw; (try dsimp only at hSw); go_simp; try with_reducible rfl)
                try simp only [Act.put, List.getElem_toArray, List.getElem_cons_succ, List.getElem_cons_zero, List.setIfInBounds_toArray, List.set_cons_zero, List.set_cons_succ]
                have qs := cell_of_row w3 S 2 _ _ (0, 0) HP.out.2
                have fs : w3.frozen? ⟨S, 2, none⟩ = false := by have := HP.out.2; simp [World.frozen?, this]
                refine wpAnyH_ready (rs := [19]) (by kernel_rfl) (by simp) ?_
                refine AllReadyH.cons rfl (fun K hK => ?_) AllReadyH.nil
                simp only [List.getElem_toArray, List.getElem_cons_succ, List.getElem_cons_zero]
                rw [if_pos (by rfl)]
                go_simp
                refine hK.out _ _ HP.out.1.cf (fun hHeld => ?_)
                clear hK K
                try simp only [Act.put, List.getElem_toArray, List.getElem_cons_succ, List.getElem_cons_zero, List.setIfInBounds_toArray, List.set_cons_zero, List.set_cons_succ]
                refine wpAnyH_done (by kernel_rfl) ?_ _
                have hR : ∃ b z0, NW w (w3.setCell ⟨S, 2, none⟩ (.slice (some ⟨g2, 0, none⟩) (k + 1) cap2)) ⟨S, A, b⟩ (k + 1) 0 c z0 (.slice none 0 0) := ⟨_, _, HP.out.1⟩
                have HR := Lib.hid hR
                clear hR qs fs
                go_wp2
                go_roundw
                case rel => exact ⟨k + 1, by go_num, hkA, HR.out⟩
                case measure => simp [intOf]; omega
        · simp only [List.getElem_toArray, List.getElem_cons_succ, List.getElem_cons_zero]
          rw [if_pos (by rfl)]
          have emk := mk_map V27
          go_simp
          clear emk
          obtain ⟨b41, hb41⟩ : ∃ X, X = V27.heap.size := ⟨_, rfl⟩
          have mb41 : M ≤ b41 := by rw [hb41]; exact HV28.out.2.1
          obtain ⟨V39, hV39⟩ : ∃ X, X = V27.alloc (.map #[] 0) := ⟨_, rfl⟩
          have hg : V39.heap[b41]? = some (.map #[] 0) := by rw [hV39, hb41]; exact heap_alloc_new V27 _
          have bb : Below V27.heap.size V27 V39 := by rw [hV39]; exact (Below.refl _ _).alloc (Nat.le_refl _) _
          rw [← hV39]
          try rw [← hb41]
          have HV40 := Lib.hid (And.intro (HV28.out.1.below bb) (And.intro (Nat.le_trans HV28.out.2.1 bb.size) (And.intro (kp bb HV28.out.2.2.1) (And.intro hg (And.intro trivial trivial)))))
          clear bb hg
          clear hV39 hb41
          refine hK.out _ _ HV40.out.1.cf (fun hHeld => ?_)
          clear hK K
          try simp only [Act.put, List.getElem_toArray, List.getElem_cons_succ, List.getElem_cons_zero, List.setIfInBounds_toArray, List.set_cons_zero, List.set_cons_succ]
          refine wpAnyH_take (i := 12) (oi := _) (v := ?_) rfl (by kernel_rfl) (by kernel_rfl) (by kernel_rfl) (fun _ _ _ h => h) (Or.inl ⟨by rfl, ?_⟩) (by assumption) ?_
          rotate_left
          · (intro W hSw; (try dsimp only at hSw); go_simp; try with_reducible rfl)
          try simp only [Act.put, List.getElem_toArray, List.getElem_cons_succ, List.getElem_cons_zero, List.setIfInBounds_toArray, List.set_cons_zero, List.set_cons_succ]
          refine wpAnyH_ready (rs := [7, 13]) (by kernel_rfl) (by simp) ?_
          refine AllReadyH.cons rfl (fun K hK => ?_) (AllReadyH.cons rfl (fun K hK => ?_) AllReadyH.nil)
          · simp only [List.getElem_toArray, List.getElem_cons_succ, List.getElem_cons_zero]
            rw [if_pos (by rfl)]
            have q := cell_of_row V39 S 2 _ _ (0, 0) HV40.out.1.a
            go_simp
            clear q
            refine hK.out _ _ HV40.out.1.cf (fun hHeld => ?_)
            clear hK K
            try simp only [Act.put, List.getElem_toArray, List.getElem_cons_succ, List.getElem_cons_zero, List.setIfInBounds_toArray, List.set_cons_zero, List.set_cons_succ]
            refine wpAnyH_ready (rs := [13]) (by kernel_rfl) (by simp) ?_
            refine AllReadyH.cons rfl (fun K hK => ?_) AllReadyH.nil
            · simp only [List.getElem_toArray, List.getElem_cons_succ, List.getElem_cons_zero]
              rw [if_pos (by rfl)]
              go_simp
              obtain ⟨n44, hn44⟩ : ∃ X, X = V39.heap.size := ⟨_, rfl⟩
              have mn44 : M ≤ n44 := by rw [hn44]; exact HV40.out.2.1
              obtain ⟨V42, hV42⟩ : ∃ X, X = V39.alloc (.cells #[.int .u64 0, .int .u64 c.f11, .pointer (some ⟨g29, 0, none⟩), .map (some b41)] TNm) := ⟨_, rfl⟩
              have hg : V42.heap[n44]? = some (.cells #[.int .u64 0, .int .u64 c.f11, .pointer (some ⟨g29, 0, none⟩), .map (some b41)] TNm (0, 0)) := by rw [hV42, hn44]; exact heap_alloc_new V39 _
              have bb : Below V39.heap.size V39 V42 := by rw [hV42]; exact (Below.refl _ _).alloc (Nat.le_refl _) _
              rw [← hV42]
              try rw [← hn44]
              have HV43 := Lib.hid (And.intro (HV40.out.1.below bb) (And.intro (Nat.le_trans HV40.out.2.1 bb.size) (And.intro (kp bb HV40.out.2.2.1) (And.intro (kp bb HV40.out.2.2.2.1) (And.intro hg trivial)))))
              clear bb hg
              clear hV42 hn44
              refine hK.out _ _ HV43.out.1.cf (fun hHeld => ?_)
              clear hK K
              try simp only [Act.put, List.getElem_toArray, List.getElem_cons_succ, List.getElem_cons_zero, List.setIfInBounds_toArray, List.set_cons_zero, List.set_cons_succ]
              refine wpAnyH_ready (rs := [14]) (by kernel_rfl) (by simp) ?_
              refine AllReadyH.cons rfl (fun K hK => ?_) AllReadyH.nil
              · simp only [List.getElem_toArray, List.getElem_cons_succ, List.getElem_cons_zero]
                rw [if_pos (by rfl)]
                go_simp
                obtain ⟨k47, hk47⟩ : ∃ X, X = V42.heap.size := ⟨_, rfl⟩
                have mk47 : M ≤ k47 := by rw [hk47]; exact HV43.out.2.1
                obtain ⟨V45, hV45⟩ : ∃ X, X = V42.alloc (.cells #[.pointer (some ⟨n44, 0, none⟩)] TNp) := ⟨_, rfl⟩
                have hNk47 : Hid (∀ j u, [Value.pointer (some ⟨n44, 0, none⟩)][j]? = some u → V45.cell? ((⟨k47, 0, none⟩ : Addr).add j) = some u) := Lib.hid (by rw [hV45, hk47]; exact news_p V42 _)
                have bb : Below V42.heap.size V42 V45 := by rw [hV45]; exact (Below.refl _ _).alloc (Nat.le_refl _) _
                rw [← hV45]
                try rw [← hk47]
                have HV46 := Lib.hid (And.intro (HV43.out.1.below bb) (And.intro (Nat.le_trans HV43.out.2.1 bb.size) (And.intro (kp bb HV43.out.2.2.1) (And.intro (kp bb HV43.out.2.2.2.1) (And.intro (kp bb HV43.out.2.2.2.2.1) trivial)))))
                clear bb
                clear hV45 hk47
                refine hK.out _ _ HV46.out.1.cf (fun hHeld => ?_)
                clear hK K
                try simp only [Act.put, List.getElem_toArray, List.getElem_cons_succ, List.getElem_cons_zero, List.setIfInBounds_toArray, List.set_cons_zero, List.set_cons_succ]
                refine wpAnyH_ready (rs := [15]) (by kernel_rfl) (by simp) ?_
                refine AllReadyH.cons rfl (fun K hK => ?_) AllReadyH.nil
                simp only [List.getElem_toArray, List.getElem_cons_succ, List.getElem_cons_zero]
                rw [if_pos (by rfl)]
                (refine wp_append_keep _ _ _ _ (by rfl) (w.heap.size + 1) TNp i0 _ 1 8 Tryz.underlying68 hi hz0 hz1 hz2 rfl (by decide) z0 k _ (by rfl) HV46.out.1.al.r0 ⟨k47, 0, none⟩ 1 1 [.pointer (some ⟨n44, 0, none⟩)] (by rfl) rfl hNk47.out (ones_p _) (by decide) (by have := HKb.out; unfold maxLen; omega) (by have := HKb.out; omega) (by have := HV46.out.2.1; have := HMb.out; omega) V45.heap.size rfl ?_; intro g2 cap2 w3 hown2 hg2 hat2 hold2; obtain ⟨hC3, hS3, hN3⟩ := NW.push0 HV46.out.1 HU.out (by show k < A; omega) (NumN.mk HV46.out.2.2.2.2.1 HV46.out.2.2.1 HV46.out.2.2.2.1) ⟨mn44, mg29, mb41⟩ HMb.out rfl hown2 hg2; have HP := Lib.hid (And.intro hN3 hS3); clear hown2 hg2 hat2 hold2 hN3 hS3)
                refine hK.out _ _ hC3 (fun hHeld => ?_)
                clear hK K
                try simp only [Act.put, List.setIfInBounds_toArray, List.set_cons_zero, List.set_cons_succ]
                refine wpAnyH_take (i := 18) (oi := _) (v := ?_) rfl (by kernel_rfl) (by kernel_rfl) (by kernel_rfl) (fun _ _ _ h => h) (Or.inl ⟨by rfl, ?_⟩) (by assumption) ?_
                rotate_left
                · (intro W hSw; (try dsimp only at hSw); go_simp; try with_reducible rfl)
                try simp only [Act.put, List.getElem_toArray, List.getElem_cons_succ, List.getElem_cons_zero, List.setIfInBounds_toArray, List.set_cons_zero, List.set_cons_succ]
                have qs := cell_of_row w3 S 2 _ _ (0, 0) HP.out.2
                have fs : w3.frozen? ⟨S, 2, none⟩ = false := by have := HP.out.2; simp [World.frozen?, this]
                refine wpAnyH_ready (rs := [19]) (by kernel_rfl) (by simp) ?_
                refine AllReadyH.cons rfl (fun K hK => ?_) AllReadyH.nil
                simp only [List.getElem_toArray, List.getElem_cons_succ, List.getElem_cons_zero]
                rw [if_pos (by rfl)]
                go_simp
                refine hK.out _ _ HP.out.1.cf (fun hHeld => ?_)
                clear hK K
                try simp only [Act.put, List.getElem_toArray, List.getElem_cons_succ, List.getElem_cons_zero, List.setIfInBounds_toArray, List.set_cons_zero, List.set_cons_succ]
                refine wpAnyH_done (by kernel_rfl) ?_ _
                have hR : ∃ b z0, NW w (w3.setCell ⟨S, 2, none⟩ (.slice (some ⟨g2, 0, none⟩) (k + 1) cap2)) ⟨S, A, b⟩ (k + 1) 0 c z0 (.slice none 0 0) := ⟨_, _, HP.out.1⟩
                have HR := Lib.hid hR
                clear hR qs fs
                go_wp2
                go_roundw
                case rel => exact ⟨k + 1, by go_num, hkA, HR.out⟩
                case measure => simp [intOf]; omega
          · simp only [List.getElem_toArray, List.getElem_cons_succ, List.getElem_cons_zero]
            rw [if_pos (by rfl)]
            go_simp
            obtain ⟨n50, hn50⟩ : ∃ X, X = V39.heap.size := ⟨_, rfl⟩
            have mn50 : M ≤ n50 := by rw [hn50]; exact HV40.out.2.1
            obtain ⟨V48, hV48⟩ : ∃ X, X = V39.alloc (.cells #[.int .u64 0, .int .u64 c.f11, .pointer (some ⟨g29, 0, none⟩), .map (some b41)] TNm) := ⟨_, rfl⟩
            have hg : V48.heap[n50]? = some (.cells #[.int .u64 0, .int .u64 c.f11, .pointer (some ⟨g29, 0, none⟩), .map (some b41)] TNm (0, 0)) := by rw [hV48, hn50]; exact heap_alloc_new V39 _
            have bb : Below V39.heap.size V39 V48 := by rw [hV48]; exact (Below.refl _ _).alloc (Nat.le_refl _) _
            rw [← hV48]
            try rw [← hn50]
            have HV49 := Lib.hid (And.intro (HV40.out.1.below bb) (And.intro (Nat.le_trans HV40.out.2.1 bb.size) (And.intro (kp bb HV40.out.2.2.1) (And.intro (kp bb HV40.out.2.2.2.1) (And.intro hg trivial)))))
            clear bb hg
            clear hV48 hn50
            refine hK.out _ _ HV49.out.1.cf (fun hHeld => ?_)
            clear hK K
            try simp only [Act.put, List.getElem_toArray, List.getElem_cons_succ, List.getElem_cons_zero, List.setIfInBounds_toArray, List.set_cons_zero, List.set_cons_succ]
            refine wpAnyH_ready (rs := [7, 14]) (by kernel_rfl) (by simp) ?_
            refine AllReadyH.cons rfl (fun K hK => ?_) (AllReadyH.cons rfl (fun K hK => ?_) AllReadyH.nil)
            · simp only [List.getElem_toArray, List.getElem_cons_succ, List.getElem_cons_zero]
              rw [if_pos (by rfl)]
              have q := cell_of_row V48 S 2 _ _ (0, 0) HV49.out.1.a
              go_simp
              clear q
              refine hK.out _ _ HV49.out.1.cf (fun hHeld => ?_)
              clear hK K
              try simp only [Act.put, List.getElem_toArray, List.getElem_cons_succ, List.getElem_cons_zero, List.setIfInBounds_toArray, List.set_cons_zero, List.set_cons_succ]
              refine wpAnyH_ready (rs := [14]) (by kernel_rfl) (by simp) ?_
              refine AllReadyH.cons rfl (fun K hK => ?_) AllReadyH.nil
              · simp only [List.getElem_toArray, List.getElem_cons_succ, List.getElem_cons_zero]
                rw [if_pos (by rfl)]
                go_simp
                obtain ⟨k53, hk53⟩ : ∃ X, X = V48.heap.size := ⟨_, rfl⟩
                have mk53 : M ≤ k53 := by rw [hk53]; exact HV49.out.2.1
                obtain ⟨V51, hV51⟩ : ∃ X, X = V48.alloc (.cells #[.pointer (some ⟨n50, 0, none⟩)] TNp) := ⟨_, rfl⟩
                have hNk53 : Hid (∀ j u, [Value.pointer (some ⟨n50, 0, none⟩)][j]? = some u → V51.cell? ((⟨k53, 0, none⟩ : Addr).add j) = some u) := Lib.hid (by rw [hV51, hk53]; exact news_p V48 _)
                have bb : Below V48.heap.size V48 V51 := by rw [hV51]; exact (Below.refl _ _).alloc (Nat.le_refl _) _
                rw [← hV51]
                try rw [← hk53]
                have HV52 := Lib.hid (And.intro (HV49.out.1.below bb) (And.intro (Nat.le_trans HV49.out.2.1 bb.size) (And.intro (kp bb HV49.out.2.2.1) (And.intro (kp bb HV49.out.2.2.2.1) (And.intro (kp bb HV49.out.2.2.2.2.1) trivial)))))
                clear bb
                clear hV51 hk53
                refine hK.out _ _ HV52.out.1.cf (fun hHeld => ?_)
                clear hK K
                try simp only [Act.put, List.getElem_toArray, List.getElem_cons_succ, List.getElem_cons_zero, List.setIfInBounds_toArray, List.set_cons_zero, List.set_cons_succ]
                refine wpAnyH_ready (rs := [15]) (by kernel_rfl) (by simp) ?_
                refine AllReadyH.cons rfl (fun K hK => ?_) AllReadyH.nil
                simp only [List.getElem_toArray, List.getElem_cons_succ, List.getElem_cons_zero]
                rw [if_pos (by rfl)]
                (refine wp_append_keep _ _ _ _ (by rfl) (w.heap.size + 1) TNp i0 _ 1 8 Tryz.underlying68 hi hz0 hz1 hz2 rfl (by decide) z0 k _ (by rfl) HV52.out.1.al.r0 ⟨k53, 0, none⟩ 1 1 [.pointer (some ⟨n50, 0, none⟩)] (by rfl) rfl hNk53.out (ones_p _) (by decide) (by have := HKb.out; unfold maxLen; omega) (by have := HKb.out; omega) (by have := HV52.out.2.1; have := HMb.out; omega) V51.heap.size rfl ?_; intro g2 cap2 w3 hown2 hg2 hat2 hold2; obtain ⟨hC3, hS3, hN3⟩ := NW.push0 HV52.out.1 HU.out (by show k < A; omega) (NumN.mk HV52.out.2.2.2.2.1 HV52.out.2.2.1 HV52.out.2.2.2.1) ⟨mn50, mg29, mb41⟩ HMb.out rfl hown2 hg2; have HP := Lib.hid (And.intro hN3 hS3); clear hown2 hg2 hat2 hold2 hN3 hS3)
                refine hK.out _ _ hC3 (fun hHeld => ?_)
                clear hK K
                try simp only [Act.put, List.setIfInBounds_toArray, List.set_cons_zero, List.set_cons_succ]
                refine wpAnyH_take (i := 18) (oi := _) (v := ?_) rfl (by kernel_rfl) (by kernel_rfl) (by kernel_rfl) (fun _ _ _ h => h) (Or.inl ⟨by rfl, ?_⟩) (by assumption) ?_
                rotate_left
                · (intro W hSw; (try dsimp only at hSw); go_simp; try with_reducible rfl)
                try simp only [Act.put, List.getElem_toArray, List.getElem_cons_succ, List.getElem_cons_zero, List.setIfInBounds_toArray, List.set_cons_zero, List.set_cons_succ]
                have qs := cell_of_row w3 S 2 _ _ (0, 0) HP.out.2
                have fs : w3.frozen? ⟨S, 2, none⟩ = false := by have := HP.out.2; simp [World.frozen?, this]
                refine wpAnyH_ready (rs := [19]) (by kernel_rfl) (by simp) ?_
                refine AllReadyH.cons rfl (fun K hK => ?_) AllReadyH.nil
                simp only [List.getElem_toArray, List.getElem_cons_succ, List.getElem_cons_zero]
                rw [if_pos (by rfl)]
                go_simp
                refine hK.out _ _ HP.out.1.cf (fun hHeld => ?_)
                clear hK K
                try simp only [Act.put, List.getElem_toArray, List.getElem_cons_succ, List.getElem_cons_zero, List.setIfInBounds_toArray, List.set_cons_zero, List.set_cons_succ]
                refine wpAnyH_done (by kernel_rfl) ?_ _
                have hR : ∃ b z0, NW w (w3.setCell ⟨S, 2, none⟩ (.slice (some ⟨g2, 0, none⟩) (k + 1) cap2)) ⟨S, A, b⟩ (k + 1) 0 c z0 (.slice none 0 0) := ⟨_, _, HP.out.1⟩
                have HR := Lib.hid hR
                clear hR qs fs
                go_wp2
                go_roundw
                case rel => exact ⟨k + 1, by go_num, hkA, HR.out⟩
                case measure => simp [intOf]; omega
            · simp only [List.getElem_toArray, List.getElem_cons_succ, List.getElem_cons_zero]
              rw [if_pos (by rfl)]
              go_simp
              obtain ⟨k56, hk56⟩ : ∃ X, X = V48.heap.size := ⟨_, rfl⟩
              have mk56 : M ≤ k56 := by rw [hk56]; exact HV49.out.2.1
              obtain ⟨V54, hV54⟩ : ∃ X, X = V48.alloc (.cells #[.pointer (some ⟨n50, 0, none⟩)] TNp) := ⟨_, rfl⟩
              have hNk56 : Hid (∀ j u, [Value.pointer (some ⟨n50, 0, none⟩)][j]? = some u → V54.cell? ((⟨k56, 0, none⟩ : Addr).add j) = some u) := Lib.hid (by rw [hV54, hk56]; exact news_p V48 _)
              have bb : Below V48.heap.size V48 V54 := by rw [hV54]; exact (Below.refl _ _).alloc (Nat.le_refl _) _
              rw [← hV54]
              try rw [← hk56]
              have HV55 := Lib.hid (And.intro (HV49.out.1.below bb) (And.intro (Nat.le_trans HV49.out.2.1 bb.size) (And.intro (kp bb HV49.out.2.2.1) (And.intro (kp bb HV49.out.2.2.2.1) (And.intro (kp bb HV49.out.2.2.2.2.1) trivial)))))
              clear bb
              clear hV54 hk56
              refine hK.out _ _ HV55.out.1.cf (fun hHeld => ?_)
              clear hK K
              try simp only [Act.put, List.getElem_toArray, List.getElem_cons_succ, List.getElem_cons_zero, List.setIfInBounds_toArray, List.set_cons_zero, List.set_cons_succ]
              refine wpAnyH_ready (rs := [7]) (by kernel_rfl) (by simp) ?_
              refine AllReadyH.cons rfl (fun K hK => ?_) AllReadyH.nil
              · simp only [List.getElem_toArray, List.getElem_cons_succ, List.getElem_cons_zero]
                rw [if_pos (by rfl)]
                have q := cell_of_row V54 S 2 _ _ (0, 0) HV55.out.1.a
                go_simp
                clear q
                refine hK.out _ _ HV55.out.1.cf (fun hHeld => ?_)
                clear hK K
                try simp only [Act.put, List.getElem_toArray, List.getElem_cons_succ, List.getElem_cons_zero, List.setIfInBounds_toArray, List.set_cons_zero, List.set_cons_succ]
                refine wpAnyH_ready (rs := [15]) (by kernel_rfl) (by simp) ?_
                refine AllReadyH.cons rfl (fun K hK => ?_) AllReadyH.nil
                simp only [List.getElem_toArray, List.getElem_cons_succ, List.getElem_cons_zero]
                rw [if_pos (by rfl)]
                (refine wp_append_keep _ _ _ _ (by rfl) (w.heap.size + 1) TNp i0 _ 1 8 Tryz.underlying68 hi hz0 hz1 hz2 rfl (by decide) z0 k _ (by rfl) HV55.out.1.al.r0 ⟨k56, 0, none⟩ 1 1 [.pointer (some ⟨n50, 0, none⟩)] (by rfl) rfl hNk56.out (ones_p _) (by decide) (by have := HKb.out; unfold maxLen; omega) (by have := HKb.out; omega) (by have := HV55.out.2.1; have := HMb.out; omega) V54.heap.size rfl ?_; intro g2 cap2 w3 hown2 hg2 hat2 hold2; obtain ⟨hC3, hS3, hN3⟩ := NW.push0 HV55.out.1 HU.out (by show k < A; omega) (NumN.mk HV55.out.2.2.2.2.1 HV55.out.2.2.1 HV55.out.2.2.2.1) ⟨mn50, mg29, mb41⟩ HMb.out rfl hown2 hg2; have HP := Lib.hid (And.intro hN3 hS3); clear hown2 hg2 hat2 hold2 hN3 hS3)
                refine hK.out _ _ hC3 (fun hHeld => ?_)
                clear hK K
                try simp only [Act.put, List.setIfInBounds_toArray, List.set_cons_zero, List.set_cons_succ]
                refine wpAnyH_take (i := 18) (oi := _) (v := ?_) rfl (by kernel_rfl) (by kernel_rfl) (by kernel_rfl) (fun _ _ _ h => h) (Or.inl ⟨by rfl, ?_⟩) (by assumption) ?_
                rotate_left
                · (intro W hSw; (try dsimp only at hSw); go_simp; try with_reducible rfl)
                try simp only [Act.put, List.getElem_toArray, List.getElem_cons_succ, List.getElem_cons_zero, List.setIfInBounds_toArray, List.set_cons_zero, List.set_cons_succ]
                have qs := cell_of_row w3 S 2 _ _ (0, 0) HP.out.2
                have fs : w3.frozen? ⟨S, 2, none⟩ = false := by have := HP.out.2; simp [World.frozen?, this]
                refine wpAnyH_ready (rs := [19]) (by kernel_rfl) (by simp) ?_
                refine AllReadyH.cons rfl (fun K hK => ?_) AllReadyH.nil
                simp only [List.getElem_toArray, List.getElem_cons_succ, List.getElem_cons_zero]
                rw [if_pos (by rfl)]
                go_simp
                refine hK.out _ _ HP.out.1.cf (fun hHeld => ?_)
                clear hK K
                try simp only [Act.put, List.getElem_toArray, List.getElem_cons_succ, List.getElem_cons_zero, List.setIfInBounds_toArray, List.set_cons_zero, List.set_cons_succ]
                refine wpAnyH_done (by kernel_rfl) ?_ _
                have hR : ∃ b z0, NW w (w3.setCell ⟨S, 2, none⟩ (.slice (some ⟨g2, 0, none⟩) (k + 1) cap2)) ⟨S, A, b⟩ (k + 1) 0 c z0 (.slice none 0 0) := ⟨_, _, HP.out.1⟩
                have HR := Lib.hid hR
                clear hR qs fs
                go_wp2
                go_roundw
                case rel => exact ⟨k + 1, by go_num, hkA, HR.out⟩
                case measure => simp [intOf]; omega
      · simp only [List.getElem_toArray, List.getElem_cons_succ, List.getElem_cons_zero]
        rw [if_pos (by rfl)]
        have emk := mk_map V1
        go_simp
        clear emk
        obtain ⟨b59, hb59⟩ : ∃ X, X = V1.heap.size := ⟨_, rfl⟩
        have mb59 : M ≤ b59 := by rw [hb59]; exact HV2.out.2.1
        obtain ⟨V57, hV57⟩ : ∃ X, X = V1.alloc (.map #[] 0) := ⟨_, rfl⟩
        have hg : V57.heap[b59]? = some (.map #[] 0) := by rw [hV57, hb59]; exact heap_alloc_new V1 _
        have bb : Below V1.heap.size V1 V57 := by rw [hV57]; exact (Below.refl _ _).alloc (Nat.le_refl _) _
        rw [← hV57]
        try rw [← hb59]
        have HV58 := Lib.hid (And.intro (HV2.out.1.below bb) (And.intro (Nat.le_trans HV2.out.2.1 bb.size) (And.intro trivial (And.intro hg (And.intro trivial trivial)))))
        clear bb hg
        clear hV57 hb59
        refine hK.out _ _ HV58.out.1.cf (fun hHeld => ?_)
        clear hK K
        try simp only [Act.put, List.getElem_toArray, List.getElem_cons_succ, List.getElem_cons_zero, List.setIfInBounds_toArray, List.set_cons_zero, List.set_cons_succ]
        refine wpAnyH_ready (rs := [7, 10]) (by kernel_rfl) (by simp) ?_
        refine AllReadyH.cons rfl (fun K hK => ?_) (AllReadyH.cons rfl (fun K hK => ?_) AllReadyH.nil)
        · simp only [List.getElem_toArray, List.getElem_cons_succ, List.getElem_cons_zero]
          rw [if_pos (by rfl)]
          have q := cell_of_row V57 S 2 _ _ (0, 0) HV58.out.1.a
          go_simp
          clear q
          refine hK.out _ _ HV58.out.1.cf (fun hHeld => ?_)
          clear hK K
          try simp only [Act.put, List.getElem_toArray, List.getElem_cons_succ, List.getElem_cons_zero, List.setIfInBounds_toArray, List.set_cons_zero, List.set_cons_succ]
          refine wpAnyH_ready (rs := [10]) (by kernel_rfl) (by simp) ?_
          refine AllReadyH.cons rfl (fun K hK => ?_) AllReadyH.nil
          · simp only [List.getElem_toArray, List.getElem_cons_succ, List.getElem_cons_zero]
            rw [if_pos (by rfl)]
            go_simp
            refine (gnew _).mono ?_
            rintro _ V60 ⟨rfl, hg, bb⟩
            obtain ⟨g62, hg62⟩ : ∃ X, X = V57.heap.size := ⟨_, rfl⟩
            have mg62 : M ≤ g62 := by rw [hg62]; exact HV58.out.2.1
            rw [← hg62] at hg ⊢
            have HV61 := Lib.hid (And.intro (HV58.out.1.below bb) (And.intro (Nat.le_trans HV58.out.2.1 bb.size) (And.intro hg (And.intro (kp bb HV58.out.2.2.2.1) (And.intro trivial trivial)))))
            clear bb hg
            clear hg62
            go_wp2_with fail
            refine hK.out _ _ HV61.out.1.cf (fun hHeld => ?_)
            clear hK K
            try simp only [Act.put, List.getElem_toArray, List.getElem_cons_succ, List.getElem_cons_zero, List.setIfInBounds_toArray, List.set_cons_zero, List.set_cons_succ]
            refine wpAnyH_take (i := 12) (oi := _) (v := ?_) rfl (by kernel_rfl) (by kernel_rfl) (by kernel_rfl) (fun _ _ _ h => h) (Or.inl ⟨by rfl, ?_⟩) (by assumption) ?_
            rotate_left
            · (intro W hSw; (try dsimp only at hSw); go_simp; try with_reducible rfl)
            try simp only [Act.put, List.getElem_toArray, List.getElem_cons_succ, List.getElem_cons_zero, List.setIfInBounds_toArray, List.set_cons_zero, List.set_cons_succ]
            refine wpAnyH_ready (rs := [13]) (by kernel_rfl) (by simp) ?_
            refine AllReadyH.cons rfl (fun K hK => ?_) AllReadyH.nil
            · simp only [List.getElem_toArray, List.getElem_cons_succ, List.getElem_cons_zero]
              rw [if_pos (by rfl)]
              go_simp
              obtain ⟨n65, hn65⟩ : ∃ X, X = V60.heap.size := ⟨_, rfl⟩
              have mn65 : M ≤ n65 := by rw [hn65]; exact HV61.out.2.1
              obtain ⟨V63, hV63⟩ : ∃ X, X = V60.alloc (.cells #[.int .u64 0, .int .u64 c.f11, .pointer (some ⟨g62, 0, none⟩), .map (some b59)] TNm) := ⟨_, rfl⟩
              have hg : V63.heap[n65]? = some (.cells #[.int .u64 0, .int .u64 c.f11, .pointer (some ⟨g62, 0, none⟩), .map (some b59)] TNm (0, 0)) := by rw [hV63, hn65]; exact heap_alloc_new V60 _
              have bb : Below V60.heap.size V60 V63 := by rw [hV63]; exact (Below.refl _ _).alloc (Nat.le_refl _) _
              rw [← hV63]
              try rw [← hn65]
              have HV64 := Lib.hid (And.intro (HV61.out.1.below bb) (And.intro (Nat.le_trans HV61.out.2.1 bb.size) (And.intro (kp bb HV61.out.2.2.1) (And.intro (kp bb HV61.out.2.2.2.1) (And.intro hg trivial)))))
              clear bb hg
              clear hV63 hn65
              refine hK.out _ _ HV64.out.1.cf (fun hHeld => ?_)
              clear hK K
              try simp only [Act.put, List.getElem_toArray, List.getElem_cons_succ, List.getElem_cons_zero, List.setIfInBounds_toArray, List.set_cons_zero, List.set_cons_succ]
              refine wpAnyH_ready (rs := [14]) (by kernel_rfl) (by simp) ?_
              refine AllReadyH.cons rfl (fun K hK => ?_) AllReadyH.nil
              · simp only [List.getElem_toArray, List.getElem_cons_succ, List.getElem_cons_zero]
                rw [if_pos (by rfl)]
                go_simp
                obtain ⟨k68, hk68⟩ : ∃ X, X = V63.heap.size := ⟨_, rfl⟩
                have mk68 : M ≤ k68 := by rw [hk68]; exact HV64.out.2.1
                obtain ⟨V66, hV66⟩ : ∃ X, X = V63.alloc (.cells #[.pointer (some ⟨n65, 0, none⟩)] TNp) := ⟨_, rfl⟩
                have hNk68 : Hid (∀ j u, [Value.pointer (some ⟨n65, 0, none⟩)][j]? = some u → V66.cell? ((⟨k68, 0, none⟩ : Addr).add j) = some u) := Lib.hid (by rw [hV66, hk68]; exact news_p V63 _)
                have bb : Below V63.heap.size V63 V66 := by rw [hV66]; exact (Below.refl _ _).alloc (Nat.le_refl _) _
                rw [← hV66]
                try rw [← hk68]
                have HV67 := Lib.hid (And.intro (HV64.out.1.below bb) (And.intro (Nat.le_trans HV64.out.2.1 bb.size) (And.intro (kp bb HV64.out.2.2.1) (And.intro (kp bb HV64.out.2.2.2.1) (And.intro (kp bb HV64.out.2.2.2.2.1) trivial)))))
                clear bb
                clear hV66 hk68
                refine hK.out _ _ HV67.out.1.cf (fun hHeld => ?_)
                clear hK K
                try simp only [Act.put, List.getElem_toArray, List.getElem_cons_succ, List.getElem_cons_zero, List.setIfInBounds_toArray, List.set_cons_zero, List.set_cons_succ]
                refine wpAnyH_ready (rs := [15]) (by kernel_rfl) (by simp) ?_
                refine AllReadyH.cons rfl (fun K hK => ?_) AllReadyH.nil
                simp only [List.getElem_toArray, List.getElem_cons_succ, List.getElem_cons_zero]
                rw [if_pos (by rfl)]
                (refine wp_append_keep _ _ _ _ (by rfl) (w.heap.size + 1) TNp i0 _ 1 8 Tryz.underlying68 hi hz0 hz1 hz2 rfl (by decide) z0 k _ (by rfl) HV67.out.1.al.r0 ⟨k68, 0, none⟩ 1 1 [.pointer (some ⟨n65, 0, none⟩)] (by rfl) rfl hNk68.out (ones_p _) (by decide) (by have := HKb.out; unfold maxLen; omega) (by have := HKb.out; omega) (by have := HV67.out.2.1; have := HMb.out; omega) V66.heap.size rfl ?_; intro g2 cap2 w3 hown2 hg2 hat2 hold2; obtain ⟨hC3, hS3, hN3⟩ := NW.push0 HV67.out.1 HU.out (by show k < A; omega) (NumN.mk HV67.out.2.2.2.2.1 HV67.out.2.2.1 HV67.out.2.2.2.1) ⟨mn65, mg62, mb59⟩ HMb.out rfl hown2 hg2; have HP := Lib.hid (And.intro hN3 hS3); clear hown2 hg2 hat2 hold2 hN3 hS3)
                refine hK.out _ _ hC3 (fun hHeld => ?_)
                clear hK K
                try simp only [Act.put, List.setIfInBounds_toArray, List.set_cons_zero, List.set_cons_succ]
                refine wpAnyH_take (i := 18) (oi := _) (v := ?_) rfl (by kernel_rfl) (by kernel_rfl) (by kernel_rfl) (fun _ _ _ h => h) (Or.inl ⟨by rfl, ?_⟩) (by assumption) ?_
                rotate_left
                · (intro W hSw; (try dsimp only at hSw); go_simp; try with_reducible rfl)
                try simp only [Act.put, List.getElem_toArray, List.getElem_cons_succ, List.getElem_cons_zero, List.setIfInBounds_toArray, List.set_cons_zero, List.set_cons_succ]
                have qs := cell_of_row w3 S 2 _ _ (0, 0) HP.out.2
                have fs : w3.frozen? ⟨S, 2, none⟩ = false := by have := HP.out.2; simp [World.frozen?, this]
                refine wpAnyH_ready (rs := [19]) (by kernel_rfl) (by simp) ?_
                refine AllReadyH.cons rfl (fun K hK => ?_) AllReadyH.nil
                simp only [List.getElem_toArray, List.getElem_cons_succ, List.getElem_cons_zero]
                rw [if_pos (by rfl)]
                go_simp
                refine hK.out _ _ HP.out.1.cf (fun hHeld => ?_)
                clear hK K
                try simp only [Act.put, List.getElem_toArray, List.getElem_cons_succ, List.getElem_cons_zero, List.setIfInBounds_toArray, List.set_cons_zero, List.set_cons_succ]
                refine wpAnyH_done (by kernel_rfl) ?_ _
                have hR : ∃ b z0, NW w (w3.setCell ⟨S, 2, none⟩ (.slice (some ⟨g2, 0, none⟩) (k + 1) cap2)) ⟨S, A, b⟩ (k + 1) 0 c z0 (.slice none 0 0) := ⟨_, _, HP.out.1⟩
                have HR := Lib.hid hR
                clear hR qs fs
                go_wp2
                go_roundw
                case rel => exact ⟨k + 1, by go_num, hkA, HR.out⟩
                case measure => simp [intOf]; omega
        · simp only [List.getElem_toArray, List.getElem_cons_succ, List.getElem_cons_zero]
          rw [if_pos (by rfl)]
          go_simp
          refine (gnew _).mono ?_
          rintro _ V69 ⟨rfl, hg, bb⟩
          obtain ⟨g71, hg71⟩ : ∃ X, X = V57.heap.size := ⟨_, rfl⟩
          have mg71 : M ≤ g71 := by rw [hg71]; exact HV58.out.2.1
          rw [← hg71] at hg ⊢
          have HV70 := Lib.hid (And.intro (HV58.out.1.below bb) (And.intro (Nat.le_trans HV58.out.2.1 bb.size) (And.intro hg (And.intro (kp bb HV58.out.2.2.2.1) (And.intro trivial trivial)))))
          clear bb hg
          clear hg71
          go_wp2_with fail
          refine hK.out _ _ HV70.out.1.cf (fun hHeld => ?_)
          clear hK K
          try simp only [Act.put, List.getElem_toArray, List.getElem_cons_succ, List.getElem_cons_zero, List.setIfInBounds_toArray, List.set_cons_zero, List.set_cons_succ]
          refine wpAnyH_take (i := 12) (oi := _) (v := ?_) rfl (by kernel_rfl) (by kernel_rfl) (by kernel_rfl) (fun _ _ _ h => h) (Or.inl ⟨by rfl, ?_⟩) (by assumption) ?_
          rotate_left
          · (intro W hSw; (try dsimp only at hSw); go_simp; try with_reducible rfl)
          try simp only [Act.put, List.getElem_toArray, List.getElem_cons_succ, List.getElem_cons_zero, List.setIfInBounds_toArray, List.set_cons_zero, List.set_cons_succ]
          refine wpAnyH_ready (rs := [7, 13]) (by kernel_rfl) (by simp) ?_
          refine AllReadyH.cons rfl (fun K hK => ?_) (AllReadyH.cons rfl (fun K hK => ?_) AllReadyH.nil)
          · simp only [List.getElem_toArray, List.getElem_cons_succ, List.getElem_cons_zero]
            rw [if_pos (by rfl)]
            have q := cell_of_row V69 S 2 _ _ (0, 0) HV70.out.1.a
            go_simp
            clear q
            refine hK.out _ _ HV70.out.1.cf (fun hHeld => ?_)
            clear hK K
            try simp only [Act.put, List.getElem_toArray, List.getElem_cons_succ, List.getElem_cons_zero, List.setIfInBounds_toArray, List.set_cons_zero, List.set_cons_succ]
            refine wpAnyH_ready (rs := [13]) (by kernel_rfl) (by simp) ?_
            refine AllReadyH.cons rfl (fun K hK => ?_) AllReadyH.nil
            · simp only [List.getElem_toArray, List.getElem_cons_succ, List.getElem_cons_zero]
              rw [if_pos (by rfl)]
              go_simp
              obtain ⟨n74, hn74⟩ : ∃ X, X = V69.heap.size := ⟨_, rfl⟩
              have mn74 : M ≤ n74 := by rw [hn74]; exact HV70.out.2.1
              obtain ⟨V72, hV72⟩ : ∃ X, X = V69.alloc (.cells #[.int .u64 0, .int .u64 c.f11, .pointer (some ⟨g71, 0, none⟩), .map (some b59)] TNm) := ⟨_, rfl⟩
              have hg : V72.heap[n74]? = some (.cells #[.int .u64 0, .int .u64 c.f11, .pointer (some ⟨g71, 0, none⟩), .map (some b59)] TNm (0, 0)) := by rw [hV72, hn74]; exact heap_alloc_new V69 _
              have bb : Below V69.heap.size V69 V72 := by rw [hV72]; exact (Below.refl _ _).alloc (Nat.le_refl _) _
              rw [← hV72]
              try rw [← hn74]
              have HV73 := Lib.hid (And.intro (HV70.out.1.below bb) (And.intro (Nat.le_trans HV70.out.2.1 bb.size) (And.intro (kp bb HV70.out.2.2.1) (And.intro (kp bb HV70.out.2.2.2.1) (And.intro hg trivial)))))
              clear bb hg
              clear hV72 hn74
              refine hK.out _ _ HV73.out.1.cf (fun hHeld => ?_)
              clear hK K
              try simp only [Act.put, List.getElem_toArray, List.getElem_cons_succ, List.getElem_cons_zero, List.setIfInBounds_toArray, List.set_cons_zero, List.set_cons_succ]
              refine wpAnyH_ready (rs := [14]) (by kernel_rfl) (by simp) ?_
              refine AllReadyH.cons rfl (fun K hK => ?_) AllReadyH.nil
              · simp only [List.getElem_toArray, List.getElem_cons_succ, List.getElem_cons_zero]
                rw [if_pos (by rfl)]
                go_simp
                obtain ⟨k77, hk77⟩ : ∃ X, X = V72.heap.size := ⟨_, rfl⟩
                have mk77 : M ≤ k77 := by rw [hk77]; exact HV73.out.2.1
                obtain ⟨V75, hV75⟩ : ∃ X, X = V72.alloc (.cells #[.pointer (some ⟨n74, 0, none⟩)] TNp) := ⟨_, rfl⟩
                have hNk77 : Hid (∀ j u, [Value.pointer (some ⟨n74, 0, none⟩)][j]? = some u → V75.cell? ((⟨k77, 0, none⟩ : Addr).add j) = some u) := Lib.hid (by rw [hV75, hk77]; exact news_p V72 _)
                have bb : Below V72.heap.size V72 V75 := by rw [hV75]; exact (Below.refl _ _).alloc (Nat.le_refl _) _
                rw [← hV75]
                try rw [← hk77]
                have HV76 := Lib.hid (And.intro (HV73.out.1.below bb) (And.intro (Nat.le_trans HV73.out.2.1 bb.size) (And.intro (kp bb HV73.out.2.2.1) (And.intro (kp bb HV73.out.2.2.2.1) (And.intro (kp bb HV73.out.2.2.2.2.1) trivial)))))
                clear bb
                clear hV75 hk77
                refine hK.out _ _ HV76.out.1.cf (fun hHeld => ?_)
                clear hK K
                try simp only [Act.put, List.getElem_toArray, List.getElem_cons_succ, List.getElem_cons_zero, List.setIfInBounds_toArray, List.set_cons_zero, List.set_cons_succ]
                refine wpAnyH_ready (rs := [15]) (by kernel_rfl) (by simp) ?_
                refine AllReadyH.cons rfl (fun K hK => ?_) AllReadyH.nil
                simp only [List.getElem_toArray, List.getElem_cons_succ, List.getElem_cons_zero]
                rw [if_pos (by rfl)]
                (refine wp_append_keep _ _ _ _ (by rfl) (w.heap.size + 1) TNp i0 _ 1 8 Tryz.underlying68 hi hz0 hz1 hz2 rfl (by decide) z0 k _ (by rfl) HV76.out.1.al.r0 ⟨k77, 0, none⟩ 1 1 [.pointer (some ⟨n74, 0, none⟩)] (by rfl) rfl hNk77.out (ones_p _) (by decide) (by have := HKb.out; unfold maxLen; omega) (by have := HKb.out; omega) (by have := HV76.out.2.1; have := HMb.out; omega) V75.heap.size rfl ?_; intro g2 cap2 w3 hown2 hg2 hat2 hold2; obtain ⟨hC3, hS3, hN3⟩ := NW.push0 HV76.out.1 HU.out (by show k < A; omega) (NumN.mk HV76.out.2.2.2.2.1 HV76.out.2.2.1 HV76.out.2.2.2.1) ⟨mn74, mg71, mb59⟩ HMb.out rfl hown2 hg2; have HP := Lib.hid (And.intro hN3 hS3); clear hown2 hg2 hat2 hold2 hN3 hS3)
                refine hK.out _ _ hC3 (fun hHeld => ?_)
                clear hK K
                try simp only [Act.put, List.setIfInBounds_toArray, List.set_cons_zero, List.set_cons_succ]
                refine wpAnyH_take (i := 18) (oi := _) (v := ?_) rfl (by kernel_rfl) (by kernel_rfl) (by kernel_rfl) (fun _ _ _ h => h) (Or.inl ⟨by rfl, ?_⟩) (by assumption) ?_
                rotate_left
                · (intro W hSw; (try dsimp only at hSw); go_simp; try with_reducible rfl)
                try simp only [Act.put, List.getElem_toArray, List.getElem_cons_succ, List.getElem_cons_zero, List.setIfInBounds_toArray, List.set_cons_zero, List.set_cons_succ]
                have qs := cell_of_row w3 S 2 _ _ (0, 0) HP.out.2
                have fs : w3.frozen? ⟨S, 2, none⟩ = false := by have := HP.out.2; simp [World.frozen?, this]
                refine wpAnyH_ready (rs := [19]) (by kernel_rfl) (by simp) ?_
                refine AllReadyH.cons rfl (fun K hK => ?_) AllReadyH.nil
                simp only [List.getElem_toArray, List.getElem_cons_succ, List.getElem_cons_zero]
                rw [if_pos (by rfl)]
                go_simp
                refine hK.out _ _ HP.out.1.cf (fun hHeld => ?_)
                clear hK K
                try simp only [Act.put, List.getElem_toArray, List.getElem_cons_succ, List.getElem_cons_zero, List.setIfInBounds_toArray, List.set_cons_zero, List.set_cons_succ]
                refine wpAnyH_done (by kernel_rfl) ?_ _
                have hR : ∃ b z0, NW w (w3.setCell ⟨S, 2, none⟩ (.slice (some ⟨g2, 0, none⟩) (k + 1) cap2)) ⟨S, A, b⟩ (k + 1) 0 c z0 (.slice none 0 0) := ⟨_, _, HP.out.1⟩
                have HR := Lib.hid hR
                clear hR qs fs
                go_wp2
                go_roundw
                case rel => exact ⟨k + 1, by go_num, hkA, HR.out⟩
                case measure => simp [intOf]; omega
          · simp only [List.getElem_toArray, List.getElem_cons_succ, List.getElem_cons_zero]
            rw [if_pos (by rfl)]
            go_simp
            obtain ⟨n80, hn80⟩ : ∃ X, X = V69.heap.size := ⟨_, rfl⟩
            have mn80 : M ≤ n80 := by rw [hn80]; exact HV70.out.2.1
            obtain ⟨V78, hV78⟩ : ∃ X, X = V69.alloc (.cells #[.int .u64 0, .int .u64 c.f11, .pointer (some ⟨g71, 0, none⟩), .map (some b59)] TNm) := ⟨_, rfl⟩
            have hg : V78.heap[n80]? = some (.cells #[.int .u64 0, .int .u64 c.f11, .pointer (some ⟨g71, 0, none⟩), .map (some b59)] TNm (0, 0)) := by rw [hV78, hn80]; exact heap_alloc_new V69 _
            have bb : Below V69.heap.size V69 V78 := by rw [hV78]; exact (Below.refl _ _).alloc (Nat.le_refl _) _
            rw [← hV78]
            try rw [← hn80]
            have HV79 := Lib.hid (And.intro (HV70.out.1.below bb) (And.intro (Nat.le_trans HV70.out.2.1 bb.size) (And.intro (kp bb HV70.out.2.2.1) (And.intro (kp bb HV70.out.2.2.2.1) (And.intro hg trivial)))))
            clear bb hg
            clear hV78 hn80
            refine hK.out _ _ HV79.out.1.cf (fun hHeld => ?_)
            clear hK K
            try simp only [Act.put, List.getElem_toArray, List.getElem_cons_succ, List.getElem_cons_zero, List.setIfInBounds_toArray, List.set_cons_zero, List.set_cons_succ]
            refine wpAnyH_ready (rs := [7, 14]) (by kernel_rfl) (by simp) ?_
            refine AllReadyH.cons rfl (fun K hK => ?_) (AllReadyH.cons rfl (fun K hK => ?_) AllReadyH.nil)
            · simp only [List.getElem_toArray, List.getElem_cons_succ, List.getElem_cons_zero]
              rw [if_pos (by rfl)]
              have q := cell_of_row V78 S 2 _ _ (0, 0) HV79.out.1.a
              go_simp
              clear q
              refine hK.out _ _ HV79.out.1.cf (fun hHeld => ?_)
              clear hK K
              try simp only [Act.put, List.getElem_toArray, List.getElem_cons_succ, List.getElem_cons_zero, List.setIfInBounds_toArray, List.set_cons_zero, List.set_cons_succ]
              refine wpAnyH_ready (rs := [14]) (by kernel_rfl) (by simp) ?_
              refine AllReadyH.cons rfl (fun K hK => ?_) AllReadyH.nil
              · simp only [List.getElem_toArray, List.getElem_cons_succ, List.getElem_cons_zero]
                rw [if_pos (by rfl)]
                go_simp
                obtain ⟨k83, hk83⟩ : ∃ X, X = V78.heap.size := ⟨_, rfl⟩
                have mk83 : M ≤ k83 := by rw [hk83]; exact HV79.out.2.1
                obtain ⟨V81, hV81⟩ : ∃ X, X = V78.alloc (.cells #[.pointer (some ⟨n80, 0, none⟩)] TNp) := ⟨_, rfl⟩
                have hNk83 : Hid (∀ j u, [Value.pointer (some ⟨n80, 0, none⟩)][j]? = some u → V81.cell? ((⟨k83, 0, none⟩ : Addr).add j) = some u) := Lib.hid (by rw [hV81, hk83]; exact news_p V78 _)
                have bb : Below V78.heap.size V78 V81 := by rw [hV81]; exact (Below.refl _ _).alloc (Nat.le_refl _) _
                rw [← hV81]
                try rw [← hk83]
                have HV82 := Lib.hid (And.intro (HV79.out.1.below bb) (And.intro (Nat.le_trans HV79.out.2.1 bb.size) (And.intro (kp bb HV79.out.2.2.1) (And.intro (kp bb HV79.out.2.2.2.1) (And.intro (kp bb HV79.out.2.2.2.2.1) trivial)))))
                clear bb
                clear hV81 hk83
                refine hK.out _ _ HV82.out.1.cf (fun hHeld => ?_)
                clear hK K
                try simp only [Act.put, List.getElem_toArray, List.getElem_cons_succ, List.getElem_cons_zero, List.setIfInBounds_toArray, List.set_cons_zero, List.set_cons_succ]
                refine wpAnyH_ready (rs := [15]) (by kernel_rfl) (by simp) ?_
                refine AllReadyH.cons rfl (fun K hK => ?_) AllReadyH.nil
                simp only [List.getElem_toArray, List.getElem_cons_succ, List.getElem_cons_zero]
                rw [if_pos (by rfl)]
                (refine wp_append_keep _ _ _ _ (by rfl) (w.heap.size + 1) TNp i0 _ 1 8 Tryz.underlying68 hi hz0 hz1 hz2 rfl (by decide) z0 k _ (by rfl) HV82.out.1.al.r0 ⟨k83, 0, none⟩ 1 1 [.pointer (some ⟨n80, 0, none⟩)] (by rfl) rfl hNk83.out (ones_p _) (by decide) (by have := HKb.out; unfold maxLen; omega) (by have := HKb.out; omega) (by have := HV82.out.2.1; have := HMb.out; omega) V81.heap.size rfl ?_; intro g2 cap2 w3 hown2 hg2 hat2 hold2; obtain ⟨hC3, hS3, hN3⟩ := NW.push0 HV82.out.1 HU.out (by show k < A; omega) (NumN.mk HV82.out.2.2.2.2.1 HV82.out.2.2.1 HV82.out.2.2.2.1) ⟨mn80, mg71, mb59⟩ HMb.out rfl hown2 hg2; have HP := Lib.hid (And.intro hN3 hS3); clear hown2 hg2 hat2 hold2 hN3 hS3)
                refine hK.out _ _ hC3 (fun hHeld => ?_)
                clear hK K
                try simp only [Act.put, List.setIfInBounds_toArray, List.set_cons_zero, List.set_cons_succ]
                refine wpAnyH_take (i := 18) (oi := _) (v := ?_) rfl (by kernel_rfl) (by kernel_rfl) (by kernel_rfl) (fun _ _ _ h => h) (Or.inl ⟨by rfl, ?_⟩) (by assumption) ?_
                rotate_left
                · (intro W hSw; (try dsimp only at hSw); go_simp; try with_reducible rfl)
                try simp only [Act.put, List.getElem_toArray, List.getElem_cons_succ, List.getElem_cons_zero, List.setIfInBounds_toArray, List.set_cons_zero, List.set_cons_succ]
                have qs := cell_of_row w3 S 2 _ _ (0, 0) HP.out.2
                have fs : w3.frozen? ⟨S, 2, none⟩ = false := by have := HP.out.2; simp [World.frozen?, this]
                refine wpAnyH_ready (rs := [19]) (by kernel_rfl) (by simp) ?_
                refine AllReadyH.cons rfl (fun K hK => ?_) AllReadyH.nil
                simp only [List.getElem_toArray, List.getElem_cons_succ, List.getElem_cons_zero]
                rw [if_pos (by rfl)]
                go_simp
                refine hK.out _ _ HP.out.1.cf (fun hHeld => ?_)
                clear hK K
                try simp only [Act.put, List.getElem_toArray, List.getElem_cons_succ, List.getElem_cons_zero, List.setIfInBounds_toArray, List.set_cons_zero, List.set_cons_succ]
                refine wpAnyH_done (by kernel_rfl) ?_ _
                have hR : ∃ b z0, NW w (w3.setCell ⟨S, 2, none⟩ (.slice (some ⟨g2, 0, none⟩) (k + 1) cap2)) ⟨S, A, b⟩ (k + 1) 0 c z0 (.slice none 0 0) := ⟨_, _, HP.out.1⟩
                have HR := Lib.hid hR
                clear hR qs fs
                go_wp2
                go_roundw
                case rel => exact ⟨k + 1, by go_num, hkA, HR.out⟩
                case measure => simp [intOf]; omega
            · simp only [List.getElem_toArray, List.getElem_cons_succ, List.getElem_cons_zero]
              rw [if_pos (by rfl)]
              go_simp
              obtain ⟨k86, hk86⟩ : ∃ X, X = V78.heap.size := ⟨_, rfl⟩
              have mk86 : M ≤ k86 := by rw [hk86]; exact HV79.out.2.1
              obtain ⟨V84, hV84⟩ : ∃ X, X = V78.alloc (.cells #[.pointer (some ⟨n80, 0, none⟩)] TNp) := ⟨_, rfl⟩
              have hNk86 : Hid (∀ j u, [Value.pointer (some ⟨n80, 0, none⟩)][j]? = some u → V84.cell? ((⟨k86, 0, none⟩ : Addr).add j) = some u) := Lib.hid (by rw [hV84, hk86]; exact news_p V78 _)
              have bb : Below V78.heap.size V78 V84 := by rw [hV84]; exact (Below.refl _ _).alloc (Nat.le_refl _) _
              rw [← hV84]
              try rw [← hk86]
              have HV85 := Lib.hid (And.intro (HV79.out.1.below bb) (And.intro (Nat.le_trans HV79.out.2.1 bb.size) (And.intro (kp bb HV79.out.2.2.1) (And.intro (kp bb HV79.out.2.2.2.1) (And.intro (kp bb HV79.out.2.2.2.2.1) trivial)))))
              clear bb
              clear hV84 hk86
              refine hK.out _ _ HV85.out.1.cf (fun hHeld => ?_)
              clear hK K
              try simp only [Act.put, List.getElem_toArray, List.getElem_cons_succ, List.getElem_cons_zero, List.setIfInBounds_toArray, List.set_cons_zero, List.set_cons_succ]
              refine wpAnyH_ready (rs := [7]) (by kernel_rfl) (by simp) ?_
              refine AllReadyH.cons rfl (fun K hK => ?_) AllReadyH.nil
              · simp only [List.getElem_toArray, List.getElem_cons_succ, List.getElem_cons_zero]
                rw [if_pos (by rfl)]
                have q := cell_of_row V84 S 2 _ _ (0, 0) HV85.out.1.a
                go_simp
                clear q
                refine hK.out _ _ HV85.out.1.cf (fun hHeld => ?_)
                clear hK K
                try simp only [Act.put, List.getElem_toArray, List.getElem_cons_succ, List.getElem_cons_zero, List.setIfInBounds_toArray, List.set_cons_zero, List.set_cons_succ]
                refine wpAnyH_ready (rs := [15]) (by kernel_rfl) (by simp) ?_
                refine AllReadyH.cons rfl (fun K hK => ?_) AllReadyH.nil
                simp only [List.getElem_toArray, List.getElem_cons_succ, List.getElem_cons_zero]
                rw [if_pos (by rfl)]
                (refine wp_append_keep _ _ _ _ (by rfl) (w.heap.size + 1) TNp i0 _ 1 8 Tryz.underlying68 hi hz0 hz1 hz2 rfl (by decide) z0 k _ (by rfl) HV85.out.1.al.r0 ⟨k86, 0, none⟩ 1 1 [.pointer (some ⟨n80, 0, none⟩)] (by rfl) rfl hNk86.out (ones_p _) (by decide) (by have := HKb.out; unfold maxLen; omega) (by have := HKb.out; omega) (by have := HV85.out.2.1; have := HMb.out; omega) V84.heap.size rfl ?_; intro g2 cap2 w3 hown2 hg2 hat2 hold2; obtain ⟨hC3, hS3, hN3⟩ := NW.push0 HV85.out.1 HU.out (by show k < A; omega) (NumN.mk HV85.out.2.2.2.2.1 HV85.out.2.2.1 HV85.out.2.2.2.1) ⟨mn80, mg71, mb59⟩ HMb.out rfl hown2 hg2; have HP := Lib.hid (And.intro hN3 hS3); clear hown2 hg2 hat2 hold2 hN3 hS3)
                refine hK.out _ _ hC3 (fun hHeld => ?_)
                clear hK K
                try simp only [Act.put, List.setIfInBounds_toArray, List.set_cons_zero, List.set_cons_succ]
                refine wpAnyH_take (i := 18) (oi := _) (v := ?_) rfl (by kernel_rfl) (by kernel_rfl) (by kernel_rfl) (fun _ _ _ h => h) (Or.inl ⟨by rfl, ?_⟩) (by assumption) ?_
                rotate_left
                · (intro W hSw; (try dsimp only at hSw); go_simp; try with_reducible rfl)
                try simp only [Act.put, List.getElem_toArray, List.getElem_cons_succ, List.getElem_cons_zero, List.setIfInBounds_toArray, List.set_cons_zero, List.set_cons_succ]
                have qs := cell_of_row w3 S 2 _ _ (0, 0) HP.out.2
                have fs : w3.frozen? ⟨S, 2, none⟩ = false := by have := HP.out.2; simp [World.frozen?, this]
                refine wpAnyH_ready (rs := [19]) (by kernel_rfl) (by simp) ?_
                refine AllReadyH.cons rfl (fun K hK => ?_) AllReadyH.nil
                simp only [List.getElem_toArray, List.getElem_cons_succ, List.getElem_cons_zero]
                rw [if_pos (by rfl)]
                go_simp
                refine hK.out _ _ HP.out.1.cf (fun hHeld => ?_)
                clear hK K
                try simp only [Act.put, List.getElem_toArray, List.getElem_cons_succ, List.getElem_cons_zero, List.setIfInBounds_toArray, List.set_cons_zero, List.set_cons_succ]
                refine wpAnyH_done (by kernel_rfl) ?_ _
                have hR : ∃ b z0, NW w (w3.setCell ⟨S, 2, none⟩ (.slice (some ⟨g2, 0, none⟩) (k + 1) cap2)) ⟨S, A, b⟩ (k + 1) 0 c z0 (.slice none 0 0) := ⟨_, _, HP.out.1⟩
                have HR := Lib.hid hR
                clear hR qs fs
                go_wp2
                go_roundw
                case rel => exact ⟨k + 1, by go_num, hkA, HR.out⟩
                case measure => simp [intOf]; omega
    · obtain rfl : A = k := by omega
      have d1 : decide ((A : Int) < (A : Int)) = false := decide_eq_false (by omega)
      have H3 := Lib.hid hN
      have p1 := cell_of_row wr w.heap.size 1 _ _ (0, 0) hN.cf
      simp only [List.getElem?_toArray, List.getElem?_cons_succ, List.getElem?_cons_zero] at p1
      rw [HF1.out] at p1
      clear hN hk hkA
      go_wp2_with fail
      rw [rounds_succ]
      go_wp2_with fail
      clear p1 d1
      go_loopw [23] (fun iv wr => ∃ k : Nat, iv = .int .i64 (k : Int) ∧ k ≤ A ∧ ∃ b z0 z1, NW w wr ⟨S, A, b⟩ A k c z0 z1) (fun iv _ => A - (intOf iv).toNat)
      case atStart => exact ⟨0, rfl, Nat.zero_le _, _, _, _, H3.out⟩
      case round =>
        obtain ⟨k, rfl, hk, b, z0, z1, hN⟩ := hrel
        by_cases hkA : k < A
        · have d1 : decide ((k : Int) < (A : Int)) = true := decide_eq_true (by omega)
          obtain ⟨M, hMd⟩ : ∃ M, M = wr.heap.size := ⟨_, rfl⟩
          have hMb : w.heap.size + 1 ≤ M := by rw [hMd]; exact ltO hN.cf
          have HMb := Lib.hid hMb
          have HU := Lib.hid (hMd ▸ hN.und)
          have HKb : Hid (k < 1000000) := Lib.hid (by show k < 1000000; have := HA9.out; omega)
          have HB0 := Lib.hid (And.intro hN (Nat.le_of_eq hMd))
          clear hN hMd hMb
          go_upto_region 10 with fail
          refine wp_region_held_drew (S := fun V => V.heap[w.heap.size]? = some (.cells (ccells c) TCf (0, 0))) (by kernel_rfl) HB0.out.1.cf (fun hHeld => ?_)
          have HV88 := Lib.hid (And.intro HB0.out.1.drew (And.intro (show M ≤ wr.drew.heap.size from HB0.out.2) (And.intro trivial (And.intro trivial (And.intro trivial trivial)))))
          obtain ⟨V87, hV87⟩ : ∃ X, X = wr.drew := ⟨_, rfl⟩
          have hsz : M ≤ V87.heap.size := by rw [hV87]; exact HB0.out.2
          rw [← hV87] at HV88 hHeld ⊢
          clear hV87 HB0 hsz
          refine wpAnyH_take (i := 0) (oi := _) (v := ?_) rfl (by kernel_rfl) (by kernel_rfl) (by kernel_rfl) (fun _ _ _ h => h) (Or.inl ⟨by rfl, ?_⟩) (by assumption) ?_
          rotate_left
          · (intro W hSw; (try dsimp only at hSw); go_simp; try with_reducible rfl)
          try simp only [Act.put, List.getElem_toArray, List.getElem_cons_zero, List.setIfInBounds_toArray, List.set_cons_zero, List.set_cons_succ]
          refine wpAnyH_take (i := 1) (oi := _) (v := ?_) rfl (by kernel_rfl) (by kernel_rfl) (by kernel_rfl) (fun _ _ _ h => h) (Or.inl ⟨by rfl, ?_⟩) (by assumption) ?_
          rotate_left
          · (intro W hSw; (try dsimp only at hSw); go_simp; try with_reducible rfl)
          try simp only [Act.put, List.getElem_toArray, List.getElem_cons_succ, List.getElem_cons_zero, List.setIfInBounds_toArray, List.set_cons_zero, List.set_cons_succ]
          refine wpAnyH_take (i := 2) (oi := _) (v := ?_) rfl (by kernel_rfl) (by kernel_rfl) (by kernel_rfl) (fun _ _ _ h => h) (Or.inl ⟨by rfl, ?_⟩) (by assumption) ?_
          rotate_left
          · (intro W hSw; (try dsimp only at hSw); go_simp; try with_reducible rfl)
          try simp only [Act.put, List.getElem_toArray, List.getElem_cons_succ, List.getElem_cons_zero, List.setIfInBounds_toArray, List.set_cons_zero, List.set_cons_succ]
          refine wpAnyH_take (i := 3) (oi := _) (v := ?_) rfl (by kernel_rfl) (by kernel_rfl) (by kernel_rfl) (fun _ _ _ h => h) (Or.inl ⟨by rfl, ?_⟩) (by assumption) ?_
          rotate_left
          · (intro W hSw; (try dsimp only at hSw); go_simp; try with_reducible rfl)
          try simp only [Act.put, List.getElem_toArray, List.getElem_cons_succ, List.getElem_cons_zero, List.setIfInBounds_toArray, List.set_cons_zero, List.set_cons_succ]
          refine wpAnyH_take (i := 4) (oi := _) (v := ?_) rfl (by kernel_rfl) (by kernel_rfl) (by kernel_rfl) (fun _ _ _ h => h) (Or.inl ⟨by rfl, ?_⟩) (by assumption) ?_
          rotate_left
          · (intro W hSw; (try dsimp only at hSw); go_simp; try with_reducible rfl)
          try simp only [Act.put, List.getElem_toArray, List.getElem_cons_succ, List.getElem_cons_zero, List.setIfInBounds_toArray, List.set_cons_zero, List.set_cons_succ]
          refine wpAnyH_take (i := 5) (oi := _) (v := ?_) rfl (by kernel_rfl) (by kernel_rfl) (by kernel_rfl) (fun _ _ _ h => h) (Or.inl ⟨by rfl, ?_⟩) (by assumption) ?_
          rotate_left
          · (intro W hSw; (try dsimp only at hSw); go_simp; try with_reducible rfl)
          try simp only [Act.put, List.getElem_toArray, List.getElem_cons_succ, List.getElem_cons_zero, List.setIfInBounds_toArray, List.set_cons_zero, List.set_cons_succ]
          refine wpAnyH_take (i := 6) (oi := _) (v := ?_) rfl (by kernel_rfl) (by kernel_rfl) (by kernel_rfl) (fun _ _ _ h => h) (Or.inl ⟨by rfl, ?_⟩) (by assumption) ?_
          rotate_left
          · (intro W hSw; (try dsimp only at hSw); go_simp; try with_reducible rfl)
          try simp only [Act.put, List.getElem_toArray, List.getElem_cons_succ, List.getElem_cons_zero, List.setIfInBounds_toArray, List.set_cons_zero, List.set_cons_succ]
          refine wpAnyH_take (i := 8) (oi := _) (v := ?_) rfl (by kernel_rfl) (by kernel_rfl) (by kernel_rfl) (fun _ _ _ h => h) (Or.inl ⟨by rfl, ?_⟩) (by assumption) ?_
          rotate_left
          · (intro W hSw; (try dsimp only at hSw); go_simp; try with_reducible rfl)
          try simp only [Act.put, List.getElem_toArray, List.getElem_cons_succ, List.getElem_cons_zero, List.setIfInBounds_toArray, List.set_cons_zero, List.set_cons_succ]
          refine wpAnyH_take (i := 16) (oi := _) (v := ?_) rfl (by kernel_rfl) (by kernel_rfl) (by kernel_rfl) (fun _ _ _ h => h) (Or.inl ⟨by rfl, ?_⟩) (by assumption) ?_
          rotate_left
          · (intro W hSw; (try dsimp only at hSw); go_simp; try with_reducible rfl)
          try simp only [Act.put, List.getElem_toArray, List.getElem_cons_succ, List.getElem_cons_zero, List.setIfInBounds_toArray, List.set_cons_zero, List.set_cons_succ]
          refine wpAnyH_take (i := 17) (oi := _) (v := ?_) rfl (by kernel_rfl) (by kernel_rfl) (by kernel_rfl) (fun _ _ _ h => h) (Or.inl ⟨by rfl, ?_⟩) (by assumption) ?_
          rotate_left
          · (intro W hSw; (try dsimp only at hSw); go_simp; try with_reducible rfl)
          try simp only [Act.put, List.getElem_toArray, List.getElem_cons_succ, List.getElem_cons_zero, List.setIfInBounds_toArray, List.set_cons_zero, List.set_cons_succ]
          refine wpAnyH_take (i := 9) (oi := _) (v := ?_) rfl (by kernel_rfl) (by kernel_rfl) (by kernel_rfl) (fun _ _ _ h => h) (Or.inl ⟨by rfl, ?_⟩) (by assumption) ?_
          rotate_left
          · (intro V hSw; have q := fun i => cell_of_row V w.heap.size i _ _ (0, 0) hSw; have q11 := q 11; clear q hSw; go_simp; try with_reducible rfl)
          try simp only [Act.put, List.getElem_toArray, List.getElem_cons_succ, List.getElem_cons_zero, List.setIfInBounds_toArray, List.set_cons_zero, List.set_cons_succ]
          refine wpAnyH_ready (rs := [7, 10, 11]) (by kernel_rfl) (by simp) ?_
          refine AllReadyH.cons rfl (fun K hK => ?_) (AllReadyH.cons rfl (fun K hK => ?_) (AllReadyH.cons rfl (fun K hK => ?_) AllReadyH.nil))
          · simp only [List.getElem_toArray, List.getElem_cons_succ, List.getElem_cons_zero]
            rw [if_pos (by rfl)]
            have q := cell_of_row V87 S 3 _ _ (0, 0) HV88.out.1.a
            go_simp
            clear q
            refine hK.out _ _ HV88.out.1.cf (fun hHeld => ?_)
            clear hK K
            try simp only [Act.put, List.getElem_toArray, List.getElem_cons_succ, List.getElem_cons_zero, List.setIfInBounds_toArray, List.set_cons_zero, List.set_cons_succ]
            refine wpAnyH_ready (rs := [10, 11]) (by kernel_rfl) (by simp) ?_
            refine AllReadyH.cons rfl (fun K hK => ?_) (AllReadyH.cons rfl (fun K hK => ?_) AllReadyH.nil)
            · simp only [List.getElem_toArray, List.getElem_cons_succ, List.getElem_cons_zero]
              rw [if_pos (by rfl)]
              go_simp
              refine (gnew _).mono ?_
              rintro _ V89 ⟨rfl, hg, bb⟩
              obtain ⟨g91, hg91⟩ : ∃ X, X = V87.heap.size := ⟨_, rfl⟩
              have mg91 : M ≤ g91 := by rw [hg91]; exact HV88.out.2.1
              rw [← hg91] at hg ⊢
              have HV90 := Lib.hid (And.intro (HV88.out.1.below bb) (And.intro (Nat.le_trans HV88.out.2.1 bb.size) (And.intro hg (And.intro trivial (And.intro trivial trivial)))))
              clear bb hg
              clear hg91
              go_wp2_with fail
              refine hK.out _ _ HV90.out.1.cf (fun hHeld => ?_)
              clear hK K
              try simp only [Act.put, List.getElem_toArray, List.getElem_cons_succ, List.getElem_cons_zero, List.setIfInBounds_toArray, List.set_cons_zero, List.set_cons_succ]
              refine wpAnyH_ready (rs := [11]) (by kernel_rfl) (by simp) ?_
              refine AllReadyH.cons rfl (fun K hK => ?_) AllReadyH.nil
              · simp only [List.getElem_toArray, List.getElem_cons_succ, List.getElem_cons_zero]
                rw [if_pos (by rfl)]
                have emk := mk_map V89
                go_simp
                clear emk
                obtain ⟨b94, hb94⟩ : ∃ X, X = V89.heap.size := ⟨_, rfl⟩
                have mb94 : M ≤ b94 := by rw [hb94]; exact HV90.out.2.1
                obtain ⟨V92, hV92⟩ : ∃ X, X = V89.alloc (.map #[] 0) := ⟨_, rfl⟩
                have hg : V92.heap[b94]? = some (.map #[] 0) := by rw [hV92, hb94]; exact heap_alloc_new V89 _
                have bb : Below V89.heap.size V89 V92 := by rw [hV92]; exact (Below.refl _ _).alloc (Nat.le_refl _) _
                rw [← hV92]
                try rw [← hb94]
                have HV93 := Lib.hid (And.intro (HV90.out.1.below bb) (And.intro (Nat.le_trans HV90.out.2.1 bb.size) (And.intro (kp bb HV90.out.2.2.1) (And.intro hg (And.intro trivial trivial)))))
                clear bb hg
                clear hV92 hb94
                refine hK.out _ _ HV93.out.1.cf (fun hHeld => ?_)
                clear hK K
                try simp only [Act.put, List.getElem_toArray, List.getElem_cons_succ, List.getElem_cons_zero, List.setIfInBounds_toArray, List.set_cons_zero, List.set_cons_succ]
                refine wpAnyH_take (i := 12) (oi := _) (v := ?_) rfl (by kernel_rfl) (by kernel_rfl) (by kernel_rfl) (fun _ _ _ h => h) (Or.inl ⟨by rfl, ?_⟩) (by assumption) ?_
                rotate_left
                · (intro W hSw; (try dsimp only at hSw); go_simp; try with_reducible rfl)
                try simp only [Act.put, List.getElem_toArray, List.getElem_cons_succ, List.getElem_cons_zero, List.setIfInBounds_toArray, List.set_cons_zero, List.set_cons_succ]
                refine wpAnyH_ready (rs := [13]) (by kernel_rfl) (by simp) ?_
                refine AllReadyH.cons rfl (fun K hK => ?_) AllReadyH.nil
                · simp only [List.getElem_toArray, List.getElem_cons_succ, List.getElem_cons_zero]
                  rw [if_pos (by rfl)]
                  go_simp
                  obtain ⟨n97, hn97⟩ : ∃ X, X = V92.heap.size := ⟨_, rfl⟩
                  have mn97 : M ≤ n97 := by rw [hn97]; exact HV93.out.2.1
                  obtain ⟨V95, hV95⟩ : ∃ X, X = V92.alloc (.cells #[.int .u64 0, .int .u64 c.f11, .pointer (some ⟨g91, 0, none⟩), .map (some b94)] TNm) := ⟨_, rfl⟩
                  have hg : V95.heap[n97]? = some (.cells #[.int .u64 0, .int .u64 c.f11, .pointer (some ⟨g91, 0, none⟩), .map (some b94)] TNm (0, 0)) := by rw [hV95, hn97]; exact heap_alloc_new V92 _
                  have bb : Below V92.heap.size V92 V95 := by rw [hV95]; exact (Below.refl _ _).alloc (Nat.le_refl _) _
                  rw [← hV95]
                  try rw [← hn97]
                  have HV96 := Lib.hid (And.intro (HV93.out.1.below bb) (And.intro (Nat.le_trans HV93.out.2.1 bb.size) (And.intro (kp bb HV93.out.2.2.1) (And.intro (kp bb HV93.out.2.2.2.1) (And.intro hg trivial)))))
                  clear bb hg
                  clear hV95 hn97
                  refine hK.out _ _ HV96.out.1.cf (fun hHeld => ?_)
                  clear hK K
                  try simp only [Act.put, List.getElem_toArray, List.getElem_cons_succ, List.getElem_cons_zero, List.setIfInBounds_toArray, List.set_cons_zero, List.set_cons_succ]
                  refine wpAnyH_ready (rs := [14]) (by kernel_rfl) (by simp) ?_
                  refine AllReadyH.cons rfl (fun K hK => ?_) AllReadyH.nil
                  · simp only [List.getElem_toArray, List.getElem_cons_succ, List.getElem_cons_zero]
                    rw [if_pos (by rfl)]
                    go_simp
                    obtain ⟨k100, hk100⟩ : ∃ X, X = V95.heap.size := ⟨_, rfl⟩
                    have mk100 : M ≤ k100 := by rw [hk100]; exact HV96.out.2.1
                    obtain ⟨V98, hV98⟩ : ∃ X, X = V95.alloc (.cells #[.pointer (some ⟨n97, 0, none⟩)] TNp) := ⟨_, rfl⟩
                    have hNk100 : Hid (∀ j u, [Value.pointer (some ⟨n97, 0, none⟩)][j]? = some u → V98.cell? ((⟨k100, 0, none⟩ : Addr).add j) = some u) := Lib.hid (by rw [hV98, hk100]; exact news_p V95 _)
                    have bb : Below V95.heap.size V95 V98 := by rw [hV98]; exact (Below.refl _ _).alloc (Nat.le_refl _) _
                    rw [← hV98]
                    try rw [← hk100]
                    have HV99 := Lib.hid (And.intro (HV96.out.1.below bb) (And.intro (Nat.le_trans HV96.out.2.1 bb.size) (And.intro (kp bb HV96.out.2.2.1) (And.intro (kp bb HV96.out.2.2.2.1) (And.intro (kp bb HV96.out.2.2.2.2.1) trivial)))))
                    clear bb
                    clear hV98 hk100
                    refine hK.out _ _ HV99.out.1.cf (fun hHeld => ?_)
                    clear hK K
                    try simp only [Act.put, List.getElem_toArray, List.getElem_cons_succ, List.getElem_cons_zero, List.setIfInBounds_toArray, List.set_cons_zero, List.set_cons_succ]
                    refine wpAnyH_ready (rs := [15]) (by kernel_rfl) (by simp) ?_
                    refine AllReadyH.cons rfl (fun K hK => ?_) AllReadyH.nil
                    simp only [List.getElem_toArray, List.getElem_cons_succ, List.getElem_cons_zero]
                    rw [if_pos (by rfl)]
                    (refine wp_append_keep _ _ _ _ (by rfl) (w.heap.size + 1) TNp i0 _ 1 8 Tryz.underlying68 hi hz0 hz1 hz2 rfl (by decide) z1 k _ (by rfl) HV99.out.1.al.r1 ⟨k100, 0, none⟩ 1 1 [.pointer (some ⟨n97, 0, none⟩)] (by rfl) rfl hNk100.out (ones_p _) (by decide) (by have := HKb.out; unfold maxLen; omega) (by have := HKb.out; omega) (by have := HV99.out.2.1; have := HMb.out; omega) V98.heap.size rfl ?_; intro g2 cap2 w3 hown2 hg2 hat2 hold2; obtain ⟨hC3, hS3, hN3⟩ := NW.push1 (Hs := 0) HV99.out.1 HU.out (NumN.mk HV99.out.2.2.2.2.1 HV99.out.2.2.1 HV99.out.2.2.2.1) ⟨mn97, mg91, mb94⟩ HMb.out hat2 hown2 hg2; have HP := Lib.hid (And.intro hN3 hS3); clear hown2 hg2 hat2 hold2 hN3 hS3)
                    refine hK.out _ _ hC3 (fun hHeld => ?_)
                    clear hK K
                    try simp only [Act.put, List.setIfInBounds_toArray, List.set_cons_zero, List.set_cons_succ]
                    refine wpAnyH_take (i := 18) (oi := _) (v := ?_) rfl (by kernel_rfl) (by kernel_rfl) (by kernel_rfl) (fun _ _ _ h => h) (Or.inl ⟨by rfl, ?_⟩) (by assumption) ?_
                    rotate_left
                    · (intro W hSw; (try dsimp only at hSw); go_simp; try with_reducible rfl)
                    try simp only [Act.put, List.getElem_toArray, List.getElem_cons_succ, List.getElem_cons_zero, List.setIfInBounds_toArray, List.set_cons_zero, List.set_cons_succ]
                    have qs := cell_of_row w3 S 3 _ _ (0, 0) HP.out.2
                    have fs : w3.frozen? ⟨S, 3, none⟩ = false := by have := HP.out.2; simp [World.frozen?, this]
                    refine wpAnyH_ready (rs := [19]) (by kernel_rfl) (by simp) ?_
                    refine AllReadyH.cons rfl (fun K hK => ?_) AllReadyH.nil
                    simp only [List.getElem_toArray, List.getElem_cons_succ, List.getElem_cons_zero]
                    rw [if_pos (by rfl)]
                    go_simp
                    refine hK.out _ _ HP.out.1.cf (fun hHeld => ?_)
                    clear hK K
                    try simp only [Act.put, List.getElem_toArray, List.getElem_cons_succ, List.getElem_cons_zero, List.setIfInBounds_toArray, List.set_cons_zero, List.set_cons_succ]
                    refine wpAnyH_done (by kernel_rfl) ?_ _
                    have hR : ∃ b z0 z1, NW w (w3.setCell ⟨S, 3, none⟩ (.slice (some ⟨g2, 0, none⟩) (k + 1) cap2)) ⟨S, A, b⟩ A (k + 1) c z0 z1 := ⟨_, _, _, HP.out.1⟩
                    have HR := Lib.hid hR
                    clear hR qs fs
                    go_wp2
                    go_roundw
                    case rel => exact ⟨k + 1, by go_num, hkA, HR.out⟩
                    case measure => simp [intOf]; omega
            · simp only [List.getElem_toArray, List.getElem_cons_succ, List.getElem_cons_zero]
              rw [if_pos (by rfl)]
              have emk := mk_map V87
              go_simp
              clear emk
              obtain ⟨b103, hb103⟩ : ∃ X, X = V87.heap.size := ⟨_, rfl⟩
              have mb103 : M ≤ b103 := by rw [hb103]; exact HV88.out.2.1
              obtain ⟨V101, hV101⟩ : ∃ X, X = V87.alloc (.map #[] 0) := ⟨_, rfl⟩
              have hg : V101.heap[b103]? = some (.map #[] 0) := by rw [hV101, hb103]; exact heap_alloc_new V87 _
              have bb : Below V87.heap.size V87 V101 := by rw [hV101]; exact (Below.refl _ _).alloc (Nat.le_refl _) _
              rw [← hV101]
              try rw [← hb103]
              have HV102 := Lib.hid (And.intro (HV88.out.1.below bb) (And.intro (Nat.le_trans HV88.out.2.1 bb.size) (And.intro trivial (And.intro hg (And.intro trivial trivial)))))
              clear bb hg
              clear hV101 hb103
              refine hK.out _ _ HV102.out.1.cf (fun hHeld => ?_)
              clear hK K
              try simp only [Act.put, List.getElem_toArray, List.getElem_cons_succ, List.getElem_cons_zero, List.setIfInBounds_toArray, List.set_cons_zero, List.set_cons_succ]
              refine wpAnyH_ready (rs := [10]) (by kernel_rfl) (by simp) ?_
              refine AllReadyH.cons rfl (fun K hK => ?_) AllReadyH.nil
              · simp only [List.getElem_toArray, List.getElem_cons_succ, List.getElem_cons_zero]
                rw [if_pos (by rfl)]
                go_simp
                refine (gnew _).mono ?_
                rintro _ V104 ⟨rfl, hg, bb⟩
                obtain ⟨g106, hg106⟩ : ∃ X, X = V101.heap.size := ⟨_, rfl⟩
                have mg106 : M ≤ g106 := by rw [hg106]; exact HV102.out.2.1
                rw [← hg106] at hg ⊢
                have HV105 := Lib.hid (And.intro (HV102.out.1.below bb) (And.intro (Nat.le_trans HV102.out.2.1 bb.size) (And.intro hg (And.intro (kp bb HV102.out.2.2.2.1) (And.intro trivial trivial)))))
                clear bb hg
                clear hg106
                go_wp2_with fail
                refine hK.out _ _ HV105.out.1.cf (fun hHeld => ?_)
                clear hK K
                try simp only [Act.put, List.getElem_toArray, List.getElem_cons_succ, List.getElem_cons_zero, List.setIfInBounds_toArray, List.set_cons_zero, List.set_cons_succ]
                refine wpAnyH_take (i := 12) (oi := _) (v := ?_) rfl (by kernel_rfl) (by kernel_rfl) (by kernel_rfl) (fun _ _ _ h => h) (Or.inl ⟨by rfl, ?_⟩) (by assumption) ?_
                rotate_left
                · (intro W hSw; (try dsimp only at hSw); go_simp; try with_reducible rfl)
                try simp only [Act.put, List.getElem_toArray, List.getElem_cons_succ, List.getElem_cons_zero, List.setIfInBounds_toArray, List.set_cons_zero, List.set_cons_succ]
                refine wpAnyH_ready (rs := [13]) (by kernel_rfl) (by simp) ?_
                refine AllReadyH.cons rfl (fun K hK => ?_) AllReadyH.nil
                · simp only [List.getElem_toArray, List.getElem_cons_succ, List.getElem_cons_zero]
                  rw [if_pos (by rfl)]
                  go_simp
                  obtain ⟨n109, hn109⟩ : ∃ X, X = V104.heap.size := ⟨_, rfl⟩
                  have mn109 : M ≤ n109 := by rw [hn109]; exact HV105.out.2.1
                  obtain ⟨V107, hV107⟩ : ∃ X, X = V104.alloc (.cells #[.int .u64 0, .int .u64 c.f11, .pointer (some ⟨g106, 0, none⟩), .map (some b103)] TNm) := ⟨_, rfl⟩
                  have hg : V107.heap[n109]? = some (.cells #[.int .u64 0, .int .u64 c.f11, .pointer (some ⟨g106, 0, none⟩), .map (some b103)] TNm (0, 0)) := by rw [hV107, hn109]; exact heap_alloc_new V104 _
                  have bb : Below V104.heap.size V104 V107 := by rw [hV107]; exact (Below.refl _ _).alloc (Nat.le_refl _) _
                  rw [← hV107]
                  try rw [← hn109]
                  have HV108 := Lib.hid (And.intro (HV105.out.1.below bb) (And.intro (Nat.le_trans HV105.out.2.1 bb.size) (And.intro (kp bb HV105.out.2.2.1) (And.intro (kp bb HV105.out.2.2.2.1) (And.intro hg trivial)))))
                  clear bb hg
                  clear hV107 hn109
                  refine hK.out _ _ HV108.out.1.cf (fun hHeld => ?_)
                  clear hK K
                  try simp only [Act.put, List.getElem_toArray, List.getElem_cons_succ, List.getElem_cons_zero, List.setIfInBounds_toArray, List.set_cons_zero, List.set_cons_succ]
                  refine wpAnyH_ready (rs := [14]) (by kernel_rfl) (by simp) ?_
                  refine AllReadyH.cons rfl (fun K hK => ?_) AllReadyH.nil
                  · simp only [List.getElem_toArray, List.getElem_cons_succ, List.getElem_cons_zero]
                    rw [if_pos (by rfl)]
                    go_simp
                    obtain ⟨k112, hk112⟩ : ∃ X, X = V107.heap.size := ⟨_, rfl⟩
                    have mk112 : M ≤ k112 := by rw [hk112]; exact HV108.out.2.1
                    obtain ⟨V110, hV110⟩ : ∃ X, X = V107.alloc (.cells #[.pointer (some ⟨n109, 0, none⟩)] TNp) := ⟨_, rfl⟩
                    have hNk112 : Hid (∀ j u, [Value.pointer (some ⟨n109, 0, none⟩)][j]? = some u → V110.cell? ((⟨k112, 0, none⟩ : Addr).add j) = some u) := Lib.hid (by rw [hV110, hk112]; exact news_p V107 _)
                    have bb : Below V107.heap.size V107 V110 := by rw [hV110]; exact (Below.refl _ _).alloc (Nat.le_refl _) _
                    rw [← hV110]
                    try rw [← hk112]
                    have HV111 := Lib.hid (And.intro (HV108.out.1.below bb) (And.intro (Nat.le_trans HV108.out.2.1 bb.size) (And.intro (kp bb HV108.out.2.2.1) (And.intro (kp bb HV108.out.2.2.2.1) (And.intro (kp bb HV108.out.2.2.2.2.1) trivial)))))
                    clear bb
                    clear hV110 hk112
                    refine hK.out _ _ HV111.out.1.cf (fun hHeld => ?_)
                    clear hK K
                    try simp only [Act.put, List.getElem_toArray, List.getElem_cons_succ, List.getElem_cons_zero, List.setIfInBounds_toArray, List.set_cons_zero, List.set_cons_succ]
                    refine wpAnyH_ready (rs := [15]) (by kernel_rfl) (by simp) ?_
                    refine AllReadyH.cons rfl (fun K hK => ?_) AllReadyH.nil
                    simp only [List.getElem_toArray, List.getElem_cons_succ, List.getElem_cons_zero]
                    rw [if_pos (by rfl)]
                    (refine wp_append_keep _ _ _ _ (by rfl) (w.heap.size + 1) TNp i0 _ 1 8 Tryz.underlying68 hi hz0 hz1 hz2 rfl (by decide) z1 k _ (by rfl) HV111.out.1.al.r1 ⟨k112, 0, none⟩ 1 1 [.pointer (some ⟨n109, 0, none⟩)] (by rfl) rfl hNk112.out (ones_p _) (by decide) (by have := HKb.out; unfold maxLen; omega) (by have := HKb.out; omega) (by have := HV111.out.2.1; have := HMb.out; omega) V110.heap.size rfl ?_; intro g2 cap2 w3 hown2 hg2 hat2 hold2; obtain ⟨hC3, hS3, hN3⟩ := NW.push1 (Hs := 0) HV111.out.1 HU.out (NumN.mk HV111.out.2.2.2.2.1 HV111.out.2.2.1 HV111.out.2.2.2.1) ⟨mn109, mg106, mb103⟩ HMb.out hat2 hown2 hg2; have HP := Lib.hid (And.intro hN3 hS3); clear hown2 hg2 hat2 hold2 hN3 hS3)
                    refine hK.out _ _ hC3 (fun hHeld => ?_)
                    clear hK K
                    try simp only [Act.put, List.setIfInBounds_toArray, List.set_cons_zero, List.set_cons_succ]
                    refine wpAnyH_take (i := 18) (oi := _) (v := ?_) rfl (by kernel_rfl) (by kernel_rfl) (by kernel_rfl) (fun _ _ _ h => h) (Or.inl ⟨by rfl, ?_⟩) (by assumption) ?_
                    rotate_left
                    · (intro W hSw; (try dsimp only at hSw); go_simp; try with_reducible rfl)
                    try simp only [Act.put, List.getElem_toArray, List.getElem_cons_succ, List.getElem_cons_zero, List.setIfInBounds_toArray, List.set_cons_zero, List.set_cons_succ]
                    have qs := cell_of_row w3 S 3 _ _ (0, 0) HP.out.2
                    have fs : w3.frozen? ⟨S, 3, none⟩ = false := by have := HP.out.2; simp [World.frozen?, this]
                    refine wpAnyH_ready (rs := [19]) (by kernel_rfl) (by simp) ?_
                    refine AllReadyH.cons rfl (fun K hK => ?_) AllReadyH.nil
                    simp only [List.getElem_toArray, List.getElem_cons_succ, List.getElem_cons_zero]
                    rw [if_pos (by rfl)]
                    go_simp
                    refine hK.out _ _ HP.out.1.cf (fun hHeld => ?_)
                    clear hK K
                    try simp only [Act.put, List.getElem_toArray, List.getElem_cons_succ, List.getElem_cons_zero, List.setIfInBounds_toArray, List.set_cons_zero, List.set_cons_succ]
                    refine wpAnyH_done (by kernel_rfl) ?_ _
                    have hR : ∃ b z0 z1, NW w (w3.setCell ⟨S, 3, none⟩ (.slice (some ⟨g2, 0, none⟩) (k + 1) cap2)) ⟨S, A, b⟩ A (k + 1) c z0 z1 := ⟨_, _, _, HP.out.1⟩
                    have HR := Lib.hid hR
                    clear hR qs fs
                    go_wp2
                    go_roundw
                    case rel => exact ⟨k + 1, by go_num, hkA, HR.out⟩
                    case measure => simp [intOf]; omega
          · simp only [List.getElem_toArray, List.getElem_cons_succ, List.getElem_cons_zero]
            rw [if_pos (by rfl)]
            go_simp
            refine (gnew _).mono ?_
            rintro _ V113 ⟨rfl, hg, bb⟩
            obtain ⟨g115, hg115⟩ : ∃ X, X = V87.heap.size := ⟨_, rfl⟩
            have mg115 : M ≤ g115 := by rw [hg115]; exact HV88.out.2.1
            rw [← hg115] at hg ⊢
            have HV114 := Lib.hid (And.intro (HV88.out.1.below bb) (And.intro (Nat.le_trans HV88.out.2.1 bb.size) (And.intro hg (And.intro trivial (And.intro trivial trivial)))))
            clear bb hg
            clear hg115
            go_wp2_with fail
            refine hK.out _ _ HV114.out.1.cf (fun hHeld => ?_)
            clear hK K
            try simp only [Act.put, List.getElem_toArray, List.getElem_cons_succ, List.getElem_cons_zero, List.setIfInBounds_toArray, List.set_cons_zero, List.set_cons_succ]
            refine wpAnyH_ready (rs := [7, 11]) (by kernel_rfl) (by simp) ?_
            refine AllReadyH.cons rfl (fun K hK => ?_) (AllReadyH.cons rfl (fun K hK => ?_) AllReadyH.nil)
            · simp only [List.getElem_toArray, List.getElem_cons_succ, List.getElem_cons_zero]
              rw [if_pos (by rfl)]
              have q := cell_of_row V113 S 3 _ _ (0, 0) HV114.out.1.a
              go_simp
              clear q
              refine hK.out _ _ HV114.out.1.cf (fun hHeld => ?_)
              clear hK K
              try simp only [Act.put, List.getElem_toArray, List.getElem_cons_succ, List.getElem_cons_zero, List.setIfInBounds_toArray, List.set_cons_zero, List.set_cons_succ]
              refine wpAnyH_ready (rs := [11]) (by kernel_rfl) (by simp) ?_
              refine AllReadyH.cons rfl (fun K hK => ?_) AllReadyH.nil
              · simp only [List.getElem_toArray, List.getElem_cons_succ, List.getElem_cons_zero]
                rw [if_pos (by rfl)]
                have emk := mk_map V113
                go_simp
                clear emk
                obtain ⟨b118, hb118⟩ : ∃ X, X = V113.heap.size := ⟨_, rfl⟩
                have mb118 : M ≤ b118 := by rw [hb118]; exact HV114.out.2.1
                obtain ⟨V116, hV116⟩ : ∃ X, X = V113.alloc (.map #[] 0) := ⟨_, rfl⟩
                have hg : V116.heap[b118]? = some (.map #[] 0) := by rw [hV116, hb118]; exact heap_alloc_new V113 _
                have bb : Below V113.heap.size V113 V116 := by rw [hV116]; exact (Below.refl _ _).alloc (Nat.le_refl _) _
                rw [← hV116]
                try rw [← hb118]
                have HV117 := Lib.hid (And.intro (HV114.out.1.below bb) (And.intro (Nat.le_trans HV114.out.2.1 bb.size) (And.intro (kp bb HV114.out.2.2.1) (And.intro hg (And.intro trivial trivial)))))
                clear bb hg
                clear hV116 hb118
                refine hK.out _ _ HV117.out.1.cf (fun hHeld => ?_)
                clear hK K
                try simp only [Act.put, List.getElem_toArray, List.getElem_cons_succ, List.getElem_cons_zero, List.setIfInBounds_toArray, List.set_cons_zero, List.set_cons_succ]
                refine wpAnyH_take (i := 12) (oi := _) (v := ?_) rfl (by kernel_rfl) (by kernel_rfl) (by kernel_rfl) (fun _ _ _ h => h) (Or.inl ⟨by rfl, ?_⟩) (by assumption) ?_
                rotate_left
                · (intro W hSw; (try dsimp only at hSw); go_simp; try with_reducible rfl)
                try simp only [Act.put, List.getElem_toArray, List.getElem_cons_succ, List.getElem_cons_zero, List.setIfInBounds_toArray, List.set_cons_zero, List.set_cons_succ]
                refine wpAnyH_ready (rs := [13]) (by kernel_rfl) (by simp) ?_
                refine AllReadyH.cons rfl (fun K hK => ?_) AllReadyH.nil
                · simp only [List.getElem_toArray, List.getElem_cons_succ, List.getElem_cons_zero]
                  rw [if_pos (by rfl)]
                  go_simp
                  obtain ⟨n121, hn121⟩ : ∃ X, X = V116.heap.size := ⟨_, rfl⟩
                  have mn121 : M ≤ n121 := by rw [hn121]; exact HV117.out.2.1
                  obtain ⟨V119, hV119⟩ : ∃ X, X = V116.alloc (.cells #[.int .u64 0, .int .u64 c.f11, .pointer (some ⟨g115, 0, none⟩), .map (some b118)] TNm) := ⟨_, rfl⟩
                  have hg : V119.heap[n121]? = some (.cells #[.int .u64 0, .int .u64 c.f11, .pointer (some ⟨g115, 0, none⟩), .map (some b118)] TNm (0, 0)) := by rw [hV119, hn121]; exact heap_alloc_new V116 _
                  have bb : Below V116.heap.size V116 V119 := by rw [hV119]; exact (Below.refl _ _).alloc (Nat.le_refl _) _
                  rw [← hV119]
                  try rw [← hn121]
                  have HV120 := Lib.hid (And.intro (HV117.out.1.below bb) (And.intro (Nat.le_trans HV117.out.2.1 bb.size) (And.intro (kp bb HV117.out.2.2.1) (And.intro (kp bb HV117.out.2.2.2.1) (And.intro hg trivial)))))
                  clear bb hg
                  clear hV119 hn121
                  refine hK.out _ _ HV120.out.1.cf (fun hHeld => ?_)
                  clear hK K
                  try simp only [Act.put, List.getElem_toArray, List.getElem_cons_succ, List.getElem_cons_zero, List.setIfInBounds_toArray, List.set_cons_zero, List.set_cons_succ]
                  refine wpAnyH_ready (rs := [14]) (by kernel_rfl) (by simp) ?_
                  refine AllReadyH.cons rfl (fun K hK => ?_) AllReadyH.nil
                  · simp only [List.getElem_toArray, List.getElem_cons_succ, List.getElem_cons_zero]
                    rw [if_pos (by rfl)]
                    go_simp
                    obtain ⟨k124, hk124⟩ : ∃ X, X = V119.heap.size := ⟨_, rfl⟩
                    have mk124 : M ≤ k124 := by rw [hk124]; exact HV120.out.2.1
                    obtain ⟨V122, hV122⟩ : ∃ X, X = V119.alloc (.cells #[.pointer (some ⟨n121, 0, none⟩)] TNp) := ⟨_, rfl⟩
                    have hNk124 : Hid (∀ j u, [Value.pointer (some ⟨n121, 0, none⟩)][j]? = some u → V122.cell? ((⟨k124, 0, none⟩ : Addr).add j) = some u) := Lib.hid (by rw [hV122, hk124]; exact news_p V119 _)
                    have bb : Below V119.heap.size V119 V122 := by rw [hV122]; exact (Below.refl _ _).alloc (Nat.le_refl _) _
                    rw [← hV122]
                    try rw [← hk124]
                    have HV123 := Lib.hid (And.intro (HV120.out.1.below bb) (And.intro (Nat.le_trans HV120.out.2.1 bb.size) (And.intro (kp bb HV120.out.2.2.1) (And.intro (kp bb HV120.out.2.2.2.1) (And.intro (kp bb HV120.out.2.2.2.2.1) trivial)))))
                    clear bb
                    clear hV122 hk124
                    refine hK.out _ _ HV123.out.1.cf (fun hHeld => ?_)
                    clear hK K
                    try simp only [Act.put, List.getElem_toArray, List.getElem_cons_succ, List.getElem_cons_zero, List.setIfInBounds_toArray, List.set_cons_zero, List.set_cons_succ]
                    refine wpAnyH_ready (rs := [15]) (by kernel_rfl) (by simp) ?_
                    refine AllReadyH.cons rfl (fun K hK => ?_) AllReadyH.nil
                    simp only [List.getElem_toArray, List.getElem_cons_succ, List.getElem_cons_zero]
                    rw [if_pos (by rfl)]
                    (refine wp_append_keep _ _ _ _ (by rfl) (w.heap.size + 1) TNp i0 _ 1 8 Tryz.underlying68 hi hz0 hz1 hz2 rfl (by decide) z1 k _ (by rfl) HV123.out.1.al.r1 ⟨k124, 0, none⟩ 1 1 [.pointer (some ⟨n121, 0, none⟩)] (by rfl) rfl hNk124.out (ones_p _) (by decide) (by have := HKb.out; unfold maxLen; omega) (by have := HKb.out; omega) (by have := HV123.out.2.1; have := HMb.out; omega) V122.heap.size rfl ?_; intro g2 cap2 w3 hown2 hg2 hat2 hold2; obtain ⟨hC3, hS3, hN3⟩ := NW.push1 (Hs := 0) HV123.out.1 HU.out (NumN.mk HV123.out.2.2.2.2.1 HV123.out.2.2.1 HV123.out.2.2.2.1) ⟨mn121, mg115, mb118⟩ HMb.out hat2 hown2 hg2; have HP := Lib.hid (And.intro hN3 hS3); clear hown2 hg2 hat2 hold2 hN3 hS3)
                    refine hK.out _ _ hC3 (fun hHeld => ?_)
                    clear hK K
                    try simp only [Act.put, List.setIfInBounds_toArray, List.set_cons_zero, List.set_cons_succ]
                    refine wpAnyH_take (i := 18) (oi := _) (v := ?_) rfl (by kernel_rfl) (by kernel_rfl) (by kernel_rfl) (fun _ _ _ h => h) (Or.inl ⟨by rfl, ?_⟩) (by assumption) ?_
                    rotate_left
                    · (intro W hSw; (try dsimp only at hSw); go_simp; try with_reducible rfl)
                    try simp only [Act.put, List.getElem_toArray, List.getElem_cons_succ, List.getElem_cons_zero, List.setIfInBounds_toArray, List.set_cons_zero, List.set_cons_succ]
                    have qs := cell_of_row w3 S 3 _ _ (0, 0) HP.out.2
                    have fs : w3.frozen? ⟨S, 3, none⟩ = false := by have := HP.out.2; simp [World.frozen?, this]
                    refine wpAnyH_ready (rs := [19]) (by kernel_rfl) (by simp) ?_
                    refine AllReadyH.cons rfl (fun K hK => ?_) AllReadyH.nil
                    simp only [List.getElem_toArray, List.getElem_cons_succ, List.getElem_cons_zero]
                    rw [if_pos (by rfl)]
                    go_simp
                    refine hK.out _ _ HP.out.1.cf (fun hHeld => ?_)
                    clear hK K
                    try simp only [Act.put, List.getElem_toArray, List.getElem_cons_succ, List.getElem_cons_zero, List.setIfInBounds_toArray, List.set_cons_zero, List.set_cons_succ]
                    refine wpAnyH_done (by kernel_rfl) ?_ _
                    have hR : ∃ b z0 z1, NW w (w3.setCell ⟨S, 3, none⟩ (.slice (some ⟨g2, 0, none⟩) (k + 1) cap2)) ⟨S, A, b⟩ A (k + 1) c z0 z1 := ⟨_, _, _, HP.out.1⟩
                    have HR := Lib.hid hR
                    clear hR qs fs
                    go_wp2
                    go_roundw
                    case rel => exact ⟨k + 1, by go_num, hkA, HR.out⟩
                    case measure => simp [intOf]; omega
            · simp only [List.getElem_toArray, List.getElem_cons_succ, List.getElem_cons_zero]
              rw [if_pos (by rfl)]
              have emk := mk_map V113
              go_simp
              clear emk
              obtain ⟨b127, hb127⟩ : ∃ X, X = V113.heap.size := ⟨_, rfl⟩
              have mb127 : M ≤ b127 := by rw [hb127]; exact HV114.out.2.1
              obtain ⟨V125, hV125⟩ : ∃ X, X = V113.alloc (.map #[] 0) := ⟨_, rfl⟩
              have hg : V125.heap[b127]? = some (.map #[] 0) := by rw [hV125, hb127]; exact heap_alloc_new V113 _
              have bb : Below V113.heap.size V113 V125 := by rw [hV125]; exact (Below.refl _ _).alloc (Nat.le_refl _) _
              rw [← hV125]
              try rw [← hb127]
              have HV126 := Lib.hid (And.intro (HV114.out.1.below bb) (And.intro (Nat.le_trans HV114.out.2.1 bb.size) (And.intro (kp bb HV114.out.2.2.1) (And.intro hg (And.intro trivial trivial)))))
              clear bb hg
              clear hV125 hb127
              refine hK.out _ _ HV126.out.1.cf (fun hHeld => ?_)
              clear hK K
              try simp only [Act.put, List.getElem_toArray, List.getElem_cons_succ, List.getElem_cons_zero, List.setIfInBounds_toArray, List.set_cons_zero, List.set_cons_succ]
              refine wpAnyH_take (i := 12) (oi := _) (v := ?_) rfl (by kernel_rfl) (by kernel_rfl) (by kernel_rfl) (fun _ _ _ h => h) (Or.inl ⟨by rfl, ?_⟩) (by assumption) ?_
              rotate_left
              · (intro W hSw; (try dsimp only at hSw); go_simp; try with_reducible rfl)
              try simp only [Act.put, List.getElem_toArray, List.getElem_cons_succ, List.getElem_cons_zero, List.setIfInBounds_toArray, List.set_cons_zero, List.set_cons_succ]
              refine wpAnyH_ready (rs := [7, 13]) (by kernel_rfl) (by simp) ?_
              refine AllReadyH.cons rfl (fun K hK => ?_) (AllReadyH.cons rfl (fun K hK => ?_) AllReadyH.nil)
              · simp only [List.getElem_toArray, List.getElem_cons_succ, List.getElem_cons_zero]
                rw [if_pos (by rfl)]
                have q := cell_of_row V125 S 3 _ _ (0, 0) HV126.out.1.a
                go_simp
                clear q
                refine hK.out _ _ HV126.out.1.cf (fun hHeld => ?_)
                clear hK K
                try simp only [Act.put, List.getElem_toArray, List.getElem_cons_succ, List.getElem_cons_zero, List.setIfInBounds_toArray, List.set_cons_zero, List.set_cons_succ]
                refine wpAnyH_ready (rs := [13]) (by kernel_rfl) (by simp) ?_
                refine AllReadyH.cons rfl (fun K hK => ?_) AllReadyH.nil
                · simp only [List.getElem_toArray, List.getElem_cons_succ, List.getElem_cons_zero]
                  rw [if_pos (by rfl)]
                  go_simp
                  obtain ⟨n130, hn130⟩ : ∃ X, X = V125.heap.size := ⟨_, rfl⟩
                  have mn130 : M ≤ n130 := by rw [hn130]; exact HV126.out.2.1
                  obtain ⟨V128, hV128⟩ : ∃ X, X = V125.alloc (.cells #[.int .u64 0, .int .u64 c.f11, .pointer (some ⟨g115, 0, none⟩), .map (some b127)] TNm) := ⟨_, rfl⟩
                  have hg : V128.heap[n130]? = some (.cells #[.int .u64 0, .int .u64 c.f11, .pointer (some ⟨g115, 0, none⟩), .map (some b127)] TNm (0, 0)) := by rw [hV128, hn130]; exact heap_alloc_new V125 _
                  have bb : Below V125.heap.size V125 V128 := by rw [hV128]; exact (Below.refl _ _).alloc (Nat.le_refl _) _
                  rw [← hV128]
                  try rw [← hn130]
                  have HV129 := Lib.hid (And.intro (HV126.out.1.below bb) (And.intro (Nat.le_trans HV126.out.2.1 bb.size) (And.intro (kp bb HV126.out.2.2.1) (And.intro (kp bb HV126.out.2.2.2.1) (And.intro hg trivial)))))
                  clear bb hg
                  clear hV128 hn130
                  refine hK.out _ _ HV129.out.1.cf (fun hHeld => ?_)
                  clear hK K
                  try simp only [Act.put, List.getElem_toArray, List.getElem_cons_succ, List.getElem_cons_zero, List.setIfInBounds_toArray, List.set_cons_zero, List.set_cons_succ]
                  refine wpAnyH_ready (rs := [14]) (by kernel_rfl) (by simp) ?_
                  refine AllReadyH.cons rfl (fun K hK => ?_) AllReadyH.nil
                  · simp only [List.getElem_toArray, List.getElem_cons_succ, List.getElem_cons_zero]
                    rw [if_pos (by rfl)]
                    go_simp
                    obtain ⟨k133, hk133⟩ : ∃ X, X = V128.heap.size := ⟨_, rfl⟩
                    have mk133 : M ≤ k133 := by rw [hk133]; exact HV129.out.2.1
                    obtain ⟨V131, hV131⟩ : ∃ X, X = V128.alloc (.cells #[.pointer (some ⟨n130, 0, none⟩)] TNp) := ⟨_, rfl⟩
                    have hNk133 : Hid (∀ j u, [Value.pointer (some ⟨n130, 0, none⟩)][j]? = some u → V131.cell? ((⟨k133, 0, none⟩ : Addr).add j) = some u) := Lib.hid (by rw [hV131, hk133]; exact news_p V128 _)
                    have bb : Below V128.heap.size V128 V131 := by rw [hV131]; exact (Below.refl _ _).alloc (Nat.le_refl _) _
                    rw [← hV131]
                    try rw [← hk133]
                    have HV132 := Lib.hid (And.intro (HV129.out.1.below bb) (And.intro (Nat.le_trans HV129.out.2.1 bb.size) (And.intro (kp bb HV129.out.2.2.1) (And.intro (kp bb HV129.out.2.2.2.1) (And.intro (kp bb HV129.out.2.2.2.2.1) trivial)))))
                    clear bb
                    clear hV131 hk133
                    refine hK.out _ _ HV132.out.1.cf (fun hHeld => ?_)
                    clear hK K
                    try simp only [Act.put, List.getElem_toArray, List.getElem_cons_succ, List.getElem_cons_zero, List.setIfInBounds_toArray, List.set_cons_zero, List.set_cons_succ]
                    refine wpAnyH_ready (rs := [15]) (by kernel_rfl) (by simp) ?_
                    refine AllReadyH.cons rfl (fun K hK => ?_) AllReadyH.nil
                    simp only [List.getElem_toArray, List.getElem_cons_succ, List.getElem_cons_zero]
                    rw [if_pos (by rfl)]
                    (refine wp_append_keep _ _ _ _ (by rfl) (w.heap.size + 1) TNp i0 _ 1 8 Tryz.underlying68 hi hz0 hz1 hz2 rfl (by decide) z1 k _ (by rfl) HV132.out.1.al.r1 ⟨k133, 0, none⟩ 1 1 [.pointer (some ⟨n130, 0, none⟩)] (by rfl) rfl hNk133.out (ones_p _) (by decide) (by have := HKb.out; unfold maxLen; omega) (by have := HKb.out; omega) (by have := HV132.out.2.1; have := HMb.out; omega) V131.heap.size rfl ?_; intro g2 cap2 w3 hown2 hg2 hat2 hold2; obtain ⟨hC3, hS3, hN3⟩ := NW.push1 (Hs := 0) HV132.out.1 HU.out (NumN.mk HV132.out.2.2.2.2.1 HV132.out.2.2.1 HV132.out.2.2.2.1) ⟨mn130, mg115, mb127⟩ HMb.out hat2 hown2 hg2; have HP := Lib.hid (And.intro hN3 hS3); clear hown2 hg2 hat2 hold2 hN3 hS3)
                    refine hK.out _ _ hC3 (fun hHeld => ?_)
                    clear hK K
                    try simp only [Act.put, List.setIfInBounds_toArray, List.set_cons_zero, List.set_cons_succ]
                    refine wpAnyH_take (i := 18) (oi := _) (v := ?_) rfl (by kernel_rfl) (by kernel_rfl) (by kernel_rfl) (fun _ _ _ h => h) (Or.inl ⟨by rfl, ?_⟩) (by assumption) ?_
                    rotate_left
                    · (intro W hSw; (try dsimp only at hSw); go_simp; try with_reducible rfl)
                    try simp only [Act.put, List.getElem_toArray, List.getElem_cons_succ, List.getElem_cons_zero, List.setIfInBounds_toArray, List.set_cons_zero, List.set_cons_succ]
                    have qs := cell_of_row w3 S 3 _ _ (0, 0) HP.out.2
                    have fs : w3.frozen? ⟨S, 3, none⟩ = false := by have := HP.out.2; simp [World.frozen?, this]
                    refine wpAnyH_ready (rs := [19]) (by kernel_rfl) (by simp) ?_
                    refine AllReadyH.cons rfl (fun K hK => ?_) AllReadyH.nil
                    simp only [List.getElem_toArray, List.getElem_cons_succ, List.getElem_cons_zero]
                    rw [if_pos (by rfl)]
                    go_simp
                    refine hK.out _ _ HP.out.1.cf (fun hHeld => ?_)
                    clear hK K
                    try simp only [Act.put, List.getElem_toArray, List.getElem_cons_succ, List.getElem_cons_zero, List.setIfInBounds_toArray, List.set_cons_zero, List.set_cons_succ]
                    refine wpAnyH_done (by kernel_rfl) ?_ _
                    have hR : ∃ b z0 z1, NW w (w3.setCell ⟨S, 3, none⟩ (.slice (some ⟨g2, 0, none⟩) (k + 1) cap2)) ⟨S, A, b⟩ A (k + 1) c z0 z1 := ⟨_, _, _, HP.out.1⟩
                    have HR := Lib.hid hR
                    clear hR qs fs
                    go_wp2
                    go_roundw
                    case rel => exact ⟨k + 1, by go_num, hkA, HR.out⟩
                    case measure => simp [intOf]; omega
              · simp only [List.getElem_toArray, List.getElem_cons_succ, List.getElem_cons_zero]
                rw [if_pos (by rfl)]
                go_simp
                obtain ⟨n136, hn136⟩ : ∃ X, X = V125.heap.size := ⟨_, rfl⟩
                have mn136 : M ≤ n136 := by rw [hn136]; exact HV126.out.2.1
                obtain ⟨V134, hV134⟩ : ∃ X, X = V125.alloc (.cells #[.int .u64 0, .int .u64 c.f11, .pointer (some ⟨g115, 0, none⟩), .map (some b127)] TNm) := ⟨_, rfl⟩
                have hg : V134.heap[n136]? = some (.cells #[.int .u64 0, .int .u64 c.f11, .pointer (some ⟨g115, 0, none⟩), .map (some b127)] TNm (0, 0)) := by rw [hV134, hn136]; exact heap_alloc_new V125 _
                have bb : Below V125.heap.size V125 V134 := by rw [hV134]; exact (Below.refl _ _).alloc (Nat.le_refl _) _
                rw [← hV134]
                try rw [← hn136]
                have HV135 := Lib.hid (And.intro (HV126.out.1.below bb) (And.intro (Nat.le_trans HV126.out.2.1 bb.size) (And.intro (kp bb HV126.out.2.2.1) (And.intro (kp bb HV126.out.2.2.2.1) (And.intro hg trivial)))))
                clear bb hg
                clear hV134 hn136
                refine hK.out _ _ HV135.out.1.cf (fun hHeld => ?_)
                clear hK K
                try simp only [Act.put, List.getElem_toArray, List.getElem_cons_succ, List.getElem_cons_zero, List.setIfInBounds_toArray, List.set_cons_zero, List.set_cons_succ]
                refine wpAnyH_ready (rs := [7, 14]) (by kernel_rfl) (by simp) ?_
                refine AllReadyH.cons rfl (fun K hK => ?_) (AllReadyH.cons rfl (fun K hK => ?_) AllReadyH.nil)
                · simp only [List.getElem_toArray, List.getElem_cons_succ, List.getElem_cons_zero]
                  rw [if_pos (by rfl)]
                  have q := cell_of_row V134 S 3 _ _ (0, 0) HV135.out.1.a
                  go_simp
                  clear q
                  refine hK.out _ _ HV135.out.1.cf (fun hHeld => ?_)
                  clear hK K
                  try simp only [Act.put, List.getElem_toArray, List.getElem_cons_succ, List.getElem_cons_zero, List.setIfInBounds_toArray, List.set_cons_zero, List.set_cons_succ]
                  refine wpAnyH_ready (rs := [14]) (by kernel_rfl) (by simp) ?_
                  refine AllReadyH.cons rfl (fun K hK => ?_) AllReadyH.nil
                  · simp only [List.getElem_toArray, List.getElem_cons_succ, List.getElem_cons_zero]
                    rw [if_pos (by rfl)]
                    go_simp
                    obtain ⟨k139, hk139⟩ : ∃ X, X = V134.heap.size := ⟨_, rfl⟩
                    have mk139 : M ≤ k139 := by rw [hk139]; exact HV135.out.2.1
                    obtain ⟨V137, hV137⟩ : ∃ X, X = V134.alloc (.cells #[.pointer (some ⟨n136, 0, none⟩)] TNp) := ⟨_, rfl⟩
                    have hNk139 : Hid (∀ j u, [Value.pointer (some ⟨n136, 0, none⟩)][j]? = some u → V137.cell? ((⟨k139, 0, none⟩ : Addr).add j) = some u) := Lib.hid (by rw [hV137, hk139]; exact news_p V134 _)
                    have bb : Below V134.heap.size V134 V137 := by rw [hV137]; exact (Below.refl _ _).alloc (Nat.le_refl _) _
                    rw [← hV137]
                    try rw [← hk139]
                    have HV138 := Lib.hid (And.intro (HV135.out.1.below bb) (And.intro (Nat.le_trans HV135.out.2.1 bb.size) (And.intro (kp bb HV135.out.2.2.1) (And.intro (kp bb HV135.out.2.2.2.1) (And.intro (kp bb HV135.out.2.2.2.2.1) trivial)))))
                    clear bb
                    clear hV137 hk139
                    refine hK.out _ _ HV138.out.1.cf (fun hHeld => ?_)
                    clear hK K
                    try simp only [Act.put, List.getElem_toArray, List.getElem_cons_succ, List.getElem_cons_zero, List.setIfInBounds_toArray, List.set_cons_zero, List.set_cons_succ]
                    refine wpAnyH_ready (rs := [15]) (by kernel_rfl) (by simp) ?_
                    refine AllReadyH.cons rfl (fun K hK => ?_) AllReadyH.nil
                    simp only [List.getElem_toArray, List.getElem_cons_succ, List.getElem_cons_zero]
                    rw [if_pos (by rfl)]
                    (refine wp_append_keep _ _ _ _ (by rfl) (w.heap.size + 1) TNp i0 _ 1 8 Tryz.underlying68 hi hz0 hz1 hz2 rfl (by decide) z1 k _ (by rfl) HV138.out.1.al.r1 ⟨k139, 0, none⟩ 1 1 [.pointer (some ⟨n136, 0, none⟩)] (by rfl) rfl hNk139.out (ones_p _) (by decide) (by have := HKb.out; unfold maxLen; omega) (by have := HKb.out; omega) (by have := HV138.out.2.1; have := HMb.out; omega) V137.heap.size rfl ?_; intro g2 cap2 w3 hown2 hg2 hat2 hold2; obtain ⟨hC3, hS3, hN3⟩ := NW.push1 (Hs := 0) HV138.out.1 HU.out (NumN.mk HV138.out.2.2.2.2.1 HV138.out.2.2.1 HV138.out.2.2.2.1) ⟨mn136, mg115, mb127⟩ HMb.out hat2 hown2 hg2; have HP := Lib.hid (And.intro hN3 hS3); clear hown2 hg2 hat2 hold2 hN3 hS3)
                    refine hK.out _ _ hC3 (fun hHeld => ?_)
                    clear hK K
                    try simp only [Act.put, List.setIfInBounds_toArray, List.set_cons_zero, List.set_cons_succ]
                    refine wpAnyH_take (i := 18) (oi := _) (v := ?_) rfl (by kernel_rfl) (by kernel_rfl) (by kernel_rfl) (fun _ _ _ h => h) (Or.inl ⟨by rfl, ?_⟩) (by assumption) ?_
                    rotate_left
                    · (intro W hSw; (try dsimp only at hSw); go_simp; try with_reducible rfl)
                    try simp only [Act.put, List.getElem_toArray, List.getElem_cons_succ, List.getElem_cons_zero, List.setIfInBounds_toArray, List.set_cons_zero, List.set_cons_succ]
                    have qs := cell_of_row w3 S 3 _ _ (0, 0) HP.out.2
                    have fs : w3.frozen? ⟨S, 3, none⟩ = false := by have := HP.out.2; simp [World.frozen?, this]
                    refine wpAnyH_ready (rs := [19]) (by kernel_rfl) (by simp) ?_
                    refine AllReadyH.cons rfl (fun K hK => ?_) AllReadyH.nil
                    simp only [List.getElem_toArray, List.getElem_cons_succ, List.getElem_cons_zero]
                    rw [if_pos (by rfl)]
                    go_simp
                    refine hK.out _ _ HP.out.1.cf (fun hHeld => ?_)
                    clear hK K
                    try simp only [Act.put, List.getElem_toArray, List.getElem_cons_succ, List.getElem_cons_zero, List.setIfInBounds_toArray, List.set_cons_zero, List.set_cons_succ]
                    refine wpAnyH_done (by kernel_rfl) ?_ _
                    have hR : ∃ b z0 z1, NW w (w3.setCell ⟨S, 3, none⟩ (.slice (some ⟨g2, 0, none⟩) (k + 1) cap2)) ⟨S, A, b⟩ A (k + 1) c z0 z1 := ⟨_, _, _, HP.out.1⟩
                    have HR := Lib.hid hR
                    clear hR qs fs
                    go_wp2
                    go_roundw
                    case rel => exact ⟨k + 1, by go_num, hkA, HR.out⟩
                    case measure => simp [intOf]; omega
                · simp only [List.getElem_toArray, List.getElem_cons_succ, List.getElem_cons_zero]
                  rw [if_pos (by rfl)]
                  go_simp
                  obtain ⟨k142, hk142⟩ : ∃ X, X = V134.heap.size := ⟨_, rfl⟩
                  have mk142 : M ≤ k142 := by rw [hk142]; exact HV135.out.2.1
                  obtain ⟨V140, hV140⟩ : ∃ X, X = V134.alloc (.cells #[.pointer (some ⟨n136, 0, none⟩)] TNp) := ⟨_, rfl⟩
                  have hNk142 : Hid (∀ j u, [Value.pointer (some ⟨n136, 0, none⟩)][j]? = some u → V140.cell? ((⟨k142, 0, none⟩ : Addr).add j) = some u) := Lib.hid (by rw [hV140, hk142]; exact news_p V134 _)
                  have bb : Below V134.heap.size V134 V140 := by rw [hV140]; exact (Below.refl _ _).alloc (Nat.le_refl _) _
                  rw [← hV140]
                  try rw [← hk142]
                  have HV141 := Lib.hid (And.intro (HV135.out.1.below bb) (And.intro (Nat.le_trans HV135.out.2.1 bb.size) (And.intro (kp bb HV135.out.2.2.1) (And.intro (kp bb HV135.out.2.2.2.1) (And.intro (kp bb HV135.out.2.2.2.2.1) trivial)))))
                  clear bb
                  clear hV140 hk142
                  refine hK.out _ _ HV141.out.1.cf (fun hHeld => ?_)
                  clear hK K
                  try simp only [Act.put, List.getElem_toArray, List.getElem_cons_succ, List.getElem_cons_zero, List.setIfInBounds_toArray, List.set_cons_zero, List.set_cons_succ]
                  refine wpAnyH_ready (rs := [7]) (by kernel_rfl) (by simp) ?_
                  refine AllReadyH.cons rfl (fun K hK => ?_) AllReadyH.nil
                  · simp only [List.getElem_toArray, List.getElem_cons_succ, List.getElem_cons_zero]
                    rw [if_pos (by rfl)]
                    have q := cell_of_row V140 S 3 _ _ (0, 0) HV141.out.1.a
                    go_simp
                    clear q
                    refine hK.out _ _ HV141.out.1.cf (fun hHeld => ?_)
                    clear hK K
                    try simp only [Act.put, List.getElem_toArray, List.getElem_cons_succ, List.getElem_cons_zero, List.setIfInBounds_toArray, List.set_cons_zero, List.set_cons_succ]
                    refine wpAnyH_ready (rs := [15]) (by kernel_rfl) (by simp) ?_
                    refine AllReadyH.cons rfl (fun K hK => ?_) AllReadyH.nil
                    simp only [List.getElem_toArray, List.getElem_cons_succ, List.getElem_cons_zero]
                    rw [if_pos (by rfl)]
                    (refine wp_append_keep _ _ _ _ (by rfl) (w.heap.size + 1) TNp i0 _ 1 8 Tryz.underlying68 hi hz0 hz1 hz2 rfl (by decide) z1 k _ (by rfl) HV141.out.1.al.r1 ⟨k142, 0, none⟩ 1 1 [.pointer (some ⟨n136, 0, none⟩)] (by rfl) rfl hNk142.out (ones_p _) (by decide) (by have := HKb.out; unfold maxLen; omega) (by have := HKb.out; omega) (by have := HV141.out.2.1; have := HMb.out; omega) V140.heap.size rfl ?_; intro g2 cap2 w3 hown2 hg2 hat2 hold2; obtain ⟨hC3, hS3, hN3⟩ := NW.push1 (Hs := 0) HV141.out.1 HU.out (NumN.mk HV141.out.2.2.2.2.1 HV141.out.2.2.1 HV141.out.2.2.2.1) ⟨mn136, mg115, mb127⟩ HMb.out hat2 hown2 hg2; have HP := Lib.hid (And.intro hN3 hS3); clear hown2 hg2 hat2 hold2 hN3 hS3)
                    refine hK.out _ _ hC3 (fun hHeld => ?_)
                    clear hK K
                    try simp only [Act.put, List.setIfInBounds_toArray, List.set_cons_zero, List.set_cons_succ]
                    refine wpAnyH_take (i := 18) (oi := _) (v := ?_) rfl (by kernel_rfl) (by kernel_rfl) (by kernel_rfl) (fun _ _ _ h => h) (Or.inl ⟨by rfl, ?_⟩) (by assumption) ?_
                    rotate_left
                    · (intro W hSw; (try dsimp only at hSw); go_simp; try with_reducible rfl)
                    try simp only [Act.put, List.getElem_toArray, List.getElem_cons_succ, List.getElem_cons_zero, List.setIfInBounds_toArray, List.set_cons_zero, List.set_cons_succ]
                    have qs := cell_of_row w3 S 3 _ _ (0, 0) HP.out.2
                    have fs : w3.frozen? ⟨S, 3, none⟩ = false := by have := HP.out.2; simp [World.frozen?, this]
                    refine wpAnyH_ready (rs := [19]) (by kernel_rfl) (by simp) ?_
                    refine AllReadyH.cons rfl (fun K hK => ?_) AllReadyH.nil
                    simp only [List.getElem_toArray, List.getElem_cons_succ, List.getElem_cons_zero]
                    rw [if_pos (by rfl)]
                    go_simp
                    refine hK.out _ _ HP.out.1.cf (fun hHeld => ?_)
                    clear hK K
                    try simp only [Act.put, List.getElem_toArray, List.getElem_cons_succ, List.getElem_cons_zero, List.setIfInBounds_toArray, List.set_cons_zero, List.set_cons_succ]
                    refine wpAnyH_done (by kernel_rfl) ?_ _
                    have hR : ∃ b z0 z1, NW w (w3.setCell ⟨S, 3, none⟩ (.slice (some ⟨g2, 0, none⟩) (k + 1) cap2)) ⟨S, A, b⟩ A (k + 1) c z0 z1 := ⟨_, _, _, HP.out.1⟩
                    have HR := Lib.hid hR
                    clear hR qs fs
                    go_wp2
                    go_roundw
                    case rel => exact ⟨k + 1, by go_num, hkA, HR.out⟩
                    case measure => simp [intOf]; omega
          · simp only [List.getElem_toArray, List.getElem_cons_succ, List.getElem_cons_zero]
            rw [if_pos (by rfl)]
            have emk := mk_map V87
            go_simp
            clear emk
            obtain ⟨b145, hb145⟩ : ∃ X, X = V87.heap.size := ⟨_, rfl⟩
            have mb145 : M ≤ b145 := by rw [hb145]; exact HV88.out.2.1
            obtain ⟨V143, hV143⟩ : ∃ X, X = V87.alloc (.map #[] 0) := ⟨_, rfl⟩
            have hg : V143.heap[b145]? = some (.map #[] 0) := by rw [hV143, hb145]; exact heap_alloc_new V87 _
            have bb : Below V87.heap.size V87 V143 := by rw [hV143]; exact (Below.refl _ _).alloc (Nat.le_refl _) _
            rw [← hV143]
            try rw [← hb145]
            have HV144 := Lib.hid (And.intro (HV88.out.1.below bb) (And.intro (Nat.le_trans HV88.out.2.1 bb.size) (And.intro trivial (And.intro hg (And.intro trivial trivial)))))
            clear bb hg
            clear hV143 hb145
            refine hK.out _ _ HV144.out.1.cf (fun hHeld => ?_)
            clear hK K
            try simp only [Act.put, List.getElem_toArray, List.getElem_cons_succ, List.getElem_cons_zero, List.setIfInBounds_toArray, List.set_cons_zero, List.set_cons_succ]
            refine wpAnyH_ready (rs := [7, 10]) (by kernel_rfl) (by simp) ?_
            refine AllReadyH.cons rfl (fun K hK => ?_) (AllReadyH.cons rfl (fun K hK => ?_) AllReadyH.nil)
            · simp only [List.getElem_toArray, List.getElem_cons_succ, List.getElem_cons_zero]
              rw [if_pos (by rfl)]
              have q := cell_of_row V143 S 3 _ _ (0, 0) HV144.out.1.a
              go_simp
              clear q
              refine hK.out _ _ HV144.out.1.cf (fun hHeld => ?_)
              clear hK K
              try simp only [Act.put, List.getElem_toArray, List.getElem_cons_succ, List.getElem_cons_zero, List.setIfInBounds_toArray, List.set_cons_zero, List.set_cons_succ]
              refine wpAnyH_ready (rs := [10]) (by kernel_rfl) (by simp) ?_
              refine AllReadyH.cons rfl (fun K hK => ?_) AllReadyH.nil
              · simp only [List.getElem_toArray, List.getElem_cons_succ, List.getElem_cons_zero]
                rw [if_pos (by rfl)]
                go_simp
                refine (gnew _).mono ?_
                rintro _ V146 ⟨rfl, hg, bb⟩
                obtain ⟨g148, hg148⟩ : ∃ X, X = V143.heap.size := ⟨_, rfl⟩
                have mg148 : M ≤ g148 := by rw [hg148]; exact HV144.out.2.1
                rw [← hg148] at hg ⊢
                have HV147 := Lib.hid (And.intro (HV144.out.1.below bb) (And.intro (Nat.le_trans HV144.out.2.1 bb.size) (And.intro hg (And.intro (kp bb HV144.out.2.2.2.1) (And.intro trivial trivial)))))
                clear bb hg
                clear hg148
                go_wp2_with fail
                refine hK.out _ _ HV147.out.1.cf (fun hHeld => ?_)
                clear hK K
                try simp only [Act.put, List.getElem_toArray, List.getElem_cons_succ, List.getElem_cons_zero, List.setIfInBounds_toArray, List.set_cons_zero, List.set_cons_succ]
                refine wpAnyH_take (i := 12) (oi := _) (v := ?_) rfl (by kernel_rfl) (by kernel_rfl) (by kernel_rfl) (fun _ _ _ h => h) (Or.inl ⟨by rfl, ?_⟩) (by assumption) ?_
                rotate_left
                · (intro W hSw; (try dsimp only at hSw); go_simp; try with_reducible rfl)
                try simp only [Act.put, List.getElem_toArray, List.getElem_cons_succ, List.getElem_cons_zero, List.setIfInBounds_toArray, List.set_cons_zero, List.set_cons_succ]
                refine wpAnyH_ready (rs := [13]) (by kernel_rfl) (by simp) ?_
                refine AllReadyH.cons rfl (fun K hK => ?_) AllReadyH.nil
                · simp only [List.getElem_toArray, List.getElem_cons_succ, List.getElem_cons_zero]
                  rw [if_pos (by rfl)]
                  go_simp
                  obtain ⟨n151, hn151⟩ : ∃ X, X = V146.heap.size := ⟨_, rfl⟩
                  have mn151 : M ≤ n151 := by rw [hn151]; exact HV147.out.2.1
                  obtain ⟨V149, hV149⟩ : ∃ X, X = V146.alloc (.cells #[.int .u64 0, .int .u64 c.f11, .pointer (some ⟨g148, 0, none⟩), .map (some b145)] TNm) := ⟨_, rfl⟩
                  have hg : V149.heap[n151]? = some (.cells #[.int .u64 0, .int .u64 c.f11, .pointer (some ⟨g148, 0, none⟩), .map (some b145)] TNm (0, 0)) := by rw [hV149, hn151]; exact heap_alloc_new V146 _
                  have bb : Below V146.heap.size V146 V149 := by rw [hV149]; exact (Below.refl _ _).alloc (Nat.le_refl _) _
                  rw [← hV149]
                  try rw [← hn151]
                  have HV150 := Lib.hid (And.intro (HV147.out.1.below bb) (And.intro (Nat.le_trans HV147.out.2.1 bb.size) (And.intro (kp bb HV147.out.2.2.1) (And.intro (kp bb HV147.out.2.2.2.1) (And.intro hg trivial)))))
                  clear bb hg
                  clear hV149 hn151
                  refine hK.out _ _ HV150.out.1.cf (fun hHeld => ?_)
                  clear hK K
                  try simp only [Act.put, List.getElem_toArray, List.getElem_cons_succ, List.getElem_cons_zero, List.setIfInBounds_toArray, List.set_cons_zero, List.set_cons_succ]
                  refine wpAnyH_ready (rs := [14]) (by kernel_rfl) (by simp) ?_
                  refine AllReadyH.cons rfl (fun K hK => ?_) AllReadyH.nil
                  · simp only [List.getElem_toArray, List.getElem_cons_succ, List.getElem_cons_zero]
                    rw [if_pos (by rfl)]
                    go_simp
                    obtain ⟨k154, hk154⟩ : ∃ X, X = V149.heap.size := ⟨_, rfl⟩
                    have mk154 : M ≤ k154 := by rw [hk154]; exact HV150.out.2.1
                    obtain ⟨V152, hV152⟩ : ∃ X, X = V149.alloc (.cells #[.pointer (some ⟨n151, 0, none⟩)] TNp) := ⟨_, rfl⟩
                    have hNk154 : Hid (∀ j u, [Value.pointer (some ⟨n151, 0, none⟩)][j]? = some u → V152.cell? ((⟨k154, 0, none⟩ : Addr).add j) = some u) := Lib.hid (by rw [hV152, hk154]; exact news_p V149 _)
                    have bb : Below V149.heap.size V149 V152 := by rw [hV152]; exact (Below.refl _ _).alloc (Nat.le_refl _) _
                    rw [← hV152]
                    try rw [← hk154]
                    have HV153 := Lib.hid (And.intro (HV150.out.1.below bb) (And.intro (Nat.le_trans HV150.out.2.1 bb.size) (And.intro (kp bb HV150.out.2.2.1) (And.intro (kp bb HV150.out.2.2.2.1) (And.intro (kp bb HV150.out.2.2.2.2.1) trivial)))))
                    clear bb
                    clear hV152 hk154
                    refine hK.out _ _ HV153.out.1.cf (fun hHeld => ?_)
                    clear hK K
                    try simp only [Act.put, List.getElem_toArray, List.getElem_cons_succ, List.getElem_cons_zero, List.setIfInBounds_toArray, List.set_cons_zero, List.set_cons_succ]
                    refine wpAnyH_ready (rs := [15]) (by kernel_rfl) (by simp) ?_
                    refine AllReadyH.cons rfl (fun K hK => ?_) AllReadyH.nil
                    simp only [List.getElem_toArray, List.getElem_cons_succ, List.getElem_cons_zero]
                    rw [if_pos (by rfl)]
                    (refine wp_append_keep _ _ _ _ (by rfl) (w.heap.size + 1) TNp i0 _ 1 8 Tryz.underlying68 hi hz0 hz1 hz2 rfl (by decide) z1 k _ (by rfl) HV153.out.1.al.r1 ⟨k154, 0, none⟩ 1 1 [.pointer (some ⟨n151, 0, none⟩)] (by rfl) rfl hNk154.out (ones_p _) (by decide) (by have := HKb.out; unfold maxLen; omega) (by have := HKb.out; omega) (by have := HV153.out.2.1; have := HMb.out; omega) V152.heap.size rfl ?_; intro g2 cap2 w3 hown2 hg2 hat2 hold2; obtain ⟨hC3, hS3, hN3⟩ := NW.push1 (Hs := 0) HV153.out.1 HU.out (NumN.mk HV153.out.2.2.2.2.1 HV153.out.2.2.1 HV153.out.2.2.2.1) ⟨mn151, mg148, mb145⟩ HMb.out hat2 hown2 hg2; have HP := Lib.hid (And.intro hN3 hS3); clear hown2 hg2 hat2 hold2 hN3 hS3)
                    refine hK.out _ _ hC3 (fun hHeld => ?_)
                    clear hK K
                    try simp only [Act.put, List.setIfInBounds_toArray, List.set_cons_zero, List.set_cons_succ]
                    refine wpAnyH_take (i := 18) (oi := _) (v := ?_) rfl (by kernel_rfl) (by kernel_rfl) (by kernel_rfl) (fun _ _ _ h => h) (Or.inl ⟨by rfl, ?_⟩) (by assumption) ?_
                    rotate_left
                    · (intro W hSw; (try dsimp only at hSw); go_simp; try with_reducible rfl)
                    try simp only [Act.put, List.getElem_toArray, List.getElem_cons_succ, List.getElem_cons_zero, List.setIfInBounds_toArray, List.set_cons_zero, List.set_cons_succ]
                    have qs := cell_of_row w3 S 3 _ _ (0, 0) HP.out.2
                    have fs : w3.frozen? ⟨S, 3, none⟩ = false := by have := HP.out.2; simp [World.frozen?, this]
                    refine wpAnyH_ready (rs := [19]) (by kernel_rfl) (by simp) ?_
                    refine AllReadyH.cons rfl (fun K hK => ?_) AllReadyH.nil
                    simp only [List.getElem_toArray, List.getElem_cons_succ, List.getElem_cons_zero]
                    rw [if_pos (by rfl)]
                    go_simp
                    refine hK.out _ _ HP.out.1.cf (fun hHeld => ?_)
                    clear hK K
                    try simp only [Act.put, List.getElem_toArray, List.getElem_cons_succ, List.getElem_cons_zero, List.setIfInBounds_toArray, List.set_cons_zero, List.set_cons_succ]
                    refine wpAnyH_done (by kernel_rfl) ?_ _
                    have hR : ∃ b z0 z1, NW w (w3.setCell ⟨S, 3, none⟩ (.slice (some ⟨g2, 0, none⟩) (k + 1) cap2)) ⟨S, A, b⟩ A (k + 1) c z0 z1 := ⟨_, _, _, HP.out.1⟩
                    have HR := Lib.hid hR
                    clear hR qs fs
                    go_wp2
                    go_roundw
                    case rel => exact ⟨k + 1, by go_num, hkA, HR.out⟩
                    case measure => simp [intOf]; omega
            · simp only [List.getElem_toArray, List.getElem_cons_succ, List.getElem_cons_zero]
              rw [if_pos (by rfl)]
              go_simp
              refine (gnew _).mono ?_
              rintro _ V155 ⟨rfl, hg, bb⟩
              obtain ⟨g157, hg157⟩ : ∃ X, X = V143.heap.size := ⟨_, rfl⟩
              have mg157 : M ≤ g157 := by rw [hg157]; exact HV144.out.2.1
              rw [← hg157] at hg ⊢
              have HV156 := Lib.hid (And.intro (HV144.out.1.below bb) (And.intro (Nat.le_trans HV144.out.2.1 bb.size) (And.intro hg (And.intro (kp bb HV144.out.2.2.2.1) (And.intro trivial trivial)))))
              clear bb hg
              clear hg157
              go_wp2_with fail
              refine hK.out _ _ HV156.out.1.cf (fun hHeld => ?_)
              clear hK K
              try simp only [Act.put, List.getElem_toArray, List.getElem_cons_succ, List.getElem_cons_zero, List.setIfInBounds_toArray, List.set_cons_zero, List.set_cons_succ]
              refine wpAnyH_take (i := 12) (oi := _) (v := ?_) rfl (by kernel_rfl) (by kernel_rfl) (by kernel_rfl) (fun _ _ _ h => h) (Or.inl ⟨by rfl, ?_⟩) (by assumption) ?_
              rotate_left
              · (intro W hSw; (try dsimp only at hSw); go_simp; try with_reducible rfl)
              try simp only [Act.put, List.getElem_toArray, List.getElem_cons_succ, List.getElem_cons_zero, List.setIfInBounds_toArray, List.set_cons_zero, List.set_cons_succ]
              refine wpAnyH_ready (rs := [7, 13]) (by kernel_rfl) (by simp) ?_
              refine AllReadyH.cons rfl (fun K hK => ?_) (AllReadyH.cons rfl (fun K hK => ?_) AllReadyH.nil)
              · simp only [List.getElem_toArray, List.getElem_cons_succ, List.getElem_cons_zero]
                rw [if_pos (by rfl)]
                have q := cell_of_row V155 S 3 _ _ (0, 0) HV156.out.1.a
                go_simp
                clear q
                refine hK.out _ _ HV156.out.1.cf (fun hHeld => ?_)
                clear hK K
                try simp only [Act.put, List.getElem_toArray, List.getElem_cons_succ, List.getElem_cons_zero, List.setIfInBounds_toArray, List.set_cons_zero, List.set_cons_succ]
                refine wpAnyH_ready (rs := [13]) (by kernel_rfl) (by simp) ?_
                refine AllReadyH.cons rfl (fun K hK => ?_) AllReadyH.nil
                · simp only [List.getElem_toArray, List.getElem_cons_succ, List.getElem_cons_zero]
                  rw [if_pos (by rfl)]
                  go_simp
                  obtain ⟨n160, hn160⟩ : ∃ X, X = V155.heap.size := ⟨_, rfl⟩
                  have mn160 : M ≤ n160 := by rw [hn160]; exact HV156.out.2.1
                  obtain ⟨V158, hV158⟩ : ∃ X, X = V155.alloc (.cells #[.int .u64 0, .int .u64 c.f11, .pointer (some ⟨g157, 0, none⟩), .map (some b145)] TNm) := ⟨_, rfl⟩
                  have hg : V158.heap[n160]? = some (.cells #[.int .u64 0, .int .u64 c.f11, .pointer (some ⟨g157, 0, none⟩), .map (some b145)] TNm (0, 0)) := by rw [hV158, hn160]; exact heap_alloc_new V155 _
                  have bb : Below V155.heap.size V155 V158 := by rw [hV158]; exact (Below.refl _ _).alloc (Nat.le_refl _) _
                  rw [← hV158]
                  try rw [← hn160]
                  have HV159 := Lib.hid (And.intro (HV156.out.1.below bb) (And.intro (Nat.le_trans HV156.out.2.1 bb.size) (And.intro (kp bb HV156.out.2.2.1) (And.intro (kp bb HV156.out.2.2.2.1) (And.intro hg trivial)))))
                  clear bb hg
                  clear hV158 hn160
                  refine hK.out _ _ HV159.out.1.cf (fun hHeld => ?_)
                  clear hK K
                  try simp only [Act.put, List.getElem_toArray, List.getElem_cons_succ, List.getElem_cons_zero, List.setIfInBounds_toArray, List.set_cons_zero, List.set_cons_succ]
                  refine wpAnyH_ready (rs := [14]) (by kernel_rfl) (by simp) ?_
                  refine AllReadyH.cons rfl (fun K hK => ?_) AllReadyH.nil
                  · simp only [List.getElem_toArray, List.getElem_cons_succ, List.getElem_cons_zero]
                    rw [if_pos (by rfl)]
                    go_simp
                    obtain ⟨k163, hk163⟩ : ∃ X, X = V158.heap.size := ⟨_, rfl⟩
                    have mk163 : M ≤ k163 := by rw [hk163]; exact HV159.out.2.1
                    obtain ⟨V161, hV161⟩ : ∃ X, X = V158.alloc (.cells #[.pointer (some ⟨n160, 0, none⟩)] TNp) := ⟨_, rfl⟩
                    have hNk163 : Hid (∀ j u, [Value.pointer (some ⟨n160, 0, none⟩)][j]? = some u → V161.cell? ((⟨k163, 0, none⟩ : Addr).add j) = some u) := Lib.hid (by rw [hV161, hk163]; exact news_p V158 _)
                    have bb : Below V158.heap.size V158 V161 := by rw [hV161]; exact (Below.refl _ _).alloc (Nat.le_refl _) _
                    rw [← hV161]
                    try rw [← hk163]
                    have HV162 := Lib.hid (And.intro (HV159.out.1.below bb) (And.intro (Nat.le_trans HV159.out.2.1 bb.size) (And.intro (kp bb HV159.out.2.2.1) (And.intro (kp bb HV159.out.2.2.2.1) (And.intro (kp bb HV159.out.2.2.2.2.1) trivial)))))
                    clear bb
                    clear hV161 hk163
                    refine hK.out _ _ HV162.out.1.cf (fun hHeld => ?_)
                    clear hK K
                    try simp only [Act.put, List.getElem_toArray, List.getElem_cons_succ, List.getElem_cons_zero, List.setIfInBounds_toArray, List.set_cons_zero, List.set_cons_succ]
                    refine wpAnyH_ready (rs := [15]) (by kernel_rfl) (by simp) ?_
                    refine AllReadyH.cons rfl (fun K hK => ?_) AllReadyH.nil
                    simp only [List.getElem_toArray, List.getElem_cons_succ, List.getElem_cons_zero]
                    rw [if_pos (by rfl)]
                    (refine wp_append_keep _ _ _ _ (by rfl) (w.heap.size + 1) TNp i0 _ 1 8 Tryz.underlying68 hi hz0 hz1 hz2 rfl (by decide) z1 k _ (by rfl) HV162.out.1.al.r1 ⟨k163, 0, none⟩ 1 1 [.pointer (some ⟨n160, 0, none⟩)] (by rfl) rfl hNk163.out (ones_p _) (by decide) (by have := HKb.out; unfold maxLen; omega) (by have := HKb.out; omega) (by have := HV162.out.2.1; have := HMb.out; omega) V161.heap.size rfl ?_; intro g2 cap2 w3 hown2 hg2 hat2 hold2; obtain ⟨hC3, hS3, hN3⟩ := NW.push1 (Hs := 0) HV162.out.1 HU.out (NumN.mk HV162.out.2.2.2.2.1 HV162.out.2.2.1 HV162.out.2.2.2.1) ⟨mn160, mg157, mb145⟩ HMb.out hat2 hown2 hg2; have HP := Lib.hid (And.intro hN3 hS3); clear hown2 hg2 hat2 hold2 hN3 hS3)
                    refine hK.out _ _ hC3 (fun hHeld => ?_)
                    clear hK K
                    try simp only [Act.put, List.setIfInBounds_toArray, List.set_cons_zero, List.set_cons_succ]
                    refine wpAnyH_take (i := 18) (oi := _) (v := ?_) rfl (by kernel_rfl) (by kernel_rfl) (by kernel_rfl) (fun _ _ _ h => h) (Or.inl ⟨by rfl, ?_⟩) (by assumption) ?_
                    rotate_left
                    · (intro W hSw; (try dsimp only at hSw); go_simp; try with_reducible rfl)
                    try simp only [Act.put, List.getElem_toArray, List.getElem_cons_succ, List.getElem_cons_zero, List.setIfInBounds_toArray, List.set_cons_zero, List.set_cons_succ]
                    have qs := cell_of_row w3 S 3 _ _ (0, 0) HP.out.2
                    have fs : w3.frozen? ⟨S, 3, none⟩ = false := by have := HP.out.2; simp [World.frozen?, this]
                    refine wpAnyH_ready (rs := [19]) (by kernel_rfl) (by simp) ?_
                    refine AllReadyH.cons rfl (fun K hK => ?_) AllReadyH.nil
                    simp only [List.getElem_toArray, List.getElem_cons_succ, List.getElem_cons_zero]
                    rw [if_pos (by rfl)]
                    go_simp
                    refine hK.out _ _ HP.out.1.cf (fun hHeld => ?_)
                    clear hK K
                    try simp only [Act.put, List.getElem_toArray, List.getElem_cons_succ, List.getElem_cons_zero, List.setIfInBounds_toArray, List.set_cons_zero, List.set_cons_succ]
                    refine wpAnyH_done (by kernel_rfl) ?_ _
                    have hR : ∃ b z0 z1, NW w (w3.setCell ⟨S, 3, none⟩ (.slice (some ⟨g2, 0, none⟩) (k + 1) cap2)) ⟨S, A, b⟩ A (k + 1) c z0 z1 := ⟨_, _, _, HP.out.1⟩
                    have HR := Lib.hid hR
                    clear hR qs fs
                    go_wp2
                    go_roundw
                    case rel => exact ⟨k + 1, by go_num, hkA, HR.out⟩
                    case measure => simp [intOf]; omega
              · simp only [List.getElem_toArray, List.getElem_cons_succ, List.getElem_cons_zero]
                rw [if_pos (by rfl)]
                go_simp
                obtain ⟨n166, hn166⟩ : ∃ X, X = V155.heap.size := ⟨_, rfl⟩
                have mn166 : M ≤ n166 := by rw [hn166]; exact HV156.out.2.1
                obtain ⟨V164, hV164⟩ : ∃ X, X = V155.alloc (.cells #[.int .u64 0, .int .u64 c.f11, .pointer (some ⟨g157, 0, none⟩), .map (some b145)] TNm) := ⟨_, rfl⟩
                have hg : V164.heap[n166]? = some (.cells #[.int .u64 0, .int .u64 c.f11, .pointer (some ⟨g157, 0, none⟩), .map (some b145)] TNm (0, 0)) := by rw [hV164, hn166]; exact heap_alloc_new V155 _
                have bb : Below V155.heap.size V155 V164 := by rw [hV164]; exact (Below.refl _ _).alloc (Nat.le_refl _) _
                rw [← hV164]
                try rw [← hn166]
                have HV165 := Lib.hid (And.intro (HV156.out.1.below bb) (And.intro (Nat.le_trans HV156.out.2.1 bb.size) (And.intro (kp bb HV156.out.2.2.1) (And.intro (kp bb HV156.out.2.2.2.1) (And.intro hg trivial)))))
                clear bb hg
                clear hV164 hn166
                refine hK.out _ _ HV165.out.1.cf (fun hHeld => ?_)
                clear hK K
                try simp only [Act.put, List.getElem_toArray, List.getElem_cons_succ, List.getElem_cons_zero, List.setIfInBounds_toArray, List.set_cons_zero, List.set_cons_succ]
                refine wpAnyH_ready (rs := [7, 14]) (by kernel_rfl) (by simp) ?_
                refine AllReadyH.cons rfl (fun K hK => ?_) (AllReadyH.cons rfl (fun K hK => ?_) AllReadyH.nil)
                · simp only [List.getElem_toArray, List.getElem_cons_succ, List.getElem_cons_zero]
                  rw [if_pos (by rfl)]
                  have q := cell_of_row V164 S 3 _ _ (0, 0) HV165.out.1.a
                  go_simp
                  clear q
                  refine hK.out _ _ HV165.out.1.cf (fun hHeld => ?_)
                  clear hK K
                  try simp only [Act.put, List.getElem_toArray, List.getElem_cons_succ, List.getElem_cons_zero, List.setIfInBounds_toArray, List.set_cons_zero, List.set_cons_succ]
                  refine wpAnyH_ready (rs := [14]) (by kernel_rfl) (by simp) ?_
                  refine AllReadyH.cons rfl (fun K hK => ?_) AllReadyH.nil
                  · simp only [List.getElem_toArray, List.getElem_cons_succ, List.getElem_cons_zero]
                    rw [if_pos (by rfl)]
                    go_simp
                    obtain ⟨k169, hk169⟩ : ∃ X, X = V164.heap.size := ⟨_, rfl⟩
                    have mk169 : M ≤ k169 := by rw [hk169]; exact HV165.out.2.1
                    obtain ⟨V167, hV167⟩ : ∃ X, X = V164.alloc (.cells #[.pointer (some ⟨n166, 0, none⟩)] TNp) := ⟨_, rfl⟩
                    have hNk169 : Hid (∀ j u, [Value.pointer (some ⟨n166, 0, none⟩)][j]? = some u → V167.cell? ((⟨k169, 0, none⟩ : Addr).add j) = some u) := Lib.hid (by rw [hV167, hk169]; exact news_p V164 _)
                    have bb : Below V164.heap.size V164 V167 := by rw [hV167]; exact (Below.refl _ _).alloc (Nat.le_refl _) _
                    rw [← hV167]
                    try rw [← hk169]
                    have HV168 := Lib.hid (And.intro (HV165.out.1.below bb) (And.intro (Nat.le_trans HV165.out.2.1 bb.size) (And.intro (kp bb HV165.out.2.2.1) (And.intro (kp bb HV165.out.2.2.2.1) (And.intro (kp bb HV165.out.2.2.2.2.1) trivial)))))
                    clear bb
                    clear hV167 hk169
                    refine hK.out _ _ HV168.out.1.cf (fun hHeld => ?_)
                    clear hK K
                    try simp only [Act.put, List.getElem_toArray, List.getElem_cons_succ, List.getElem_cons_zero, List.setIfInBounds_toArray, List.set_cons_zero, List.set_cons_succ]
                    refine wpAnyH_ready (rs := [15]) (by kernel_rfl) (by simp) ?_
                    refine AllReadyH.cons rfl (fun K hK => ?_) AllReadyH.nil
                    simp only [List.getElem_toArray, List.getElem_cons_succ, List.getElem_cons_zero]
                    rw [if_pos (by rfl)]
                    (refine wp_append_keep _ _ _ _ (by rfl) (w.heap.size + 1) TNp i0 _ 1 8 Tryz.underlying68 hi hz0 hz1 hz2 rfl (by decide) z1 k _ (by rfl) HV168.out.1.al.r1 ⟨k169, 0, none⟩ 1 1 [.pointer (some ⟨n166, 0, none⟩)] (by rfl) rfl hNk169.out (ones_p _) (by decide) (by have := HKb.out; unfold maxLen; omega) (by have := HKb.out; omega) (by have := HV168.out.2.1; have := HMb.out; omega) V167.heap.size rfl ?_; intro g2 cap2 w3 hown2 hg2 hat2 hold2; obtain ⟨hC3, hS3, hN3⟩ := NW.push1 (Hs := 0) HV168.out.1 HU.out (NumN.mk HV168.out.2.2.2.2.1 HV168.out.2.2.1 HV168.out.2.2.2.1) ⟨mn166, mg157, mb145⟩ HMb.out hat2 hown2 hg2; have HP := Lib.hid (And.intro hN3 hS3); clear hown2 hg2 hat2 hold2 hN3 hS3)
                    refine hK.out _ _ hC3 (fun hHeld => ?_)
                    clear hK K
                    try simp only [Act.put, List.setIfInBounds_toArray, List.set_cons_zero, List.set_cons_succ]
                    refine wpAnyH_take (i := 18) (oi := _) (v := ?_) rfl (by kernel_rfl) (by kernel_rfl) (by kernel_rfl) (fun _ _ _ h => h) (Or.inl ⟨by rfl, ?_⟩) (by assumption) ?_
                    rotate_left
                    · (intro W hSw; (try dsimp only at hSw); go_simp; try with_reducible rfl)
                    try simp only [Act.put, List.getElem_toArray, List.getElem_cons_succ, List.getElem_cons_zero, List.setIfInBounds_toArray, List.set_cons_zero, List.set_cons_succ]
                    have qs := cell_of_row w3 S 3 _ _ (0, 0) HP.out.2
                    have fs : w3.frozen? ⟨S, 3, none⟩ = false := by have := HP.out.2; simp [World.frozen?, this]
                    refine wpAnyH_ready (rs := [19]) (by kernel_rfl) (by simp) ?_
                    refine AllReadyH.cons rfl (fun K hK => ?_) AllReadyH.nil
                    simp only [List.getElem_toArray, List.getElem_cons_succ, List.getElem_cons_zero]
                    rw [if_pos (by rfl)]
                    go_simp
                    refine hK.out _ _ HP.out.1.cf (fun hHeld => ?_)
                    clear hK K
                    try simp only [Act.put, List.getElem_toArray, List.getElem_cons_succ, List.getElem_cons_zero, List.setIfInBounds_toArray, List.set_cons_zero, List.set_cons_succ]
                    refine wpAnyH_done (by kernel_rfl) ?_ _
                    have hR : ∃ b z0 z1, NW w (w3.setCell ⟨S, 3, none⟩ (.slice (some ⟨g2, 0, none⟩) (k + 1) cap2)) ⟨S, A, b⟩ A (k + 1) c z0 z1 := ⟨_, _, _, HP.out.1⟩
                    have HR := Lib.hid hR
                    clear hR qs fs
                    go_wp2
                    go_roundw
                    case rel => exact ⟨k + 1, by go_num, hkA, HR.out⟩
                    case measure => simp [intOf]; omega
                · simp only [List.getElem_toArray, List.getElem_cons_succ, List.getElem_cons_zero]
                  rw [if_pos (by rfl)]
                  go_simp
                  obtain ⟨k172, hk172⟩ : ∃ X, X = V164.heap.size := ⟨_, rfl⟩
                  have mk172 : M ≤ k172 := by rw [hk172]; exact HV165.out.2.1
                  obtain ⟨V170, hV170⟩ : ∃ X, X = V164.alloc (.cells #[.pointer (some ⟨n166, 0, none⟩)] TNp) := ⟨_, rfl⟩
                  have hNk172 : Hid (∀ j u, [Value.pointer (some ⟨n166, 0, none⟩)][j]? = some u → V170.cell? ((⟨k172, 0, none⟩ : Addr).add j) = some u) := Lib.hid (by rw [hV170, hk172]; exact news_p V164 _)
                  have bb : Below V164.heap.size V164 V170 := by rw [hV170]; exact (Below.refl _ _).alloc (Nat.le_refl _) _
                  rw [← hV170]
                  try rw [← hk172]
                  have HV171 := Lib.hid (And.intro (HV165.out.1.below bb) (And.intro (Nat.le_trans HV165.out.2.1 bb.size) (And.intro (kp bb HV165.out.2.2.1) (And.intro (kp bb HV165.out.2.2.2.1) (And.intro (kp bb HV165.out.2.2.2.2.1) trivial)))))
                  clear bb
                  clear hV170 hk172
                  refine hK.out _ _ HV171.out.1.cf (fun hHeld => ?_)
                  clear hK K
                  try simp only [Act.put, List.getElem_toArray, List.getElem_cons_succ, List.getElem_cons_zero, List.setIfInBounds_toArray, List.set_cons_zero, List.set_cons_succ]
                  refine wpAnyH_ready (rs := [7]) (by kernel_rfl) (by simp) ?_
                  refine AllReadyH.cons rfl (fun K hK => ?_) AllReadyH.nil
                  · simp only [List.getElem_toArray, List.getElem_cons_succ, List.getElem_cons_zero]
                    rw [if_pos (by rfl)]
                    have q := cell_of_row V170 S 3 _ _ (0, 0) HV171.out.1.a
                    go_simp
                    clear q
                    refine hK.out _ _ HV171.out.1.cf (fun hHeld => ?_)
                    clear hK K
                    try simp only [Act.put, List.getElem_toArray, List.getElem_cons_succ, List.getElem_cons_zero, List.setIfInBounds_toArray, List.set_cons_zero, List.set_cons_succ]
                    refine wpAnyH_ready (rs := [15]) (by kernel_rfl) (by simp) ?_
                    refine AllReadyH.cons rfl (fun K hK => ?_) AllReadyH.nil
                    simp only [List.getElem_toArray, List.getElem_cons_succ, List.getElem_cons_zero]
                    rw [if_pos (by rfl)]
                    (refine wp_append_keep _ _ _ _ (by rfl) (w.heap.size + 1) TNp i0 _ 1 8 Tryz.underlying68 hi hz0 hz1 hz2 rfl (by decide) z1 k _ (by rfl) HV171.out.1.al.r1 ⟨k172, 0, none⟩ 1 1 [.pointer (some ⟨n166, 0, none⟩)] (by rfl) rfl hNk172.out (ones_p _) (by decide) (by have := HKb.out; unfold maxLen; omega) (by have := HKb.out; omega) (by have := HV171.out.2.1; have := HMb.out; omega) V170.heap.size rfl ?_; intro g2 cap2 w3 hown2 hg2 hat2 hold2; obtain ⟨hC3, hS3, hN3⟩ := NW.push1 (Hs := 0) HV171.out.1 HU.out (NumN.mk HV171.out.2.2.2.2.1 HV171.out.2.2.1 HV171.out.2.2.2.1) ⟨mn166, mg157, mb145⟩ HMb.out hat2 hown2 hg2; have HP := Lib.hid (And.intro hN3 hS3); clear hown2 hg2 hat2 hold2 hN3 hS3)
                    refine hK.out _ _ hC3 (fun hHeld => ?_)
                    clear hK K
                    try simp only [Act.put, List.setIfInBounds_toArray, List.set_cons_zero, List.set_cons_succ]
                    refine wpAnyH_take (i := 18) (oi := _) (v := ?_) rfl (by kernel_rfl) (by kernel_rfl) (by kernel_rfl) (fun _ _ _ h => h) (Or.inl ⟨by rfl, ?_⟩) (by assumption) ?_
                    rotate_left
                    · (intro W hSw; (try dsimp only at hSw); go_simp; try with_reducible rfl)
                    try simp only [Act.put, List.getElem_toArray, List.getElem_cons_succ, List.getElem_cons_zero, List.setIfInBounds_toArray, List.set_cons_zero, List.set_cons_succ]
                    have qs := cell_of_row w3 S 3 _ _ (0, 0) HP.out.2
                    have fs : w3.frozen? ⟨S, 3, none⟩ = false := by have := HP.out.2; simp [World.frozen?, this]
                    refine wpAnyH_ready (rs := [19]) (by kernel_rfl) (by simp) ?_
                    refine AllReadyH.cons rfl (fun K hK => ?_) AllReadyH.nil
                    simp only [List.getElem_toArray, List.getElem_cons_succ, List.getElem_cons_zero]
                    rw [if_pos (by rfl)]
                    go_simp
                    refine hK.out _ _ HP.out.1.cf (fun hHeld => ?_)
                    clear hK K
                    try simp only [Act.put, List.getElem_toArray, List.getElem_cons_succ, List.getElem_cons_zero, List.setIfInBounds_toArray, List.set_cons_zero, List.set_cons_succ]
                    refine wpAnyH_done (by kernel_rfl) ?_ _
                    have hR : ∃ b z0 z1, NW w (w3.setCell ⟨S, 3, none⟩ (.slice (some ⟨g2, 0, none⟩) (k + 1) cap2)) ⟨S, A, b⟩ A (k + 1) c z0 z1 := ⟨_, _, _, HP.out.1⟩
                    have HR := Lib.hid hR
                    clear hR qs fs
                    go_wp2
                    go_roundw
                    case rel => exact ⟨k + 1, by go_num, hkA, HR.out⟩
                    case measure => simp [intOf]; omega
        · obtain rfl : A = k := by omega
          have d1 : decide ((A : Int) < (A : Int)) = false := decide_eq_false (by omega)
          have H4 := Lib.hid hN
          clear hN
          go_wp2_with fail
          rw [rounds_succ]
          go_wp2
          refine bodyPost_ret (v := .tuple #[.pointer (some ⟨S, 0, none⟩), .int .i64 0]) (by simp [results, Tryz.results11, go_sem]) rfl ?_
          exact ⟨S, _, _, _, rfl, H4.out⟩
set_option maxRecDepth 20000 in
theorem anew_bad (c : Cfg) (cd : Int) (hc : code c 11 0 = cd) (h0 : cd ≠ 0) (w : World) :
    Calls Tryz.prog 11 #[.agg c.cells] w fun e w' => e = .returned (.tuple #[.pointer none, .int .i64 cd]) ∧ Below w.heap.size w w' := by
  have HCk := Lib.hid (fun V => check_any c V)
  rw [hc] at HCk
  have h0' := heap_alloc_new w (.cells (ccells c) TCf)
  obtain ⟨w0, hw0⟩ : ∃ X, X = w.alloc (.cells (ccells c) TCf) := ⟨_, rfl⟩
  have hb0 : Below w.heap.size w w0 := by rw [hw0]; exact (Below.refl _ _).alloc (Nat.le_refl _) _
  rw [← hw0] at h0'
  have HB0 := Lib.hid hb0
  have hne : (cd != 0) = true := by simpa using h0
  have q := fun i => cell_of_row w0 w.heap.size i _ _ (0, 0) h0'
  have q0 := q 0; have q1 := q 1; have q2 := q 2; have q3 := q 3; have q4 := q 4; have q5 := q 5; have q6 := q 6; have q7 := q 7; have q8 := q 8; have q9 := q 9; have q10 := q 10; have q11 := q 11
  clear q h0' hb0 h0 hc
  generalize wrong c 11 0 = wd at HCk
  unfold Cfg.cells at HCk ⊢
  go_enter Tryz.func11, Tryz.ntmps11
  go_upto_region 1 with fail
  rw [← hw0]
  clear hw0
  go_wp2_with fail
  refine (HCk.out _).mono ?_
  rintro _ w1 ⟨rfl, b1⟩
  have HB1 := Lib.hid (HB0.out.trans (b1.mono HB0.out.size))
  clear b1 HCk q0 q1 q2 q3 q4 q5 q6 q7 q8 q9 q10 q11
  go_wp2
  refine bodyPost_ret (v := .tuple #[.pointer none, .int .i64 cd]) (by simp [results, Tryz.results11, go_sem]) rfl ?_
  exact ⟨rfl, HB1.out⟩
end Go.Proofs.YtpkkomifenlkaaaGreat.Au
