import Derived.Test.YtlpnecmcncekcaaGreatShard0
import Derived.Deep.RegionHeld3
import Derived.WalkKit
import Derived.WalkMore
import Derived.Deep.Cut
import Derived.BigQuiet
import Derived.Deep.QuietTactic
/- A shard's Insert. -/
namespace Go.Proofs.YtlpnecmcncekcaaGreat.Mk
open Go Go.RowKit Go.MuLone

/-- what Insert tells, and leaves -/
def insR (room : Int) (l : List Ms) (k : K3) : Int := if (at? k l 0).isSome then 7 else if room ≤ (l.length : Int) then 6 else 0
def insL (room : Int) (l : List Ms) (clock : Nat) (k : K3) : List Ms × Nat := if insR room l k = 0 then putM k ⟨k, 1, 0⟩ l clock else (l, clock)
set_option maxRecDepth 20000 in
set_option maxHeartbeats 2000000 in
theorem sins_any (S B : Nat) (room : Int) (l : List Ms) (clock : Nat) (k : K3) (W : World) (h : ShIs W S B room l clock 0) :
    Calls Tryz.prog 33 #[.pointer (some ⟨S, 0, none⟩), k.val] W fun e w' => e = .returned (.int .i64 (insR room l k)) ∧ ShIs w' S B room (insL room l clock k).1 (insL room l clock k).2 0 ∧ Only2 S B W w' := by
  obtain ⟨e, b, hb, hlk⟩ := look_any k B l clock
  have hpr := fun V hV => put_run k ⟨k, 1, 0⟩ B l clock V hV
  have hRd : insR room l k = if b then 7 else if room ≤ (l.length : Int) then 6 else 0 := by rw [hb]; rfl
  have hLd : insL room l clock k = if insR room l k = 0 then putM k ⟨k, 1, 0⟩ l clock else (l, clock) := rfl
  generalize insR room l k = r at hRd hLd ⊢
  generalize insL room l clock k = L at hLd ⊢
  generalize putM k ⟨k, 1, 0⟩ l clock = PL at hLd hpr
  have HRd := Lib.hid (And.intro hRd hLd)
  clear hRd hLd hb
  obtain ⟨kc, kf, ks⟩ := k
  unfold K3.val En.val En.cells at hpr
  unfold K3.val En.cells at hlk
  have HLk := Lib.hid hlk
  have HPr := Lib.hid hpr
  have HLn := Lib.hid (fun V h => len_run B l clock 3 V h)
  clear hlk hpr
  have hS := h.ltS
  have hB := h.ltB
  obtain ⟨W0, hW0⟩ : ∃ X, X = W.alloc (.cells #[.int .i64 kc, .int .i64 kf, .int .u64 ks] 41) := ⟨_, rfl⟩
  have hK : W0.heap[W.heap.size]? = some (.cells #[.int .i64 kc, .int .i64 kf, .int .u64 ks] 41 (0, 0)) := by rw [hW0]; exact heap_alloc_new _ _
  have h0 : ShIs W0 S B room l clock 0 := by rw [hW0]; exact h.new _
  have hO : Only2 S B W W0 := by rw [hW0]; exact (Only2.refl S B W).alloc _
  obtain ⟨c0, -, -, f0⟩ := h0.cells
  unfold K3.val
  go_enter_defers Tryz.func33, Tryz.ntmps33
  go_upto_region 3 with fail
  rw [← hW0]
  clear hW0
  go_wp2_with fail
  refine (lock_free muLib ⟨S, 0, none⟩ _ c0 f0).mono ?_
  rintro _ w1 ⟨rfl, hw⟩
  have h1 : ShIs w1 S B room l clock 1 := by rw [hw]; exact h0.lock 1
  have hK1 : w1.heap[W.heap.size]? = some (.cells #[.int .i64 kc, .int .i64 kf, .int .u64 ks] 41 (0, 0)) := by rw [hw]; exact (Below.heap_setCell _ _ _ _ (fun e => by have : W.heap.size = S := e; omega)).trans hK
  have hO1 : Only2 S B W w1 := by rw [hw]; exact hO.setS 0 _
  have H1 := Lib.hid h1
  have HK1 := Lib.hid hK1
  have HO1 := Lib.hid hO1
  have HO0 := Lib.hid (And.intro hS hB)
  clear hw h0 hK hO c0 f0 h1 hK1 hO1 h hS hB W0
  go_upto_region 5 with fail
  refine Code.wp_mono (noP_le _) ?_
  refine wp_region_held_drew (S := (fun V => ShIs V S B room l clock 1 ∧ V.heap[W.heap.size]? = some (.cells #[.int .i64 kc, .int .i64 kf, .int .u64 ks] 41 (0, 0)))) (by kernel_rfl) ⟨⟨H1.out.box, H1.out.map⟩, HK1.out⟩ (fun hHeld => ?_)
  refine wpAnyH_take (i := 0) (oi := _) (v := ?_) rfl (by kernel_rfl) (by kernel_rfl) (by kernel_rfl) (fun _ _ _ h => h) (Or.inl ⟨by rfl, ?_⟩) (by assumption) ?_
  rotate_left
  · (intro W hSw; (try dsimp only at hSw); go_simp; try with_reducible rfl)
  try simp only [Act.put, List.getElem_toArray, List.getElem_cons_zero, List.setIfInBounds_toArray, List.set_cons_zero, List.set_cons_succ]
  refine wpAnyH_take (i := 1) (oi := _) (v := ?_) rfl (by kernel_rfl) (by kernel_rfl) (by kernel_rfl) (fun _ _ _ h => h) (Or.inl ⟨by rfl, ?_⟩) (by assumption) ?_
  rotate_left
  · (intro W hSw; (try dsimp only at hSw); go_simp; try with_reducible rfl)
  try simp only [Act.put, List.getElem_toArray, List.getElem_cons_succ, List.getElem_cons_zero, List.setIfInBounds_toArray, List.set_cons_zero, List.set_cons_succ]
  refine wpAnyH_take (i := 2) (oi := _) (v := ?_) rfl (by kernel_rfl) (by kernel_rfl) (by kernel_rfl) (fun _ _ _ h => h) (Or.inl ⟨by rfl, ?_⟩) (by assumption) ?_
  rotate_left
  · (intro W hSw; (try dsimp only at hSw); go_simp; try with_reducible rfl)
  try simp only [Act.put, List.getElem_toArray, List.getElem_cons_succ, List.getElem_cons_zero, List.setIfInBounds_toArray, List.set_cons_zero, List.set_cons_succ]
  refine wpAnyH_take (i := 3) (oi := _) (v := ?_) rfl (by kernel_rfl) (by kernel_rfl) (by kernel_rfl) (fun _ _ _ h => h) (Or.inl ⟨by rfl, ?_⟩) (by assumption) ?_
  rotate_left
  · (intro V hSw; have hq := (hSw.1.cells).2.2.1; clear hSw; go_simp; try with_reducible rfl)
  try simp only [Act.put, List.getElem_toArray, List.getElem_cons_succ, List.getElem_cons_zero, List.setIfInBounds_toArray, List.set_cons_zero, List.set_cons_succ]
  refine wpAnyH_take (i := 4) (oi := _) (v := ?_) rfl (by kernel_rfl) (by kernel_rfl) (by kernel_rfl) (fun _ _ _ h => h) (Or.inl ⟨by rfl, ?_⟩) (by assumption) ?_
  rotate_left
  · (intro V hSw; have q0 := cell_of_row V W.heap.size 0 _ _ (0, 0) hSw.2; have q1 := cell_of_row V W.heap.size 1 _ _ (0, 0) hSw.2; have q2 := cell_of_row V W.heap.size 2 _ _ (0, 0) hSw.2; clear hSw; go_simp; try with_reducible rfl)
  try simp only [Act.put, List.getElem_toArray, List.getElem_cons_succ, List.getElem_cons_zero, List.setIfInBounds_toArray, List.set_cons_zero, List.set_cons_succ]
  refine wpAnyH_take (i := 5) (oi := _) (v := ?_) rfl (by kernel_rfl) (by kernel_rfl) (by kernel_rfl) (fun _ _ _ h => h) (Or.inl ⟨by rfl, ?_⟩) (by assumption) ?_
  rotate_left
  · (intro V hSw; have hq := HLk.out V hSw.1.map; clear hSw; go_simp; try with_reducible rfl)
  try simp only [Act.put, List.getElem_toArray, List.getElem_cons_succ, List.getElem_cons_zero, List.setIfInBounds_toArray, List.set_cons_zero, List.set_cons_succ]
  refine wpAnyH_take (i := 6) (oi := _) (v := ?_) rfl (by kernel_rfl) (by kernel_rfl) (by kernel_rfl) (fun _ _ _ h => h) (Or.inl ⟨by rfl, ?_⟩) (by assumption) ?_
  rotate_left
  · (intro W hSw; (try dsimp only at hSw); go_simp; try with_reducible rfl)
  try simp only [Act.put, List.getElem_toArray, List.getElem_cons_succ, List.getElem_cons_zero, List.setIfInBounds_toArray, List.set_cons_zero, List.set_cons_succ]
  refine wpAnyH_take (i := 7) (oi := _) (v := ?_) rfl (by kernel_rfl) (by kernel_rfl) (by kernel_rfl) (fun _ _ _ h => h) (Or.inl ⟨by rfl, ?_⟩) (by assumption) ?_
  rotate_left
  · (intro W hSw; (try dsimp only at hSw); go_simp; try with_reducible rfl)
  try simp only [Act.put, List.getElem_toArray, List.getElem_cons_succ, List.getElem_cons_zero, List.setIfInBounds_toArray, List.set_cons_zero, List.set_cons_succ]
  refine wpAnyH_take (i := 8) (oi := _) (v := ?_) rfl (by kernel_rfl) (by kernel_rfl) (by kernel_rfl) (fun _ _ _ h => h) (Or.inl ⟨by rfl, ?_⟩) (by assumption) ?_
  rotate_left
  · (intro W hSw; (try dsimp only at hSw); go_simp; try with_reducible rfl)
  try simp only [Act.put, List.getElem_toArray, List.getElem_cons_succ, List.getElem_cons_zero, List.setIfInBounds_toArray, List.set_cons_zero, List.set_cons_succ]
  refine wpAnyH_ready (rs := [9]) (by kernel_rfl) (by simp) ?_
  refine AllReadyH.cons rfl (fun K hK => ?_) AllReadyH.nil
  simp only [List.getElem_toArray, List.getElem_cons_succ, List.getElem_cons_zero]
  rw [if_pos (by rfl)]
  go_simp
  refine hK.out _ _ ⟨hHeld.1.new _, (Below.heap_alloc _ _ _ (Array.getElem?_eq_some_iff.1 hHeld.2).1).trans hHeld.2⟩ (fun hHeld => ?_)
  clear hK K
  try simp only [Act.put, List.getElem_toArray, List.getElem_cons_succ, List.getElem_cons_zero, List.setIfInBounds_toArray, List.set_cons_zero, List.set_cons_succ]
  refine wpAnyH_ready (rs := [10]) (by kernel_rfl) (by simp) ?_
  refine AllReadyH.cons rfl (fun K hK => ?_) AllReadyH.nil
  simp only [List.getElem_toArray, List.getElem_cons_succ, List.getElem_cons_zero]
  rw [if_pos (by rfl)]
  go_simp
  refine hK.out _ _ ⟨⟨(H1.out.new _).box, (H1.out.new _).map⟩, (Below.heap_alloc _ _ _ (Array.getElem?_eq_some_iff.1 HK1.out).1).trans HK1.out⟩ (fun hHeld => ?_)
  clear hK K
  try simp only [Act.put, List.getElem_toArray, List.getElem_cons_succ, List.getElem_cons_zero, List.setIfInBounds_toArray, List.set_cons_zero, List.set_cons_succ]
  refine wpAnyH_take (i := 11) (oi := _) (v := ?_) rfl (by kernel_rfl) (by kernel_rfl) (by kernel_rfl) (fun _ _ _ h => h) (Or.inl ⟨by rfl, ?_⟩) (by assumption) ?_
  rotate_left
  · (intro W hSw; (try dsimp only at hSw); go_simp; try with_reducible rfl)
  try simp only [Act.put, List.getElem_toArray, List.getElem_cons_succ, List.getElem_cons_zero, List.setIfInBounds_toArray, List.set_cons_zero, List.set_cons_succ]
  refine wpAnyH_done (by kernel_rfl) ?_ _
  simp only [NoP]
  obtain ⟨w2, hw2⟩ : ∃ X, X = (w1.alloc (.cells #[.int .i64 e.k.c, .int .i64 e.k.f, .int .u64 e.k.s, .int .i64 e.st, .int .i64 e.ow] 54)).drew := ⟨_, rfl⟩
  rw [← hw2]
  have H2 := Lib.hid (show ShIs w2 S B room l clock 1 by rw [hw2]; exact ⟨(H1.out.new _).box, (H1.out.new _).map⟩)
  have HK2 := Lib.hid (show w2.heap[W.heap.size]? = some (.cells #[.int .i64 kc, .int .i64 kf, .int .u64 ks] 41 (0, 0)) by rw [hw2]; exact (Below.heap_alloc _ _ _ (Array.getElem?_eq_some_iff.1 HK1.out).1).trans HK1.out)
  have HE2 := Lib.hid (show w2.heap[w1.heap.size]? = some (.cells #[.int .i64 e.k.c, .int .i64 e.k.f, .int .u64 e.k.s, .int .i64 e.st, .int .i64 e.ow] 54 (0, 0)) by rw [hw2]; exact heap_alloc_new w1 _)
  have HO2 := Lib.hid (show Only2 S B W w2 by rw [hw2]; exact (HO1.out.alloc _).drew)
  have hEK : W.heap.size < w1.heap.size := (Array.getElem?_eq_some_iff.1 HK1.out).1
  obtain ⟨Ea, hEa⟩ : ∃ Ea, Ea = w1.heap.size := ⟨_, rfl⟩
  rw [← hEa] at HE2 hEK ⊢
  clear hw2 hEa H1 HK1 HO1 HLk
  cases b with
  | true =>
    have HX : Hid (r = 7 ∧ L = (l, clock)) := Lib.hid (by rw [HRd.out.2, HRd.out.1]; exact ⟨rfl, rfl⟩)
    clear HRd
    go_wp2_with fail
    refine leaves_cons (f := 47) (args := #[.pointer (some ⟨S, 0, none⟩)]) (by simp) (by simp [go_sem]) ?_
    refine (unlock_deferred muLib ⟨S, 0, none⟩ .returning _ H2.out.cells.1 H2.out.cells.2.2.2).mono ?_
    rintro _ u' w9 ⟨rfl, rfl, hw9⟩
    have H9 := H2.out.lock 0
    have HO9 := HO2.out.setS 0 (.int .i32 0)
    rw [← hw9] at H9 HO9
    exact ⟨_, results_tmp rfl _ _ _, by rw [HX.out.1]; rfl, by rw [HX.out.2]; exact H9, HO9⟩
  | false =>
    by_cases hfull : room ≤ (l.length : Int)
    · have HX : Hid (r = 6 ∧ L = (l, clock)) := Lib.hid (by rw [HRd.out.2, HRd.out.1]; simp [hfull])
      clear HRd
      go_upto_region 8 with fail
      refine Code.wp_mono (noP_le _) ?_
      refine wp_region_held_drew (S := (fun V => ShIs V S B room l clock 1 ∧ V.heap[W.heap.size]? = some (.cells #[.int .i64 kc, .int .i64 kf, .int .u64 ks] 41 (0, 0)))) (by kernel_rfl) ⟨⟨H2.out.box, H2.out.map⟩, HK2.out⟩ (fun hHeld => ?_)
      refine wpAnyH_take (i := 0) (oi := _) (v := ?_) rfl (by kernel_rfl) (by kernel_rfl) (by kernel_rfl) (fun _ _ _ h => h) (Or.inl ⟨by rfl, ?_⟩) (by assumption) ?_
      rotate_left
      · (intro W hSw; (try dsimp only at hSw); go_simp; try with_reducible rfl)
      try simp only [Act.put, List.getElem_toArray, List.getElem_cons_zero, List.setIfInBounds_toArray, List.set_cons_zero, List.set_cons_succ]
      refine wpAnyH_take (i := 1) (oi := _) (v := ?_) rfl (by kernel_rfl) (by kernel_rfl) (by kernel_rfl) (fun _ _ _ h => h) (Or.inl ⟨by rfl, ?_⟩) (by assumption) ?_
      rotate_left
      · (intro W hSw; (try dsimp only at hSw); go_simp; try with_reducible rfl)
      try simp only [Act.put, List.getElem_toArray, List.getElem_cons_succ, List.getElem_cons_zero, List.setIfInBounds_toArray, List.set_cons_zero, List.set_cons_succ]
      refine wpAnyH_take (i := 2) (oi := _) (v := ?_) rfl (by kernel_rfl) (by kernel_rfl) (by kernel_rfl) (fun _ _ _ h => h) (Or.inl ⟨by rfl, ?_⟩) (by assumption) ?_
      rotate_left
      · (intro W hSw; (try dsimp only at hSw); go_simp; try with_reducible rfl)
      try simp only [Act.put, List.getElem_toArray, List.getElem_cons_succ, List.getElem_cons_zero, List.setIfInBounds_toArray, List.set_cons_zero, List.set_cons_succ]
      refine wpAnyH_take (i := 3) (oi := _) (v := ?_) rfl (by kernel_rfl) (by kernel_rfl) (by kernel_rfl) (fun _ _ _ h => h) (Or.inl ⟨by rfl, ?_⟩) (by assumption) ?_
      rotate_left
      · (intro V hSw; have hq := (hSw.1.cells).2.2.1; clear hSw; go_simp; try with_reducible rfl)
      try simp only [Act.put, List.getElem_toArray, List.getElem_cons_succ, List.getElem_cons_zero, List.setIfInBounds_toArray, List.set_cons_zero, List.set_cons_succ]
      refine wpAnyH_take (i := 4) (oi := _) (v := ?_) rfl (by kernel_rfl) (by kernel_rfl) (by kernel_rfl) (fun _ _ _ h => h) (Or.inl ⟨by rfl, ?_⟩) (by assumption) ?_
      rotate_left
      · (intro V hSw; have hq := HLn.out V hSw.1.map; clear hSw; go_simp; try with_reducible rfl)
      try simp only [Act.put, List.getElem_toArray, List.getElem_cons_succ, List.getElem_cons_zero, List.setIfInBounds_toArray, List.set_cons_zero, List.set_cons_succ]
      refine wpAnyH_take (i := 5) (oi := _) (v := ?_) rfl (by kernel_rfl) (by kernel_rfl) (by kernel_rfl) (fun _ _ _ h => h) (Or.inl ⟨by rfl, ?_⟩) (by assumption) ?_
      rotate_left
      · (intro W hSw; (try dsimp only at hSw); go_simp; try with_reducible rfl)
      try simp only [Act.put, List.getElem_toArray, List.getElem_cons_succ, List.getElem_cons_zero, List.setIfInBounds_toArray, List.set_cons_zero, List.set_cons_succ]
      refine wpAnyH_take (i := 6) (oi := _) (v := ?_) rfl (by kernel_rfl) (by kernel_rfl) (by kernel_rfl) (fun _ _ _ h => h) (Or.inl ⟨by rfl, ?_⟩) (by assumption) ?_
      rotate_left
      · (intro W hSw; (try dsimp only at hSw); go_simp; try with_reducible rfl)
      try simp only [Act.put, List.getElem_toArray, List.getElem_cons_succ, List.getElem_cons_zero, List.setIfInBounds_toArray, List.set_cons_zero, List.set_cons_succ]
      refine wpAnyH_take (i := 7) (oi := _) (v := ?_) rfl (by kernel_rfl) (by kernel_rfl) (by kernel_rfl) (fun _ _ _ h => h) (Or.inl ⟨by rfl, ?_⟩) (by assumption) ?_
      rotate_left
      · (intro W hSw; (try dsimp only at hSw); go_simp; try with_reducible rfl)
      try simp only [Act.put, List.getElem_toArray, List.getElem_cons_succ, List.getElem_cons_zero, List.setIfInBounds_toArray, List.set_cons_zero, List.set_cons_succ]
      refine wpAnyH_take (i := 8) (oi := _) (v := ?_) rfl (by kernel_rfl) (by kernel_rfl) (by kernel_rfl) (fun _ _ _ h => h) (Or.inl ⟨by rfl, ?_⟩) (by assumption) ?_
      rotate_left
      · (intro V hSw; have hq := (hSw.1.cells).2.1; clear hSw; go_simp; try with_reducible rfl)
      try simp only [Act.put, List.getElem_toArray, List.getElem_cons_succ, List.getElem_cons_zero, List.setIfInBounds_toArray, List.set_cons_zero, List.set_cons_succ]
      refine wpAnyH_take (i := 9) (oi := _) (v := ?_) rfl (by kernel_rfl) (by kernel_rfl) (by kernel_rfl) (fun _ _ _ h => h) (Or.inl ⟨by rfl, ?_⟩) (by assumption) ?_
      rotate_left
      · (intro W hSw; (try dsimp only at hSw); go_simp; try with_reducible rfl)
      try simp only [Act.put, List.getElem_toArray, List.getElem_cons_succ, List.getElem_cons_zero, List.setIfInBounds_toArray, List.set_cons_zero, List.set_cons_succ]
      refine wpAnyH_take (i := 10) (oi := _) (v := ?_) rfl (by kernel_rfl) (by kernel_rfl) (by kernel_rfl) (fun _ _ _ h => h) (Or.inl ⟨by rfl, ?_⟩) (by assumption) ?_
      rotate_left
      · (intro W hSw; (try dsimp only at hSw); go_simp; try with_reducible rfl)
      try simp only [Act.put, List.getElem_toArray, List.getElem_cons_succ, List.getElem_cons_zero, List.setIfInBounds_toArray, List.set_cons_zero, List.set_cons_succ]
      refine wpAnyH_done (by kernel_rfl) ?_ _
      simp only [NoP]
      obtain ⟨w3, hw3⟩ : ∃ X, X = w2.drew := ⟨_, rfl⟩
      rw [← hw3]
      have H3 := Lib.hid (show ShIs w3 S B room l clock 1 by rw [hw3]; exact ⟨H2.out.box, H2.out.map⟩)
      have HK3 := Lib.hid (show w3.heap[W.heap.size]? = some (.cells #[.int .i64 kc, .int .i64 kf, .int .u64 ks] 41 (0, 0)) by rw [hw3]; exact HK2.out)
      have HO3 := Lib.hid (show Only2 S B W w3 by rw [hw3]; exact HO2.out.drew)
      clear hw3 H2 HK2 HO2
      go_wp2_with fail
      refine leaves_cons (f := 47) (args := #[.pointer (some ⟨S, 0, none⟩)]) (by simp) (by simp [go_sem]) ?_
      refine (unlock_deferred muLib ⟨S, 0, none⟩ .returning _ H3.out.cells.1 H3.out.cells.2.2.2).mono ?_
      rintro _ u' w9 ⟨rfl, rfl, hw9⟩
      have H9 := H3.out.lock 0
      have HO9 := HO3.out.setS 0 (.int .i32 0)
      rw [← hw9] at H9 HO9
      exact ⟨_, results_tmp rfl _ _ _, by rw [HX.out.1]; rfl, by rw [HX.out.2]; exact H9, HO9⟩
    · have hfi : (l.length : Int) < room := by omega
      have HX : Hid (r = 0 ∧ L = PL) := Lib.hid (by rw [HRd.out.2, HRd.out.1]; simp [hfull])
      clear HRd
      go_upto_region 8 with fail
      refine Code.wp_mono (noP_le _) ?_
      refine wp_region_held_drew (S := (fun V => ShIs V S B room l clock 1 ∧ V.heap[W.heap.size]? = some (.cells #[.int .i64 kc, .int .i64 kf, .int .u64 ks] 41 (0, 0)))) (by kernel_rfl) ⟨⟨H2.out.box, H2.out.map⟩, HK2.out⟩ (fun hHeld => ?_)
      refine wpAnyH_take (i := 0) (oi := _) (v := ?_) rfl (by kernel_rfl) (by kernel_rfl) (by kernel_rfl) (fun _ _ _ h => h) (Or.inl ⟨by rfl, ?_⟩) (by assumption) ?_
      rotate_left
      · (intro W hSw; (try dsimp only at hSw); go_simp; try with_reducible rfl)
      try simp only [Act.put, List.getElem_toArray, List.getElem_cons_zero, List.setIfInBounds_toArray, List.set_cons_zero, List.set_cons_succ]
      refine wpAnyH_take (i := 1) (oi := _) (v := ?_) rfl (by kernel_rfl) (by kernel_rfl) (by kernel_rfl) (fun _ _ _ h => h) (Or.inl ⟨by rfl, ?_⟩) (by assumption) ?_
      rotate_left
      · (intro W hSw; (try dsimp only at hSw); go_simp; try with_reducible rfl)
      try simp only [Act.put, List.getElem_toArray, List.getElem_cons_succ, List.getElem_cons_zero, List.setIfInBounds_toArray, List.set_cons_zero, List.set_cons_succ]
      refine wpAnyH_take (i := 2) (oi := _) (v := ?_) rfl (by kernel_rfl) (by kernel_rfl) (by kernel_rfl) (fun _ _ _ h => h) (Or.inl ⟨by rfl, ?_⟩) (by assumption) ?_
      rotate_left
      · (intro W hSw; (try dsimp only at hSw); go_simp; try with_reducible rfl)
      try simp only [Act.put, List.getElem_toArray, List.getElem_cons_succ, List.getElem_cons_zero, List.setIfInBounds_toArray, List.set_cons_zero, List.set_cons_succ]
      refine wpAnyH_take (i := 3) (oi := _) (v := ?_) rfl (by kernel_rfl) (by kernel_rfl) (by kernel_rfl) (fun _ _ _ h => h) (Or.inl ⟨by rfl, ?_⟩) (by assumption) ?_
      rotate_left
      · (intro V hSw; have hq := (hSw.1.cells).2.2.1; clear hSw; go_simp; try with_reducible rfl)
      try simp only [Act.put, List.getElem_toArray, List.getElem_cons_succ, List.getElem_cons_zero, List.setIfInBounds_toArray, List.set_cons_zero, List.set_cons_succ]
      refine wpAnyH_take (i := 4) (oi := _) (v := ?_) rfl (by kernel_rfl) (by kernel_rfl) (by kernel_rfl) (fun _ _ _ h => h) (Or.inl ⟨by rfl, ?_⟩) (by assumption) ?_
      rotate_left
      · (intro V hSw; have hq := HLn.out V hSw.1.map; clear hSw; go_simp; try with_reducible rfl)
      try simp only [Act.put, List.getElem_toArray, List.getElem_cons_succ, List.getElem_cons_zero, List.setIfInBounds_toArray, List.set_cons_zero, List.set_cons_succ]
      refine wpAnyH_take (i := 5) (oi := _) (v := ?_) rfl (by kernel_rfl) (by kernel_rfl) (by kernel_rfl) (fun _ _ _ h => h) (Or.inl ⟨by rfl, ?_⟩) (by assumption) ?_
      rotate_left
      · (intro W hSw; (try dsimp only at hSw); go_simp; try with_reducible rfl)
      try simp only [Act.put, List.getElem_toArray, List.getElem_cons_succ, List.getElem_cons_zero, List.setIfInBounds_toArray, List.set_cons_zero, List.set_cons_succ]
      refine wpAnyH_take (i := 6) (oi := _) (v := ?_) rfl (by kernel_rfl) (by kernel_rfl) (by kernel_rfl) (fun _ _ _ h => h) (Or.inl ⟨by rfl, ?_⟩) (by assumption) ?_
      rotate_left
      · (intro W hSw; (try dsimp only at hSw); go_simp; try with_reducible rfl)
      try simp only [Act.put, List.getElem_toArray, List.getElem_cons_succ, List.getElem_cons_zero, List.setIfInBounds_toArray, List.set_cons_zero, List.set_cons_succ]
      refine wpAnyH_take (i := 7) (oi := _) (v := ?_) rfl (by kernel_rfl) (by kernel_rfl) (by kernel_rfl) (fun _ _ _ h => h) (Or.inl ⟨by rfl, ?_⟩) (by assumption) ?_
      rotate_left
      · (intro W hSw; (try dsimp only at hSw); go_simp; try with_reducible rfl)
      try simp only [Act.put, List.getElem_toArray, List.getElem_cons_succ, List.getElem_cons_zero, List.setIfInBounds_toArray, List.set_cons_zero, List.set_cons_succ]
      refine wpAnyH_take (i := 8) (oi := _) (v := ?_) rfl (by kernel_rfl) (by kernel_rfl) (by kernel_rfl) (fun _ _ _ h => h) (Or.inl ⟨by rfl, ?_⟩) (by assumption) ?_
      rotate_left
      · (intro V hSw; have hq := (hSw.1.cells).2.1; clear hSw; go_simp; try with_reducible rfl)
      try simp only [Act.put, List.getElem_toArray, List.getElem_cons_succ, List.getElem_cons_zero, List.setIfInBounds_toArray, List.set_cons_zero, List.set_cons_succ]
      refine wpAnyH_take (i := 9) (oi := _) (v := ?_) rfl (by kernel_rfl) (by kernel_rfl) (by kernel_rfl) (fun _ _ _ h => h) (Or.inl ⟨by rfl, ?_⟩) (by assumption) ?_
      rotate_left
      · (intro W hSw; (try dsimp only at hSw); go_simp; try with_reducible rfl)
      try simp only [Act.put, List.getElem_toArray, List.getElem_cons_succ, List.getElem_cons_zero, List.setIfInBounds_toArray, List.set_cons_zero, List.set_cons_succ]
      refine wpAnyH_take (i := 10) (oi := _) (v := ?_) rfl (by kernel_rfl) (by kernel_rfl) (by kernel_rfl) (fun _ _ _ h => h) (Or.inl ⟨by rfl, ?_⟩) (by assumption) ?_
      rotate_left
      · (intro W hSw; (try dsimp only at hSw); go_simp; try with_reducible rfl)
      try simp only [Act.put, List.getElem_toArray, List.getElem_cons_succ, List.getElem_cons_zero, List.setIfInBounds_toArray, List.set_cons_zero, List.set_cons_succ]
      refine wpAnyH_done (by kernel_rfl) ?_ _
      simp only [NoP]
      obtain ⟨w3, hw3⟩ : ∃ X, X = w2.drew := ⟨_, rfl⟩
      rw [← hw3]
      have H3 := Lib.hid (show ShIs w3 S B room l clock 1 by rw [hw3]; exact ⟨H2.out.box, H2.out.map⟩)
      have HK3 := Lib.hid (show w3.heap[W.heap.size]? = some (.cells #[.int .i64 kc, .int .i64 kf, .int .u64 ks] 41 (0, 0)) by rw [hw3]; exact HK2.out)
      have HO3 := Lib.hid (show Only2 S B W w3 by rw [hw3]; exact HO2.out.drew)
      clear hw3 H2 HK2 HO2
      go_upto_region 10 with fail
      obtain ⟨Wp, hrun, hWp⟩ := HPr.out w3.drew H3.out.map
      refine Code.wp_mono (noP_le _) ?_
      refine wp_region_held_drew (S := (fun V => V.heap[S]? = some (.cells #[.int .i32 1, .int .u32 0, .int .i64 room, .map (some B)] TS (0, 0)) ∧ V.heap[W.heap.size]? = some (.cells #[.int .i64 kc, .int .i64 kf, .int .u64 ks] 41 (0, 0)))) (by kernel_rfl) ⟨H3.out.box, HK3.out⟩ (fun hHeld => ?_)
      refine wpAnyH_take (i := 0) (oi := _) (v := ?_) rfl (by kernel_rfl) (by kernel_rfl) (by kernel_rfl) (fun _ _ _ h => h) (Or.inl ⟨by rfl, ?_⟩) (by assumption) ?_
      rotate_left
      · (intro W hSw; (try dsimp only at hSw); go_simp; try with_reducible rfl)
      try simp only [Act.put, List.getElem_toArray, List.getElem_cons_zero, List.setIfInBounds_toArray, List.set_cons_zero, List.set_cons_succ]
      refine wpAnyH_take (i := 1) (oi := _) (v := ?_) rfl (by kernel_rfl) (by kernel_rfl) (by kernel_rfl) (fun _ _ _ h => h) (Or.inl ⟨by rfl, ?_⟩) (by assumption) ?_
      rotate_left
      · (intro W hSw; (try dsimp only at hSw); go_simp; try with_reducible rfl)
      try simp only [Act.put, List.getElem_toArray, List.getElem_cons_succ, List.getElem_cons_zero, List.setIfInBounds_toArray, List.set_cons_zero, List.set_cons_succ]
      refine wpAnyH_take (i := 2) (oi := _) (v := ?_) rfl (by kernel_rfl) (by kernel_rfl) (by kernel_rfl) (fun _ _ _ h => h) (Or.inl ⟨by rfl, ?_⟩) (by assumption) ?_
      rotate_left
      · (intro W hSw; (try dsimp only at hSw); go_simp; try with_reducible rfl)
      try simp only [Act.put, List.getElem_toArray, List.getElem_cons_succ, List.getElem_cons_zero, List.setIfInBounds_toArray, List.set_cons_zero, List.set_cons_succ]
      refine wpAnyH_take (i := 3) (oi := _) (v := ?_) rfl (by kernel_rfl) (by kernel_rfl) (by kernel_rfl) (fun _ _ _ h => h) (Or.inl ⟨by rfl, ?_⟩) (by assumption) ?_
      rotate_left
      · (intro V hSw; have hq := cell_of_row V S 3 _ _ (0, 0) hSw.1; clear hSw; go_simp; try with_reducible rfl)
      try simp only [Act.put, List.getElem_toArray, List.getElem_cons_succ, List.getElem_cons_zero, List.setIfInBounds_toArray, List.set_cons_zero, List.set_cons_succ]
      refine wpAnyH_take (i := 4) (oi := _) (v := ?_) rfl (by kernel_rfl) (by kernel_rfl) (by kernel_rfl) (fun _ _ _ h => h) (Or.inl ⟨by rfl, ?_⟩) (by assumption) ?_
      rotate_left
      · (intro V hSw; have q0 := cell_of_row V W.heap.size 0 _ _ (0, 0) hSw.2; have q1 := cell_of_row V W.heap.size 1 _ _ (0, 0) hSw.2; have q2 := cell_of_row V W.heap.size 2 _ _ (0, 0) hSw.2; clear hSw; go_simp; try with_reducible rfl)
      try simp only [Act.put, List.getElem_toArray, List.getElem_cons_succ, List.getElem_cons_zero, List.setIfInBounds_toArray, List.set_cons_zero, List.set_cons_succ]
      refine wpAnyH_take (i := 5) (oi := _) (v := ?_) rfl (by kernel_rfl) (by kernel_rfl) (by kernel_rfl) (fun _ _ _ h => h) (Or.inl ⟨by rfl, ?_⟩) (by assumption) ?_
      rotate_left
      · (intro V hSw; have q0 := cell_of_row V W.heap.size 0 _ _ (0, 0) hSw.2; have q1 := cell_of_row V W.heap.size 1 _ _ (0, 0) hSw.2; have q2 := cell_of_row V W.heap.size 2 _ _ (0, 0) hSw.2; clear hSw; go_simp; try with_reducible rfl)
      try simp only [Act.put, List.getElem_toArray, List.getElem_cons_succ, List.getElem_cons_zero, List.setIfInBounds_toArray, List.set_cons_zero, List.set_cons_succ]
      refine wpAnyH_take (i := 6) (oi := _) (v := ?_) rfl (by kernel_rfl) (by kernel_rfl) (by kernel_rfl) (fun _ _ _ h => h) (Or.inl ⟨by rfl, ?_⟩) (by assumption) ?_
      rotate_left
      · (intro W hSw; (try dsimp only at hSw); go_simp; try with_reducible rfl)
      try simp only [Act.put, List.getElem_toArray, List.getElem_cons_succ, List.getElem_cons_zero, List.setIfInBounds_toArray, List.set_cons_zero, List.set_cons_succ]
      have hnB : W.heap.size ≠ B := by have := HO0.out.2; omega
      have hWb : Wp.heap[S]? = some (.cells #[.int .i32 1, .int .u32 0, .int .i64 room, .map (some B)] TS (0, 0)) := by rw [hWp]; exact (setM_off w3.drew B PL.1 PL.2 S H3.out.ne).trans H3.out.box
      have hWk : Wp.heap[W.heap.size]? = some (.cells #[.int .i64 kc, .int .i64 kf, .int .u64 ks] 41 (0, 0)) := by rw [hWp]; exact (setM_off w3.drew B PL.1 PL.2 _ hnB).trans HK3.out
      have H4 := Lib.hid (show ShIs Wp S B room PL.1 PL.2 1 from ⟨hWb, by rw [hWp]; exact setM_at (W := w3.drew) H3.out.map _ _⟩)
      have HO4 := Lib.hid (show Only2 S B W Wp by rw [hWp]; exact (HO3.out.drew).setM PL.1 PL.2)
      clear hWp
      refine wpAnyH_ready (rs := [7]) (by kernel_rfl) (by simp) ?_
      refine AllReadyH.cons rfl (fun K hK => ?_) AllReadyH.nil
      simp only [List.getElem_toArray, List.getElem_cons_succ, List.getElem_cons_zero]
      rw [if_pos (by rfl)]
      go_simp
      refine hK.out _ _ ⟨hWb, hWk⟩ (fun hHeld => ?_)
      clear hK K
      try simp only [Act.put, List.getElem_toArray, List.getElem_cons_succ, List.getElem_cons_zero, List.setIfInBounds_toArray, List.set_cons_zero, List.set_cons_succ]
      refine wpAnyH_done (by kernel_rfl) ?_ _
      simp only [NoP]
      clear hrun hWb hWk hnB
      go_wp2_with fail
      refine leaves_cons (f := 47) (args := #[.pointer (some ⟨S, 0, none⟩)]) (by simp) (by simp [go_sem]) ?_
      refine (unlock_deferred muLib ⟨S, 0, none⟩ .returning _ H4.out.cells.1 H4.out.cells.2.2.2).mono ?_
      rintro _ u' w9 ⟨rfl, rfl, hw9⟩
      have H9 := H4.out.lock 0
      have HO9 := HO4.out.setS 0 (.int .i32 0)
      rw [← hw9] at H9 HO9
      exact ⟨_, results_tmp rfl _ _ _, by rw [HX.out.1]; rfl, by rw [HX.out.2]; exact H9, HO9⟩

end Go.Proofs.YtlpnecmcncekcaaGreat.Mk
/- A shard's Claim, Release, Complete, Expire; Get, Len. -/
namespace Go.Proofs.YtlpnecmcncekcaaGreat.Mk
open Go Go.RowKit Go.MuLone

/-- the entry of a key -/
def entM (k : K3) : List Ms → Option En
  | [] => none
  | x :: l => if k = x.1 then some x.2.1 else entM k l
theorem at?_ent (k : K3) : ∀ (l : List Ms) (i : Nat), (at? k l i).map (·.2) = (entM k l).map En.val
  | [], _ => rfl
  | x :: l, i => by
    unfold at? entM
    by_cases h : k = x.1
    · rw [if_pos h, if_pos h]; rfl
    · rw [if_neg h, if_neg h]; exact at?_ent k l (i + 1)
theorem look_ent (k : K3) (B : Nat) (l : List Ms) (clock : Nat) (V : World) (h : MapIs V B l clock) : (Instr.lookup 94 (.map (some B)) k.val true).run Tryz.prog V = .ok (.tuple #[.agg ((entM k l).getD en0).cells, .bool (entM k l).isSome]) V := by
  have h1 := at?_ent k l 0
  have h2 : (at? k l 0).isSome = (entM k l).isSome := by
    have := congrArg Option.isSome h1
    simpa using this
  rw [look_run k B l clock V h, h1, h2]
  cases entM k l <;> rfl
/-- what a change tells -/
def chgR (st who : Int) (k : K3) (l : List Ms) : Int :=
  match entM k l with
  | none => 8
  | some e => if e.st ≠ st then 10 else if st = 2 ∧ e.ow ≠ who then 9 else 0
theorem box_off {S B b : Nat} {W V : World} {o : Obj} (hb : W.heap[b]? = some o) (hO : Only2 S B W V) (hS : b ≠ S) (hB : b ≠ B) : V.heap[b]? = some o := (hO.block b (Array.getElem?_eq_some_iff.1 hb).1 hS hB).trans hb

set_option maxRecDepth 20000 in
set_option maxHeartbeats 2000000 in
theorem claim1_any (S B Kb Sb Wb : Nat) (room who : Int) (l : List Ms) (clock : Nat) (k : K3) (W : World) (h : ShIs W S B room l clock 1)
    (hK : W.heap[Kb]? = some (.cells #[.int .i64 k.c, .int .i64 k.f, .int .u64 k.s] 41 (0, 0))) (hS : W.heap[Sb]? = some (.cells #[.pointer (some ⟨S, 0, none⟩)] 68 (0, 0))) (hW : W.heap[Wb]? = some (.cells #[.int .i64 who] 3 (0, 0))) :
    Calls Tryz.prog 81 #[.pointer (some ⟨Kb, 0, none⟩), .pointer (some ⟨Wb, 0, none⟩), .pointer (some ⟨Sb, 0, none⟩)] W fun e w' => e = .returned (.tuple #[]) ∧ ShIs w' S B room (putM k ⟨k, 2, who⟩ l clock).1 (putM k ⟨k, 2, who⟩ l clock).2 1 ∧ Only2 S B W w' := by
  have hno : Kb ≠ B ∧ Sb ≠ B ∧ Wb ≠ B := by
    have h9 : W.heap[B]? = some (.map (l.map toM).toArray clock) := h.map
    refine ⟨fun e => ?_, fun e => ?_, fun e => ?_⟩
    · rw [e, h9] at hK; injection hK with hK; cases hK
    · rw [e, h9] at hS; injection hS with hS; cases hS
    · rw [e, h9] at hW; injection hW with hW; cases hW
  obtain ⟨Wp, hrun, hWp⟩ := put_run k ⟨k, 2, who⟩ B l clock W.drew h.map
  generalize putM k ⟨k, 2, who⟩ l clock = PL at hWp ⊢
  have e4 : ∀ k', k' ≠ B → Wp.heap[k']? = W.heap[k']? := fun k' hk' => by rw [hWp]; exact setM_off W.drew B PL.1 PL.2 k' hk'
  have h4 : ShIs Wp S B room PL.1 PL.2 1 := ⟨(e4 S h.ne).trans h.box, by rw [hWp]; exact setM_at (W := W.drew) h.map _ _⟩
  have hO4 : Only2 S B W Wp := by rw [hWp]; exact ((Only2.refl S B W).drew).setM PL.1 PL.2
  have hx : ShIs W S B room l clock 1 := h
  have n4 := And.intro ((e4 S h.ne).trans h.box) (And.intro ((e4 Kb hno.1).trans hK) (And.intro ((e4 Sb hno.2.1).trans hS) ((e4 Wb hno.2.2).trans hW)))
  have n0 := And.intro h.box (And.intro hK (And.intro hS hW))
  have H4 := Lib.hid (And.intro h4 hO4)
  have N4 := Lib.hid n4
  have N0 := Lib.hid n0
  clear hWp e4 h4 hO4 n4 n0 hno hx h hK hS hW
  obtain ⟨kc, kf, ks⟩ := k
  unfold K3.val En.val En.cells at hrun
  dsimp only at N4 N0
  go_enter Tryz.func81, Tryz.ntmps81
  go_upto_region 0 with fail
  refine wp_region_held_drew (S := (fun V => V.heap[S]? = some (.cells #[.int .i32 1, .int .u32 0, .int .i64 room, .map (some B)] TS (0, 0)) ∧ V.heap[Kb]? = some (.cells #[.int .i64 kc, .int .i64 kf, .int .u64 ks] 41 (0, 0)) ∧ V.heap[Sb]? = some (.cells #[.pointer (some ⟨S, 0, none⟩)] 68 (0, 0)) ∧ V.heap[Wb]? = some (.cells #[.int .i64 who] 3 (0, 0)))) (by kernel_rfl) N0.out (fun hHeld => ?_)
  refine wpAnyH_take (i := 0) (oi := _) (v := ?_) rfl (by kernel_rfl) (by kernel_rfl) (by kernel_rfl) (fun _ _ _ h => h) (Or.inl ⟨by rfl, ?_⟩) (by assumption) ?_
  rotate_left
  · (intro V hSw; have q0 := cell_of_row V Sb 0 _ _ (0, 0) hSw.2.2.1; clear hSw; go_simp; try with_reducible rfl)
  try simp only [Act.put, List.getElem_toArray, List.getElem_cons_zero, List.setIfInBounds_toArray, List.set_cons_zero, List.set_cons_succ]
  refine wpAnyH_take (i := 1) (oi := _) (v := ?_) rfl (by kernel_rfl) (by kernel_rfl) (by kernel_rfl) (fun _ _ _ h => h) (Or.inl ⟨by rfl, ?_⟩) (by assumption) ?_
  rotate_left
  · (intro W hSw; (try dsimp only at hSw); go_simp; try with_reducible rfl)
  try simp only [Act.put, List.getElem_toArray, List.getElem_cons_succ, List.getElem_cons_zero, List.setIfInBounds_toArray, List.set_cons_zero, List.set_cons_succ]
  refine wpAnyH_take (i := 2) (oi := _) (v := ?_) rfl (by kernel_rfl) (by kernel_rfl) (by kernel_rfl) (fun _ _ _ h => h) (Or.inl ⟨by rfl, ?_⟩) (by assumption) ?_
  rotate_left
  · (intro W hSw; (try dsimp only at hSw); go_simp; try with_reducible rfl)
  try simp only [Act.put, List.getElem_toArray, List.getElem_cons_succ, List.getElem_cons_zero, List.setIfInBounds_toArray, List.set_cons_zero, List.set_cons_succ]
  refine wpAnyH_take (i := 3) (oi := _) (v := ?_) rfl (by kernel_rfl) (by kernel_rfl) (by kernel_rfl) (fun _ _ _ h => h) (Or.inl ⟨by rfl, ?_⟩) (by assumption) ?_
  rotate_left
  · (intro V hSw; have hq := cell_of_row V S 3 _ _ (0, 0) hSw.1; clear hSw; go_simp; try with_reducible rfl)
  try simp only [Act.put, List.getElem_toArray, List.getElem_cons_succ, List.getElem_cons_zero, List.setIfInBounds_toArray, List.set_cons_zero, List.set_cons_succ]
  refine wpAnyH_take (i := 4) (oi := _) (v := ?_) rfl (by kernel_rfl) (by kernel_rfl) (by kernel_rfl) (fun _ _ _ h => h) (Or.inl ⟨by rfl, ?_⟩) (by assumption) ?_
  rotate_left
  · (intro V hSw; have q0 := cell_of_row V Kb 0 _ _ (0, 0) hSw.2.1; have q1 := cell_of_row V Kb 1 _ _ (0, 0) hSw.2.1; have q2 := cell_of_row V Kb 2 _ _ (0, 0) hSw.2.1; clear hSw; go_simp; try with_reducible rfl)
  try simp only [Act.put, List.getElem_toArray, List.getElem_cons_succ, List.getElem_cons_zero, List.setIfInBounds_toArray, List.set_cons_zero, List.set_cons_succ]
  refine wpAnyH_take (i := 5) (oi := _) (v := ?_) rfl (by kernel_rfl) (by kernel_rfl) (by kernel_rfl) (fun _ _ _ h => h) (Or.inl ⟨by rfl, ?_⟩) (by assumption) ?_
  rotate_left
  · (intro V hSw; have q0 := cell_of_row V Kb 0 _ _ (0, 0) hSw.2.1; have q1 := cell_of_row V Kb 1 _ _ (0, 0) hSw.2.1; have q2 := cell_of_row V Kb 2 _ _ (0, 0) hSw.2.1; clear hSw; go_simp; try with_reducible rfl)
  try simp only [Act.put, List.getElem_toArray, List.getElem_cons_succ, List.getElem_cons_zero, List.setIfInBounds_toArray, List.set_cons_zero, List.set_cons_succ]
  refine wpAnyH_take (i := 6) (oi := _) (v := ?_) rfl (by kernel_rfl) (by kernel_rfl) (by kernel_rfl) (fun _ _ _ h => h) (Or.inl ⟨by rfl, ?_⟩) (by assumption) ?_
  rotate_left
  · (intro V hSw; have q0 := cell_of_row V Wb 0 _ _ (0, 0) hSw.2.2.2; clear hSw; go_simp; try with_reducible rfl)
  try simp only [Act.put, List.getElem_toArray, List.getElem_cons_succ, List.getElem_cons_zero, List.setIfInBounds_toArray, List.set_cons_zero, List.set_cons_succ]
  refine wpAnyH_take (i := 7) (oi := _) (v := ?_) rfl (by kernel_rfl) (by kernel_rfl) (by kernel_rfl) (fun _ _ _ h => h) (Or.inl ⟨by rfl, ?_⟩) (by assumption) ?_
  rotate_left
  · (intro W hSw; (try dsimp only at hSw); go_simp; try with_reducible rfl)
  try simp only [Act.put, List.getElem_toArray, List.getElem_cons_succ, List.getElem_cons_zero, List.setIfInBounds_toArray, List.set_cons_zero, List.set_cons_succ]
  refine wpAnyH_ready (rs := [8]) (by kernel_rfl) (by simp) ?_
  refine AllReadyH.cons rfl (fun K hK => ?_) AllReadyH.nil
  simp only [List.getElem_toArray, List.getElem_cons_succ, List.getElem_cons_zero]
  rw [if_pos (by rfl)]
  go_simp
  refine hK.out _ _ N4.out (fun hHeld => ?_)
  clear hK K
  try simp only [Act.put, List.getElem_toArray, List.getElem_cons_succ, List.getElem_cons_zero, List.setIfInBounds_toArray, List.set_cons_zero, List.set_cons_succ]
  refine wpAnyH_done (by kernel_rfl) ?_ _
  clear hrun
  go_wp2
  refine bodyPost_end (results_none rfl _ _ _) rfl ?_
  exact ⟨rfl, H4.out.1, H4.out.2⟩

set_option maxRecDepth 20000 in
set_option maxHeartbeats 2000000 in
theorem release1_any (S B Kb Sb : Nat) (room : Int) (l : List Ms) (clock : Nat) (k : K3) (W : World) (h : ShIs W S B room l clock 1)
    (hK : W.heap[Kb]? = some (.cells #[.int .i64 k.c, .int .i64 k.f, .int .u64 k.s] 41 (0, 0))) (hS : W.heap[Sb]? = some (.cells #[.pointer (some ⟨S, 0, none⟩)] 68 (0, 0))) :
    Calls Tryz.prog 82 #[.pointer (some ⟨Kb, 0, none⟩), .pointer (some ⟨Sb, 0, none⟩)] W fun e w' => e = .returned (.tuple #[]) ∧ ShIs w' S B room (putM k ⟨k, 1, 0⟩ l clock).1 (putM k ⟨k, 1, 0⟩ l clock).2 1 ∧ Only2 S B W w' := by
  have hno : Kb ≠ B ∧ Sb ≠ B := by
    have h9 : W.heap[B]? = some (.map (l.map toM).toArray clock) := h.map
    refine ⟨fun e => ?_, fun e => ?_⟩
    · rw [e, h9] at hK; injection hK with hK; cases hK
    · rw [e, h9] at hS; injection hS with hS; cases hS
  obtain ⟨Wp, hrun, hWp⟩ := put_run k ⟨k, 1, 0⟩ B l clock W.drew h.map
  generalize putM k ⟨k, 1, 0⟩ l clock = PL at hWp ⊢
  have e4 : ∀ k', k' ≠ B → Wp.heap[k']? = W.heap[k']? := fun k' hk' => by rw [hWp]; exact setM_off W.drew B PL.1 PL.2 k' hk'
  have h4 : ShIs Wp S B room PL.1 PL.2 1 := ⟨(e4 S h.ne).trans h.box, by rw [hWp]; exact setM_at (W := W.drew) h.map _ _⟩
  have hO4 : Only2 S B W Wp := by rw [hWp]; exact ((Only2.refl S B W).drew).setM PL.1 PL.2
  have hx : ShIs W S B room l clock 1 := h
  have n4 := And.intro ((e4 S h.ne).trans h.box) (And.intro ((e4 Kb hno.1).trans hK) ((e4 Sb hno.2).trans hS))
  have n0 := And.intro h.box (And.intro hK hS)
  have H4 := Lib.hid (And.intro h4 hO4)
  have N4 := Lib.hid n4
  have N0 := Lib.hid n0
  clear hWp e4 h4 hO4 n4 n0 hno hx h hK hS
  obtain ⟨kc, kf, ks⟩ := k
  unfold K3.val En.val En.cells at hrun
  dsimp only at N4 N0
  go_enter Tryz.func82, Tryz.ntmps82
  go_upto_region 0 with fail
  refine wp_region_held_drew (S := (fun V => V.heap[S]? = some (.cells #[.int .i32 1, .int .u32 0, .int .i64 room, .map (some B)] TS (0, 0)) ∧ V.heap[Kb]? = some (.cells #[.int .i64 kc, .int .i64 kf, .int .u64 ks] 41 (0, 0)) ∧ V.heap[Sb]? = some (.cells #[.pointer (some ⟨S, 0, none⟩)] 68 (0, 0)))) (by kernel_rfl) N0.out (fun hHeld => ?_)
  refine wpAnyH_take (i := 0) (oi := _) (v := ?_) rfl (by kernel_rfl) (by kernel_rfl) (by kernel_rfl) (fun _ _ _ h => h) (Or.inl ⟨by rfl, ?_⟩) (by assumption) ?_
  rotate_left
  · (intro V hSw; have q0 := cell_of_row V Sb 0 _ _ (0, 0) hSw.2.2; clear hSw; go_simp; try with_reducible rfl)
  try simp only [Act.put, List.getElem_toArray, List.getElem_cons_zero, List.setIfInBounds_toArray, List.set_cons_zero, List.set_cons_succ]
  refine wpAnyH_take (i := 1) (oi := _) (v := ?_) rfl (by kernel_rfl) (by kernel_rfl) (by kernel_rfl) (fun _ _ _ h => h) (Or.inl ⟨by rfl, ?_⟩) (by assumption) ?_
  rotate_left
  · (intro W hSw; (try dsimp only at hSw); go_simp; try with_reducible rfl)
  try simp only [Act.put, List.getElem_toArray, List.getElem_cons_succ, List.getElem_cons_zero, List.setIfInBounds_toArray, List.set_cons_zero, List.set_cons_succ]
  refine wpAnyH_take (i := 2) (oi := _) (v := ?_) rfl (by kernel_rfl) (by kernel_rfl) (by kernel_rfl) (fun _ _ _ h => h) (Or.inl ⟨by rfl, ?_⟩) (by assumption) ?_
  rotate_left
  · (intro W hSw; (try dsimp only at hSw); go_simp; try with_reducible rfl)
  try simp only [Act.put, List.getElem_toArray, List.getElem_cons_succ, List.getElem_cons_zero, List.setIfInBounds_toArray, List.set_cons_zero, List.set_cons_succ]
  refine wpAnyH_take (i := 3) (oi := _) (v := ?_) rfl (by kernel_rfl) (by kernel_rfl) (by kernel_rfl) (fun _ _ _ h => h) (Or.inl ⟨by rfl, ?_⟩) (by assumption) ?_
  rotate_left
  · (intro V hSw; have hq := cell_of_row V S 3 _ _ (0, 0) hSw.1; clear hSw; go_simp; try with_reducible rfl)
  try simp only [Act.put, List.getElem_toArray, List.getElem_cons_succ, List.getElem_cons_zero, List.setIfInBounds_toArray, List.set_cons_zero, List.set_cons_succ]
  refine wpAnyH_take (i := 4) (oi := _) (v := ?_) rfl (by kernel_rfl) (by kernel_rfl) (by kernel_rfl) (fun _ _ _ h => h) (Or.inl ⟨by rfl, ?_⟩) (by assumption) ?_
  rotate_left
  · (intro V hSw; have q0 := cell_of_row V Kb 0 _ _ (0, 0) hSw.2.1; have q1 := cell_of_row V Kb 1 _ _ (0, 0) hSw.2.1; have q2 := cell_of_row V Kb 2 _ _ (0, 0) hSw.2.1; clear hSw; go_simp; try with_reducible rfl)
  try simp only [Act.put, List.getElem_toArray, List.getElem_cons_succ, List.getElem_cons_zero, List.setIfInBounds_toArray, List.set_cons_zero, List.set_cons_succ]
  refine wpAnyH_take (i := 5) (oi := _) (v := ?_) rfl (by kernel_rfl) (by kernel_rfl) (by kernel_rfl) (fun _ _ _ h => h) (Or.inl ⟨by rfl, ?_⟩) (by assumption) ?_
  rotate_left
  · (intro V hSw; have q0 := cell_of_row V Kb 0 _ _ (0, 0) hSw.2.1; have q1 := cell_of_row V Kb 1 _ _ (0, 0) hSw.2.1; have q2 := cell_of_row V Kb 2 _ _ (0, 0) hSw.2.1; clear hSw; go_simp; try with_reducible rfl)
  try simp only [Act.put, List.getElem_toArray, List.getElem_cons_succ, List.getElem_cons_zero, List.setIfInBounds_toArray, List.set_cons_zero, List.set_cons_succ]
  refine wpAnyH_take (i := 6) (oi := _) (v := ?_) rfl (by kernel_rfl) (by kernel_rfl) (by kernel_rfl) (fun _ _ _ h => h) (Or.inl ⟨by rfl, ?_⟩) (by assumption) ?_
  rotate_left
  · (intro W hSw; (try dsimp only at hSw); go_simp; try with_reducible rfl)
  try simp only [Act.put, List.getElem_toArray, List.getElem_cons_succ, List.getElem_cons_zero, List.setIfInBounds_toArray, List.set_cons_zero, List.set_cons_succ]
  refine wpAnyH_ready (rs := [7]) (by kernel_rfl) (by simp) ?_
  refine AllReadyH.cons rfl (fun K hK => ?_) AllReadyH.nil
  simp only [List.getElem_toArray, List.getElem_cons_succ, List.getElem_cons_zero]
  rw [if_pos (by rfl)]
  go_simp
  refine hK.out _ _ N4.out (fun hHeld => ?_)
  clear hK K
  try simp only [Act.put, List.getElem_toArray, List.getElem_cons_succ, List.getElem_cons_zero, List.setIfInBounds_toArray, List.set_cons_zero, List.set_cons_succ]
  refine wpAnyH_done (by kernel_rfl) ?_ _
  clear hrun
  go_wp2
  refine bodyPost_end (results_none rfl _ _ _) rfl ?_
  exact ⟨rfl, H4.out.1, H4.out.2⟩

set_option maxRecDepth 20000 in
set_option maxHeartbeats 2000000 in
theorem complete1_any (S B Kb Sb : Nat) (room : Int) (l : List Ms) (clock : Nat) (k : K3) (W : World) (h : ShIs W S B room l clock 1)
    (hK : W.heap[Kb]? = some (.cells #[.int .i64 k.c, .int .i64 k.f, .int .u64 k.s] 41 (0, 0))) (hS : W.heap[Sb]? = some (.cells #[.pointer (some ⟨S, 0, none⟩)] 68 (0, 0))) :
    Calls Tryz.prog 83 #[.pointer (some ⟨Kb, 0, none⟩), .pointer (some ⟨Sb, 0, none⟩)] W fun e w' => e = .returned (.tuple #[]) ∧ ShIs w' S B room (putM k ⟨k, 3, 0⟩ l clock).1 (putM k ⟨k, 3, 0⟩ l clock).2 1 ∧ Only2 S B W w' := by
  have hno : Kb ≠ B ∧ Sb ≠ B := by
    have h9 : W.heap[B]? = some (.map (l.map toM).toArray clock) := h.map
    refine ⟨fun e => ?_, fun e => ?_⟩
    · rw [e, h9] at hK; injection hK with hK; cases hK
    · rw [e, h9] at hS; injection hS with hS; cases hS
  obtain ⟨Wp, hrun, hWp⟩ := put_run k ⟨k, 3, 0⟩ B l clock W.drew h.map
  generalize putM k ⟨k, 3, 0⟩ l clock = PL at hWp ⊢
  have e4 : ∀ k', k' ≠ B → Wp.heap[k']? = W.heap[k']? := fun k' hk' => by rw [hWp]; exact setM_off W.drew B PL.1 PL.2 k' hk'
  have h4 : ShIs Wp S B room PL.1 PL.2 1 := ⟨(e4 S h.ne).trans h.box, by rw [hWp]; exact setM_at (W := W.drew) h.map _ _⟩
  have hO4 : Only2 S B W Wp := by rw [hWp]; exact ((Only2.refl S B W).drew).setM PL.1 PL.2
  have hx : ShIs W S B room l clock 1 := h
  have n4 := And.intro ((e4 S h.ne).trans h.box) (And.intro ((e4 Kb hno.1).trans hK) ((e4 Sb hno.2).trans hS))
  have n0 := And.intro h.box (And.intro hK hS)
  have H4 := Lib.hid (And.intro h4 hO4)
  have N4 := Lib.hid n4
  have N0 := Lib.hid n0
  clear hWp e4 h4 hO4 n4 n0 hno hx h hK hS
  obtain ⟨kc, kf, ks⟩ := k
  unfold K3.val En.val En.cells at hrun
  dsimp only at N4 N0
  go_enter Tryz.func83, Tryz.ntmps83
  go_upto_region 0 with fail
  refine wp_region_held_drew (S := (fun V => V.heap[S]? = some (.cells #[.int .i32 1, .int .u32 0, .int .i64 room, .map (some B)] TS (0, 0)) ∧ V.heap[Kb]? = some (.cells #[.int .i64 kc, .int .i64 kf, .int .u64 ks] 41 (0, 0)) ∧ V.heap[Sb]? = some (.cells #[.pointer (some ⟨S, 0, none⟩)] 68 (0, 0)))) (by kernel_rfl) N0.out (fun hHeld => ?_)
  refine wpAnyH_take (i := 0) (oi := _) (v := ?_) rfl (by kernel_rfl) (by kernel_rfl) (by kernel_rfl) (fun _ _ _ h => h) (Or.inl ⟨by rfl, ?_⟩) (by assumption) ?_
  rotate_left
  · (intro V hSw; have q0 := cell_of_row V Sb 0 _ _ (0, 0) hSw.2.2; clear hSw; go_simp; try with_reducible rfl)
  try simp only [Act.put, List.getElem_toArray, List.getElem_cons_zero, List.setIfInBounds_toArray, List.set_cons_zero, List.set_cons_succ]
  refine wpAnyH_take (i := 1) (oi := _) (v := ?_) rfl (by kernel_rfl) (by kernel_rfl) (by kernel_rfl) (fun _ _ _ h => h) (Or.inl ⟨by rfl, ?_⟩) (by assumption) ?_
  rotate_left
  · (intro W hSw; (try dsimp only at hSw); go_simp; try with_reducible rfl)
  try simp only [Act.put, List.getElem_toArray, List.getElem_cons_succ, List.getElem_cons_zero, List.setIfInBounds_toArray, List.set_cons_zero, List.set_cons_succ]
  refine wpAnyH_take (i := 2) (oi := _) (v := ?_) rfl (by kernel_rfl) (by kernel_rfl) (by kernel_rfl) (fun _ _ _ h => h) (Or.inl ⟨by rfl, ?_⟩) (by assumption) ?_
  rotate_left
  · (intro W hSw; (try dsimp only at hSw); go_simp; try with_reducible rfl)
  try simp only [Act.put, List.getElem_toArray, List.getElem_cons_succ, List.getElem_cons_zero, List.setIfInBounds_toArray, List.set_cons_zero, List.set_cons_succ]
  refine wpAnyH_take (i := 3) (oi := _) (v := ?_) rfl (by kernel_rfl) (by kernel_rfl) (by kernel_rfl) (fun _ _ _ h => h) (Or.inl ⟨by rfl, ?_⟩) (by assumption) ?_
  rotate_left
  · (intro V hSw; have hq := cell_of_row V S 3 _ _ (0, 0) hSw.1; clear hSw; go_simp; try with_reducible rfl)
  try simp only [Act.put, List.getElem_toArray, List.getElem_cons_succ, List.getElem_cons_zero, List.setIfInBounds_toArray, List.set_cons_zero, List.set_cons_succ]
  refine wpAnyH_take (i := 4) (oi := _) (v := ?_) rfl (by kernel_rfl) (by kernel_rfl) (by kernel_rfl) (fun _ _ _ h => h) (Or.inl ⟨by rfl, ?_⟩) (by assumption) ?_
  rotate_left
  · (intro V hSw; have q0 := cell_of_row V Kb 0 _ _ (0, 0) hSw.2.1; have q1 := cell_of_row V Kb 1 _ _ (0, 0) hSw.2.1; have q2 := cell_of_row V Kb 2 _ _ (0, 0) hSw.2.1; clear hSw; go_simp; try with_reducible rfl)
  try simp only [Act.put, List.getElem_toArray, List.getElem_cons_succ, List.getElem_cons_zero, List.setIfInBounds_toArray, List.set_cons_zero, List.set_cons_succ]
  refine wpAnyH_take (i := 5) (oi := _) (v := ?_) rfl (by kernel_rfl) (by kernel_rfl) (by kernel_rfl) (fun _ _ _ h => h) (Or.inl ⟨by rfl, ?_⟩) (by assumption) ?_
  rotate_left
  · (intro V hSw; have q0 := cell_of_row V Kb 0 _ _ (0, 0) hSw.2.1; have q1 := cell_of_row V Kb 1 _ _ (0, 0) hSw.2.1; have q2 := cell_of_row V Kb 2 _ _ (0, 0) hSw.2.1; clear hSw; go_simp; try with_reducible rfl)
  try simp only [Act.put, List.getElem_toArray, List.getElem_cons_succ, List.getElem_cons_zero, List.setIfInBounds_toArray, List.set_cons_zero, List.set_cons_succ]
  refine wpAnyH_take (i := 6) (oi := _) (v := ?_) rfl (by kernel_rfl) (by kernel_rfl) (by kernel_rfl) (fun _ _ _ h => h) (Or.inl ⟨by rfl, ?_⟩) (by assumption) ?_
  rotate_left
  · (intro W hSw; (try dsimp only at hSw); go_simp; try with_reducible rfl)
  try simp only [Act.put, List.getElem_toArray, List.getElem_cons_succ, List.getElem_cons_zero, List.setIfInBounds_toArray, List.set_cons_zero, List.set_cons_succ]
  refine wpAnyH_ready (rs := [7]) (by kernel_rfl) (by simp) ?_
  refine AllReadyH.cons rfl (fun K hK => ?_) AllReadyH.nil
  simp only [List.getElem_toArray, List.getElem_cons_succ, List.getElem_cons_zero]
  rw [if_pos (by rfl)]
  go_simp
  refine hK.out _ _ N4.out (fun hHeld => ?_)
  clear hK K
  try simp only [Act.put, List.getElem_toArray, List.getElem_cons_succ, List.getElem_cons_zero, List.setIfInBounds_toArray, List.set_cons_zero, List.set_cons_succ]
  refine wpAnyH_done (by kernel_rfl) ?_ _
  clear hrun
  go_wp2
  refine bodyPost_end (results_none rfl _ _ _) rfl ?_
  exact ⟨rfl, H4.out.1, H4.out.2⟩

set_option maxRecDepth 20000 in
set_option maxHeartbeats 2000000 in
theorem expire1_any (S B Kb Sb : Nat) (room : Int) (l : List Ms) (clock : Nat) (k : K3) (W : World) (h : ShIs W S B room l clock 1)
    (hK : W.heap[Kb]? = some (.cells #[.int .i64 k.c, .int .i64 k.f, .int .u64 k.s] 41 (0, 0))) (hS : W.heap[Sb]? = some (.cells #[.pointer (some ⟨S, 0, none⟩)] 68 (0, 0))) :
    Calls Tryz.prog 51 #[.pointer (some ⟨Sb, 0, none⟩), .pointer (some ⟨Kb, 0, none⟩)] W fun e w' => e = .returned (.tuple #[]) ∧ ShIs w' S B room (delM k l) clock 1 ∧ Only2 S B W w' := by
  have hno : Kb ≠ B ∧ Sb ≠ B := by
    have h9 : W.heap[B]? = some (.map (l.map toM).toArray clock) := h.map
    refine ⟨fun e => ?_, fun e => ?_⟩
    · rw [e, h9] at hK; injection hK with hK; cases hK
    · rw [e, h9] at hS; injection hS with hS; cases hS
  obtain ⟨Wp, hrun, hWp⟩ := del_run k B l clock 0 W.drew h.map
  generalize delM k l = DL at hWp ⊢
  have e4 : ∀ k', k' ≠ B → Wp.heap[k']? = W.heap[k']? := fun k' hk' => by rw [hWp]; exact setM_off W.drew B DL clock k' hk'
  have h4 : ShIs Wp S B room DL clock 1 := ⟨(e4 S h.ne).trans h.box, by rw [hWp]; exact setM_at (W := W.drew) h.map _ _⟩
  have hO4 : Only2 S B W Wp := by rw [hWp]; exact ((Only2.refl S B W).drew).setM DL clock
  have hx : ShIs W S B room l clock 1 := h
  have n4 := And.intro ((e4 S h.ne).trans h.box) (And.intro ((e4 Kb hno.1).trans hK) ((e4 Sb hno.2).trans hS))
  have n0 := And.intro h.box (And.intro hK hS)
  have H4 := Lib.hid (And.intro h4 hO4)
  have N4 := Lib.hid n4
  have N0 := Lib.hid n0
  clear hWp e4 h4 hO4 n4 n0 hno hx h hK hS
  obtain ⟨kc, kf, ks⟩ := k
  unfold K3.val at hrun
  dsimp only at N4 N0
  go_enter Tryz.func51, Tryz.ntmps51
  go_upto_region 0 with fail
  refine wp_region_held_drew (S := (fun V => V.heap[S]? = some (.cells #[.int .i32 1, .int .u32 0, .int .i64 room, .map (some B)] TS (0, 0)) ∧ V.heap[Kb]? = some (.cells #[.int .i64 kc, .int .i64 kf, .int .u64 ks] 41 (0, 0)) ∧ V.heap[Sb]? = some (.cells #[.pointer (some ⟨S, 0, none⟩)] 68 (0, 0)))) (by kernel_rfl) N0.out (fun hHeld => ?_)
  refine wpAnyH_take (i := 0) (oi := _) (v := ?_) rfl (by kernel_rfl) (by kernel_rfl) (by kernel_rfl) (fun _ _ _ h => h) (Or.inl ⟨by rfl, ?_⟩) (by assumption) ?_
  rotate_left
  · (intro V hSw; have q0 := cell_of_row V Sb 0 _ _ (0, 0) hSw.2.2; clear hSw; go_simp; try with_reducible rfl)
  try simp only [Act.put, List.getElem_toArray, List.getElem_cons_zero, List.setIfInBounds_toArray, List.set_cons_zero, List.set_cons_succ]
  refine wpAnyH_take (i := 1) (oi := _) (v := ?_) rfl (by kernel_rfl) (by kernel_rfl) (by kernel_rfl) (fun _ _ _ h => h) (Or.inl ⟨by rfl, ?_⟩) (by assumption) ?_
  rotate_left
  · (intro W hSw; (try dsimp only at hSw); go_simp; try with_reducible rfl)
  try simp only [Act.put, List.getElem_toArray, List.getElem_cons_succ, List.getElem_cons_zero, List.setIfInBounds_toArray, List.set_cons_zero, List.set_cons_succ]
  refine wpAnyH_take (i := 2) (oi := _) (v := ?_) rfl (by kernel_rfl) (by kernel_rfl) (by kernel_rfl) (fun _ _ _ h => h) (Or.inl ⟨by rfl, ?_⟩) (by assumption) ?_
  rotate_left
  · (intro W hSw; (try dsimp only at hSw); go_simp; try with_reducible rfl)
  try simp only [Act.put, List.getElem_toArray, List.getElem_cons_succ, List.getElem_cons_zero, List.setIfInBounds_toArray, List.set_cons_zero, List.set_cons_succ]
  refine wpAnyH_take (i := 3) (oi := _) (v := ?_) rfl (by kernel_rfl) (by kernel_rfl) (by kernel_rfl) (fun _ _ _ h => h) (Or.inl ⟨by rfl, ?_⟩) (by assumption) ?_
  rotate_left
  · (intro V hSw; have hq := cell_of_row V S 3 _ _ (0, 0) hSw.1; clear hSw; go_simp; try with_reducible rfl)
  try simp only [Act.put, List.getElem_toArray, List.getElem_cons_succ, List.getElem_cons_zero, List.setIfInBounds_toArray, List.set_cons_zero, List.set_cons_succ]
  refine wpAnyH_take (i := 4) (oi := _) (v := ?_) rfl (by kernel_rfl) (by kernel_rfl) (by kernel_rfl) (fun _ _ _ h => h) (Or.inl ⟨by rfl, ?_⟩) (by assumption) ?_
  rotate_left
  · (intro V hSw; have q0 := cell_of_row V Kb 0 _ _ (0, 0) hSw.2.1; have q1 := cell_of_row V Kb 1 _ _ (0, 0) hSw.2.1; have q2 := cell_of_row V Kb 2 _ _ (0, 0) hSw.2.1; clear hSw; go_simp; try with_reducible rfl)
  try simp only [Act.put, List.getElem_toArray, List.getElem_cons_succ, List.getElem_cons_zero, List.setIfInBounds_toArray, List.set_cons_zero, List.set_cons_succ]
  refine wpAnyH_ready (rs := [5]) (by kernel_rfl) (by simp) ?_
  refine AllReadyH.cons rfl (fun K hK => ?_) AllReadyH.nil
  simp only [List.getElem_toArray, List.getElem_cons_succ, List.getElem_cons_zero]
  rw [if_pos (by rfl)]
  go_simp
  refine hK.out _ _ N4.out (fun hHeld => ?_)
  clear hK K
  try simp only [Act.put, List.getElem_toArray, List.getElem_cons_succ, List.getElem_cons_zero, List.setIfInBounds_toArray, List.set_cons_zero, List.set_cons_succ]
  refine wpAnyH_done (by kernel_rfl) ?_ _
  clear hrun
  go_wp2
  refine bodyPost_end (results_none rfl _ _ _) rfl ?_
  exact ⟨rfl, H4.out.1, H4.out.2⟩

end Go.Proofs.YtlpnecmcncekcaaGreat.Mk
