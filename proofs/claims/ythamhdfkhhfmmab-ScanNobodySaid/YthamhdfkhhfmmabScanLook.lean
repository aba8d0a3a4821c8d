/- A scan's Look, in a world as it is made, or in none. -/
import Derived.Test.YthamhdfkhhfmmabScanBase
import Derived.WalkMore
namespace Go.Proofs.Ythamhdfkhhfmmab.Wd
open Go Go.RowKit Conf Go.MapKept

theorem res_cbb {fn : Func} {p q r : Tmp} {ty : TypeId} (h : fn.results = #[.cell p ty, .tmp q, .tmp r]) (tmps : Array Value) (w : World) (g : Nat) (cs : Array Value)
    (hp : tmps.getD p undef = .pointer (some ⟨g, 0, none⟩)) (hl : (loadVar ty ⟨g, 0, none⟩).run Try.prog w = .ok (.agg cs) w) :
    (results fn tmps).run Try.prog w = .ok (.tuple #[.agg cs, tmps.getD q undef, tmps.getD r undef]) w := by
  have hp' : tmps[p]?.getD undef = .pointer (some ⟨g, 0, none⟩) := by simpa using hp
  simp [results, h, hp', asAddr, hl]
theorem zero_key (W : World) : (zeroValue TKy).run Try.prog W = .ok (.agg zK) W := by kernel_rfl
set_option maxRecDepth 20000 in
set_option maxHeartbeats 2000000 in
theorem look_nil (p : Option Addr) (V : World) : Calls Try.prog 9 #[.pointer none, .pointer p] V fun e w' => e = .returned (.tuple #[.agg zK, .bool false, .bool false]) ∧ Below V.heap.size V w' := by
  obtain ⟨C, hC⟩ : ∃ C, C = zK := ⟨_, rfl⟩
  have hz := fun W => hC ▸ zero_key W
  have hi : (Try.prog.info? TKy).map (·.size) = some C.size := hC ▸ i3z
  have ho : C.all (·.oneCell') = true := hC ▸ zK_one
  have hs : C.size = 3 := by rw [hC]; rfl
  have hR : (V.alloc (.cells #[.int .i64 0, .int .i64 0, .int .u64 0] TKy)).heap[V.heap.size]? = some (.cells C TKy (0, 0)) := by rw [hC]; exact heap_alloc_new V _
  have hb := (Below.refl V.heap.size V).alloc (Nat.le_refl _) (.cells #[.int .i64 0, .int .i64 0, .int .u64 0] TKy)
  rw [← hC]
  obtain ⟨w0, hw0⟩ : ∃ X, X = V.alloc (.cells #[.int .i64 0, .int .i64 0, .int .u64 0] TKy) := ⟨_, rfl⟩
  rw [← hw0] at hR hb
  have HR' := setRow_heap w0 V.heap.size _ C TKy (0, 0) hR
  have HB9 := below_setRow hb (Nat.le_refl _) C
  have hst := hstN w0 V.heap.size TKy C C rfl ho hR
  have hzv := hz w0
  obtain ⟨w9, hw9⟩ : ∃ X, X = w0.setRow V.heap.size C := ⟨_, rfl⟩
  rw [← hw9] at hst HR' HB9
  have HH := Lib.hid (And.intro HR' (And.intro HB9 hi))
  clear hC hz ho hR hb hw9 HR' HB9 hi
  go_enter Try.func9, Try.ntmps9
  go_wp2
  rw [← hw0]
  clear hw0
  go_step3
  go_wp2_with fail
  rw [Exit.noGoto_ret]
  refine bodyPost_ret (v := .tuple #[.agg C, .bool false, .bool false]) (res_cbb Try.results9 _ _ V.heap.size C rfl (run_loadVar_row w9 V.heap.size TKy TKy C (0, 0) _ HH.out.1 Try.underlying38 rfl HH.out.2.2)) rfl ⟨rfl, HH.out.2.1⟩
/-- what is held while an event is looked at -/
abbrev SS (S R : Nat) (C : Array Value) (pl : Option Addr) (V : World) : Prop := V.heap[S]? = some (.cells #[.int .i64 0, .int .i64 0] TSc (0, 0)) ∧ V.heap[R]? = some (.cells C TKy (0, 0)) ∧ LdIs V pl
theorem ss_below {S R : Nat} {C : Array Value} {pl : Option Addr} {V V' : World} (h : SS S R C pl V) (hb : Below V.heap.size V V') : SS S R C pl V' :=
  ⟨(hb.block _ (lt_of h.1)).trans h.1, (hb.block _ (lt_of h.2.1)).trans h.2.1, h.2.2.below hb⟩
theorem zE_size : zE.size = 8 := by rfl
set_option maxRecDepth 20000 in
set_option maxHeartbeats 4000000 in
theorem look_core {V : World} (S : Nat) (pw pl : Option Addr) (hS : V.heap[S]? = some (.cells #[.int .i64 0, .int .i64 0] TSc (0, 0)))
    (HG : ∀ V', Below V.heap.size V V' → Calls Try.prog 15 #[.pointer pw, .int .i64 0] V' fun e w' => e = .returned (.pointer pl) ∧ w' = V')
    (HL : LdIs V pl) : Calls Try.prog 9 #[.pointer (some ⟨S, 0, none⟩), .pointer pw] V fun e w' => e = .returned (.tuple #[.agg zK, .bool false, .bool false]) ∧ Below V.heap.size V w' := by
  obtain ⟨C, hC⟩ : ∃ C, C = zK := ⟨_, rfl⟩
  have hi : (Try.prog.info? TKy).map (·.size) = some C.size := hC ▸ i3z
  have ho : C.all (·.oneCell') = true := hC ▸ zK_one
  have hs : C.size = 3 := by rw [hC]; rfl
  have hR : (V.alloc (.cells #[.int .i64 0, .int .i64 0, .int .u64 0] TKy)).heap[V.heap.size]? = some (.cells C TKy (0, 0)) := by rw [hC]; exact heap_alloc_new V _
  have hb := (Below.refl V.heap.size V).alloc (Nat.le_refl _) (.cells #[.int .i64 0, .int .i64 0, .int .u64 0] TKy)
  have hS0 := (hb.block _ (lt_of hS)).trans hS
  have hL0 := HL.below hb
  rw [← hC]
  obtain ⟨w0, hw0⟩ : ∃ X, X = V.alloc (.cells #[.int .i64 0, .int .i64 0, .int .u64 0] TKy) := ⟨_, rfl⟩
  rw [← hw0] at hR hb hS0 hL0
  have s0 := cell_of_row w0 S 0 _ _ (0, 0) hS0
  have HG := Lib.hid HG
  have H0 := Lib.hid (And.intro hR (And.intro hb (And.intro hS0 (And.intro hL0 (lt_of hS)))))
  have HC := Lib.hid (And.intro hi (And.intro ho hs))
  clear hC hi ho hs hR hb hS0 hL0 hS HL
  go_enter Try.func9, Try.ntmps9
  go_wp2
  rw [← hw0]
  clear hw0
  go_step3
  go_wp2_with fail
  refine (dir_in 0 (by decide) (by decide) _).mono ?_
  rintro _ w1 ⟨rfl, k, rfl⟩
  go_wp2_with fail
  go_step3
  go_wp2_with fail
  obtain ⟨w1, hw1⟩ : ∃ X, X = w0.drewN k := ⟨_, rfl⟩
  have hss : SS S V.heap.size C pl w1 := by rw [hw1]; exact ⟨H0.out.2.2.1, H0.out.1, H0.out.2.2.2.1.below (below_drewN (Below.refl _ _) k)⟩
  have hb1 : Below V.heap.size V w1 := by rw [hw1]; exact below_drewN H0.out.2.1 k
  rw [← hw1]
  clear hw1 H0 s0 w0
  refine wp_loop_rounds 1 ?_
  rw [rounds_succ]
  go_upto_region 5 with fail
  refine wp_region_held_drew (S := SS S V.heap.size C pl) (by kernel_rfl) ⟨hss.1, hss.2.1, hss.2.2.below (Below.refl w1.heap.size w1).drew⟩ (fun hHeld => ?_)
  have hb2 : Below V.heap.size V w1.drew := hb1.drew
  obtain ⟨w2, hw2⟩ : ∃ X, X = w1.drew := ⟨_, rfl⟩
  rw [← hw2] at hHeld hb2 ⊢
  have HS := Lib.hid (And.intro (show SS S V.heap.size C pl w2 from hHeld) hb2)
  clear hw2 hss hb1 hb2 w1
  refine wpAnyH_take (i := 0) (oi := _) (v := ?_) rfl (by kernel_rfl) (by kernel_rfl) (by kernel_rfl) (fun _ _ _ h => h) (Or.inl ⟨by rfl, ?_⟩) (by assumption) ?_
  rotate_left
  · (intro W hSw; (try dsimp only at hSw); go_simp; try with_reducible rfl)
  try simp only [Act.put, List.getElem_toArray, List.getElem_cons_zero, List.setIfInBounds_toArray, List.set_cons_zero, List.set_cons_succ]
  refine wpAnyH_take (i := 1) (oi := _) (v := ?_) rfl (by kernel_rfl) (by kernel_rfl) (by kernel_rfl) (fun _ _ _ h => h) (Or.inl ⟨by rfl, ?_⟩) (by assumption) ?_
  rotate_left
  · (intro W hSw; (try dsimp only at hSw); go_simp; try with_reducible rfl)
  try simp only [Act.put, List.getElem_toArray, List.getElem_cons_succ, List.getElem_cons_zero, List.setIfInBounds_toArray, List.set_cons_zero, List.set_cons_succ]
  refine wpAnyH_take (i := 3) (oi := _) (v := ?_) rfl (by kernel_rfl) (by kernel_rfl) (by kernel_rfl) (fun _ _ _ h => h) (Or.inl ⟨by rfl, ?_⟩) (by assumption) ?_
  rotate_left
  · (intro W hSw; (try dsimp only at hSw); go_simp; try with_reducible rfl)
  try simp only [Act.put, List.getElem_toArray, List.getElem_cons_succ, List.getElem_cons_zero, List.setIfInBounds_toArray, List.set_cons_zero, List.set_cons_succ]
  refine wpAnyH_take (i := 4) (oi := _) (v := ?_) rfl (by kernel_rfl) (by kernel_rfl) (by kernel_rfl) (fun _ _ _ h => h) (Or.inl ⟨by rfl, ?_⟩) (by assumption) ?_
  rotate_left
  · (intro W hSw; (try dsimp only at hSw); go_simp; try with_reducible rfl)
  try simp only [Act.put, List.getElem_toArray, List.getElem_cons_succ, List.getElem_cons_zero, List.setIfInBounds_toArray, List.set_cons_zero, List.set_cons_succ]
  refine wpAnyH_take (i := 5) (oi := _) (v := ?_) rfl (by kernel_rfl) (by kernel_rfl) (by kernel_rfl) (fun _ _ _ h => h) (Or.inl ⟨by rfl, ?_⟩) (by assumption) ?_
  rotate_left
  · (intro W hSw; (try dsimp only at hSw); go_simp; try with_reducible rfl)
  try simp only [Act.put, List.getElem_toArray, List.getElem_cons_succ, List.getElem_cons_zero, List.setIfInBounds_toArray, List.set_cons_zero, List.set_cons_succ]
  refine wpAnyH_take (i := 6) (oi := _) (v := ?_) rfl (by kernel_rfl) (by kernel_rfl) (by kernel_rfl) (fun _ _ _ h => h) (Or.inl ⟨by rfl, ?_⟩) (by assumption) ?_
  rotate_left
  · (intro V' hSw; have q0 := cell_of_row V' S 1 _ _ (0, 0) hSw.1; clear hSw; go_simp; try with_reducible rfl)
  try simp only [Act.put, List.getElem_toArray, List.getElem_cons_succ, List.getElem_cons_zero, List.setIfInBounds_toArray, List.set_cons_zero, List.set_cons_succ]
  refine wpAnyH_ready (rs := [2, 11]) (by kernel_rfl) (by simp) ?_
  refine AllReadyH.cons rfl (fun K hK => ?_) (AllReadyH.cons rfl (fun K hK => ?_) AllReadyH.nil)
  · simp only [List.getElem_toArray, List.getElem_cons_succ, List.getElem_cons_zero]
    rw [if_pos (by rfl)]
    go_simp
    refine (HG.out _ HS.out.2).mono ?_
    rintro _ w7 ⟨rfl, hw⟩
    obtain rfl := hw.symm
    clear hw
    go_wp2_with fail
    refine hK.out _ _ HS.out.1 (fun hHeld => ?_)
    clear hK K
    try simp only [Act.put, List.getElem_toArray, List.getElem_cons_succ, List.getElem_cons_zero, List.setIfInBounds_toArray, List.set_cons_zero, List.set_cons_succ]
    refine wpAnyH_ready (rs := [7, 11]) (by kernel_rfl) (by simp) ?_
    refine AllReadyH.cons rfl (fun K hK => ?_) (AllReadyH.cons rfl (fun K hK => ?_) AllReadyH.nil)
    · simp only [List.getElem_toArray, List.getElem_cons_succ, List.getElem_cons_zero]
      rw [if_pos (by rfl)]
      go_simp
      refine (event_any HS.out.1.2.2).mono ?_
      rintro _ w4 ⟨rfl, b4⟩
      go_wp2_with fail
      have HS4 := Lib.hid (And.intro (ss_below HS.out.1 b4) (HS.out.2.trans (b4.mono HS.out.2.size)))
      clear b4 HS
      have HS := HS4
      clear HS4
      refine hK.out _ _ HS.out.1 (fun hHeld => ?_)
      clear hK K
      try simp only [Act.put, List.getElem_toArray, List.getElem_cons_succ, List.getElem_cons_zero, List.setIfInBounds_toArray, List.set_cons_zero, List.set_cons_succ]
      refine wpAnyH_take (i := 8) (oi := _) (v := ?_) rfl (by kernel_rfl) (by kernel_rfl) (by kernel_rfl) (fun _ _ _ h => h) (Or.inl ⟨by rfl, ?_⟩) (by assumption) ?_
      rotate_left
      · (intro W hSw; (try dsimp only at hSw); go_simp; try with_reducible rfl)
      try simp only [Act.put, List.getElem_toArray, List.getElem_cons_succ, List.getElem_cons_zero, List.setIfInBounds_toArray, List.set_cons_zero, List.set_cons_succ]
      refine wpAnyH_take (i := 9) (oi := _) (v := ?_) rfl (by kernel_rfl) (by kernel_rfl) (by kernel_rfl) (fun _ _ _ h => h) (Or.inl ⟨by rfl, ?_⟩) (by assumption) ?_
      rotate_left
      · (intro W hSw; (try dsimp only at hSw); go_simp; try with_reducible rfl)
      try simp only [Act.put, List.getElem_toArray, List.getElem_cons_succ, List.getElem_cons_zero, List.setIfInBounds_toArray, List.set_cons_zero, List.set_cons_succ]
      refine wpAnyH_take (i := 10) (oi := _) (v := ?_) rfl (by kernel_rfl) (by kernel_rfl) (by kernel_rfl) (fun _ _ _ h => h) (Or.inl ⟨by rfl, ?_⟩) (by assumption) ?_
      rotate_left
      · (intro W hSw; (try dsimp only at hSw); go_simp; try with_reducible rfl)
      try simp only [Act.put, List.getElem_toArray, List.getElem_cons_succ, List.getElem_cons_zero, List.setIfInBounds_toArray, List.set_cons_zero, List.set_cons_succ]
      refine wpAnyH_ready (rs := [11]) (by kernel_rfl) (by simp) ?_
      refine AllReadyH.cons rfl (fun K hK => ?_) AllReadyH.nil
      simp only [List.getElem_toArray, List.getElem_cons_succ, List.getElem_cons_zero]
      rw [if_pos (by rfl)]
      go_simp
      refine hK.out _ _ (ss_below HS.out.1 ((Below.refl _ w4).alloc (Nat.le_refl _) _)) (fun hHeld => ?_)
      clear hK K
      try simp only [Act.put, List.getElem_toArray, List.getElem_cons_succ, List.getElem_cons_zero, List.setIfInBounds_toArray, List.set_cons_zero, List.set_cons_succ]
      have ha := heap_alloc_new w4 (.cells #[.int .i64 0, .int .u64 0, .int .i64 0, .int .i64 0, .int .u64 0, .int .u64 0, .string ⟨#[]⟩, .string ⟨#[]⟩] TEv)
      have hb5 := (Below.refl w4.heap.size w4).alloc (Nat.le_refl _) (.cells #[.int .i64 0, .int .u64 0, .int .i64 0, .int .i64 0, .int .u64 0, .int .u64 0, .string ⟨#[]⟩, .string ⟨#[]⟩] TEv)
      obtain ⟨w5, hw5⟩ : ∃ X, X = w4.alloc (.cells #[.int .i64 0, .int .u64 0, .int .i64 0, .int .i64 0, .int .u64 0, .int .u64 0, .string ⟨#[]⟩, .string ⟨#[]⟩] TEv) := ⟨_, rfl⟩
      obtain ⟨a, hA⟩ : ∃ X, X = w4.heap.size := ⟨_, rfl⟩
      rw [← hw5] at ha hb5 hHeld ⊢
      rw [← hA] at ha ⊢
      have HA := Lib.hid hA
      clear hw5
      clear hA
      have hst := hstN w5 a TEv #[.int .i64 0, .int .u64 0, .int .i64 0, .int .i64 0, .int .u64 0, .int .u64 0, .string ⟨#[]⟩, .string ⟨#[]⟩] zE (by rfl) zE_one ha
      have hz8 := zE_size
      have hb6 : Below w4.heap.size w4 (w5.setRow a zE) := below_setRow hb5 (by rw [HA.out]; exact Nat.le_refl _) zE
      have h6 := ss_below HS.out.1 hb6
      have HF : Hid (SS S V.heap.size C pl (w5.setRow a zE) ∧ Below V.heap.size V (w5.setRow a zE)) := Lib.hid ⟨h6, HS.out.2.trans (hb6.mono HS.out.2.size)⟩
      obtain ⟨w6, hw6⟩ : ∃ X, X = w5.setRow a zE := ⟨_, rfl⟩
      rw [← hw6] at hst HF
      clear hb6 h6 hw6
      refine wpAnyH_ready (rs := [12]) (by kernel_rfl) (by simp) ?_
      refine AllReadyH.cons rfl (fun K hK => ?_) AllReadyH.nil
      simp only [List.getElem_toArray, List.getElem_cons_succ, List.getElem_cons_zero]
      rw [if_pos (by rfl)]
      go_simp
      refine hK.out _ _ HF.out.1 (fun hHeld => ?_)
      clear hK K
      try simp only [Act.put, List.getElem_toArray, List.getElem_cons_succ, List.getElem_cons_zero, List.setIfInBounds_toArray, List.set_cons_zero, List.set_cons_succ]
      refine wpAnyH_take (i := 13) (oi := _) (v := ?_) rfl (by kernel_rfl) (by kernel_rfl) (by kernel_rfl) (fun _ _ _ h => h) (Or.inl ⟨by rfl, ?_⟩) (by assumption) ?_
      rotate_left
      · (intro W hSw; (try dsimp only at hSw); go_simp; try with_reducible rfl)
      try simp only [Act.put, List.getElem_toArray, List.getElem_cons_succ, List.getElem_cons_zero, List.setIfInBounds_toArray, List.set_cons_zero, List.set_cons_succ]
      clear hst hz8
      refine wpAnyH_done (by kernel_rfl) ?_ _
      go_upto_region 11 with fail
      refine wp_region_lit ?_
      refine wpList_load_row rfl TKy _ rfl V.heap.size rfl TKy C (0, 0) _ HF.out.1.2.1 Try.underlying38 rfl HC.out.1 ?_
      refine wpList_step (fun K hK => ?_)
      go_simp
      refine hK _ _ ?_
      clear hK K
      refine wpList_step (fun K hK => ?_)
      go_simp
      refine hK _ _ ?_
      clear hK K
      refine wpList_store_rowTo rfl TKy _ _ rfl rfl V.heap.size C rfl rfl TKy _ HF.out.1.2.1 HC.out.1 rfl HC.out.2.1 ?_
      refine wpList_step (fun K hK => ?_)
      go_simp
      refine hK _ _ ?_
      clear hK K
      refine wpList_step (fun K hK => ?_)
      go_simp
      refine hK _ _ ?_
      clear hK K
      refine wpList_nil ?_
      have HR' := setRow_heap w6 V.heap.size _ C TKy (0, 0) HF.out.1.2.1
      have HB9 := below_setRow HF.out.2 (Nat.le_refl _) C
      obtain ⟨w9, hw9⟩ : ∃ X, X = w6.setRow V.heap.size C := ⟨_, rfl⟩
      rw [← hw9] at HR' HB9 ⊢
      clear hw9
      go_wp2_with fail
      rw [Exit.noGoto_ret]
      refine bodyPost_ret (v := .tuple #[.agg C, .bool false, .bool false]) (res_cbb Try.results9 _ _ V.heap.size C rfl (run_loadVar_row w9 V.heap.size TKy TKy C (0, 0) _ HR' Try.underlying38 rfl HC.out.1)) rfl ⟨rfl, HB9⟩
    · simp only [List.getElem_toArray, List.getElem_cons_succ, List.getElem_cons_zero]
      rw [if_pos (by rfl)]
      go_simp
      refine hK.out _ _ (ss_below HS.out.1 ((Below.refl _ w2).alloc (Nat.le_refl _) _)) (fun hHeld => ?_)
      clear hK K
      try simp only [Act.put, List.getElem_toArray, List.getElem_cons_succ, List.getElem_cons_zero, List.setIfInBounds_toArray, List.set_cons_zero, List.set_cons_succ]
      have ha := heap_alloc_new w2 (.cells #[.int .i64 0, .int .u64 0, .int .i64 0, .int .i64 0, .int .u64 0, .int .u64 0, .string ⟨#[]⟩, .string ⟨#[]⟩] TEv)
      have hb3 := (Below.refl w2.heap.size w2).alloc (Nat.le_refl _) (.cells #[.int .i64 0, .int .u64 0, .int .i64 0, .int .i64 0, .int .u64 0, .int .u64 0, .string ⟨#[]⟩, .string ⟨#[]⟩] TEv)
      obtain ⟨w3, hw3⟩ : ∃ X, X = w2.alloc (.cells #[.int .i64 0, .int .u64 0, .int .i64 0, .int .i64 0, .int .u64 0, .int .u64 0, .string ⟨#[]⟩, .string ⟨#[]⟩] TEv) := ⟨_, rfl⟩
      obtain ⟨a, hA⟩ : ∃ X, X = w2.heap.size := ⟨_, rfl⟩
      rw [← hw3] at ha hb3 hHeld ⊢
      rw [← hA] at ha ⊢
      have HA := Lib.hid hA
      have HS3 := Lib.hid (And.intro (show SS S V.heap.size C pl w3 from hHeld) (And.intro (HS.out.2.trans (hb3.mono HS.out.2.size)) (And.intro hb3 ha)))
      clear hw3 hA ha hb3
      refine wpAnyH_ready (rs := [7]) (by kernel_rfl) (by simp) ?_
      refine AllReadyH.cons rfl (fun K hK => ?_) AllReadyH.nil
      simp only [List.getElem_toArray, List.getElem_cons_succ, List.getElem_cons_zero]
      rw [if_pos (by rfl)]
      go_simp
      refine (event_any HS3.out.1.2.2).mono ?_
      rintro _ w4 ⟨rfl, b4⟩
      go_wp2_with fail
      refine hK.out _ _ (ss_below HS3.out.1 b4) (fun hHeld => ?_)
      clear hK K
      try simp only [Act.put, List.getElem_toArray, List.getElem_cons_succ, List.getElem_cons_zero, List.setIfInBounds_toArray, List.set_cons_zero, List.set_cons_succ]
      refine wpAnyH_take (i := 8) (oi := _) (v := ?_) rfl (by kernel_rfl) (by kernel_rfl) (by kernel_rfl) (fun _ _ _ h => h) (Or.inl ⟨by rfl, ?_⟩) (by assumption) ?_
      rotate_left
      · (intro W hSw; (try dsimp only at hSw); go_simp; try with_reducible rfl)
      try simp only [Act.put, List.getElem_toArray, List.getElem_cons_succ, List.getElem_cons_zero, List.setIfInBounds_toArray, List.set_cons_zero, List.set_cons_succ]
      refine wpAnyH_take (i := 9) (oi := _) (v := ?_) rfl (by kernel_rfl) (by kernel_rfl) (by kernel_rfl) (fun _ _ _ h => h) (Or.inl ⟨by rfl, ?_⟩) (by assumption) ?_
      rotate_left
      · (intro W hSw; (try dsimp only at hSw); go_simp; try with_reducible rfl)
      try simp only [Act.put, List.getElem_toArray, List.getElem_cons_succ, List.getElem_cons_zero, List.setIfInBounds_toArray, List.set_cons_zero, List.set_cons_succ]
      refine wpAnyH_take (i := 10) (oi := _) (v := ?_) rfl (by kernel_rfl) (by kernel_rfl) (by kernel_rfl) (fun _ _ _ h => h) (Or.inl ⟨by rfl, ?_⟩) (by assumption) ?_
      rotate_left
      · (intro W hSw; (try dsimp only at hSw); go_simp; try with_reducible rfl)
      try simp only [Act.put, List.getElem_toArray, List.getElem_cons_succ, List.getElem_cons_zero, List.setIfInBounds_toArray, List.set_cons_zero, List.set_cons_succ]
      have ha := (b4.block _ (lt_of HS3.out.2.2.2)).trans HS3.out.2.2.2
      have hb5 := HS3.out.2.2.1.trans (b4.mono HS3.out.2.2.1.size)
      obtain ⟨w5, hw5⟩ : ∃ X, X = w4 := ⟨_, rfl⟩
      rw [← hw5] at ha hb5 hHeld ⊢
      clear hw5 b4
      have hst := hstN w5 a TEv #[.int .i64 0, .int .u64 0, .int .i64 0, .int .i64 0, .int .u64 0, .int .u64 0, .string ⟨#[]⟩, .string ⟨#[]⟩] zE (by rfl) zE_one ha
      have hz8 := zE_size
      have hb6 : Below w2.heap.size w2 (w5.setRow a zE) := below_setRow hb5 (by rw [HA.out]; exact Nat.le_refl _) zE
      have h6 := ss_below HS.out.1 hb6
      have HF : Hid (SS S V.heap.size C pl (w5.setRow a zE) ∧ Below V.heap.size V (w5.setRow a zE)) := Lib.hid ⟨h6, HS.out.2.trans (hb6.mono HS.out.2.size)⟩
      obtain ⟨w6, hw6⟩ : ∃ X, X = w5.setRow a zE := ⟨_, rfl⟩
      rw [← hw6] at hst HF
      clear hb6 h6 hw6
      refine wpAnyH_ready (rs := [12]) (by kernel_rfl) (by simp) ?_
      refine AllReadyH.cons rfl (fun K hK => ?_) AllReadyH.nil
      simp only [List.getElem_toArray, List.getElem_cons_succ, List.getElem_cons_zero]
      rw [if_pos (by rfl)]
      go_simp
      refine hK.out _ _ HF.out.1 (fun hHeld => ?_)
      clear hK K
      try simp only [Act.put, List.getElem_toArray, List.getElem_cons_succ, List.getElem_cons_zero, List.setIfInBounds_toArray, List.set_cons_zero, List.set_cons_succ]
      refine wpAnyH_take (i := 13) (oi := _) (v := ?_) rfl (by kernel_rfl) (by kernel_rfl) (by kernel_rfl) (fun _ _ _ h => h) (Or.inl ⟨by rfl, ?_⟩) (by assumption) ?_
      rotate_left
      · (intro W hSw; (try dsimp only at hSw); go_simp; try with_reducible rfl)
      try simp only [Act.put, List.getElem_toArray, List.getElem_cons_succ, List.getElem_cons_zero, List.setIfInBounds_toArray, List.set_cons_zero, List.set_cons_succ]
      clear hst hz8
      refine wpAnyH_done (by kernel_rfl) ?_ _
      go_upto_region 11 with fail
      refine wp_region_lit ?_
      refine wpList_load_row rfl TKy _ rfl V.heap.size rfl TKy C (0, 0) _ HF.out.1.2.1 Try.underlying38 rfl HC.out.1 ?_
      refine wpList_step (fun K hK => ?_)
      go_simp
      refine hK _ _ ?_
      clear hK K
      refine wpList_step (fun K hK => ?_)
      go_simp
      refine hK _ _ ?_
      clear hK K
      refine wpList_store_rowTo rfl TKy _ _ rfl rfl V.heap.size C rfl rfl TKy _ HF.out.1.2.1 HC.out.1 rfl HC.out.2.1 ?_
      refine wpList_step (fun K hK => ?_)
      go_simp
      refine hK _ _ ?_
      clear hK K
      refine wpList_step (fun K hK => ?_)
      go_simp
      refine hK _ _ ?_
      clear hK K
      refine wpList_nil ?_
      have HR' := setRow_heap w6 V.heap.size _ C TKy (0, 0) HF.out.1.2.1
      have HB9 := below_setRow HF.out.2 (Nat.le_refl _) C
      obtain ⟨w9, hw9⟩ : ∃ X, X = w6.setRow V.heap.size C := ⟨_, rfl⟩
      rw [← hw9] at HR' HB9 ⊢
      clear hw9
      go_wp2_with fail
      rw [Exit.noGoto_ret]
      refine bodyPost_ret (v := .tuple #[.agg C, .bool false, .bool false]) (res_cbb Try.results9 _ _ V.heap.size C rfl (run_loadVar_row w9 V.heap.size TKy TKy C (0, 0) _ HR' Try.underlying38 rfl HC.out.1)) rfl ⟨rfl, HB9⟩
  · simp only [List.getElem_toArray, List.getElem_cons_succ, List.getElem_cons_zero]
    rw [if_pos (by rfl)]
    go_simp
    refine hK.out _ _ (ss_below HS.out.1 ((Below.refl _ w2).alloc (Nat.le_refl _) _)) (fun hHeld => ?_)
    clear hK K
    try simp only [Act.put, List.getElem_toArray, List.getElem_cons_succ, List.getElem_cons_zero, List.setIfInBounds_toArray, List.set_cons_zero, List.set_cons_succ]
    have ha := heap_alloc_new w2 (.cells #[.int .i64 0, .int .u64 0, .int .i64 0, .int .i64 0, .int .u64 0, .int .u64 0, .string ⟨#[]⟩, .string ⟨#[]⟩] TEv)
    have hb3 := (Below.refl w2.heap.size w2).alloc (Nat.le_refl _) (.cells #[.int .i64 0, .int .u64 0, .int .i64 0, .int .i64 0, .int .u64 0, .int .u64 0, .string ⟨#[]⟩, .string ⟨#[]⟩] TEv)
    obtain ⟨w3, hw3⟩ : ∃ X, X = w2.alloc (.cells #[.int .i64 0, .int .u64 0, .int .i64 0, .int .i64 0, .int .u64 0, .int .u64 0, .string ⟨#[]⟩, .string ⟨#[]⟩] TEv) := ⟨_, rfl⟩
    obtain ⟨a, hA⟩ : ∃ X, X = w2.heap.size := ⟨_, rfl⟩
    rw [← hw3] at ha hb3 hHeld ⊢
    rw [← hA] at ha ⊢
    have HA := Lib.hid hA
    have HS3 := Lib.hid (And.intro (show SS S V.heap.size C pl w3 from hHeld) (And.intro (HS.out.2.trans (hb3.mono HS.out.2.size)) (And.intro hb3 ha)))
    clear hw3 hA ha hb3
    refine wpAnyH_ready (rs := [2]) (by kernel_rfl) (by simp) ?_
    refine AllReadyH.cons rfl (fun K hK => ?_) AllReadyH.nil
    simp only [List.getElem_toArray, List.getElem_cons_succ, List.getElem_cons_zero]
    rw [if_pos (by rfl)]
    go_simp
    refine (HG.out _ HS3.out.2.1).mono ?_
    rintro _ w7 ⟨rfl, hw⟩
    obtain rfl := hw.symm
    clear hw
    go_wp2_with fail
    refine hK.out _ _ HS3.out.1 (fun hHeld => ?_)
    clear hK K
    try simp only [Act.put, List.getElem_toArray, List.getElem_cons_succ, List.getElem_cons_zero, List.setIfInBounds_toArray, List.set_cons_zero, List.set_cons_succ]
    refine wpAnyH_ready (rs := [7]) (by kernel_rfl) (by simp) ?_
    refine AllReadyH.cons rfl (fun K hK => ?_) AllReadyH.nil
    simp only [List.getElem_toArray, List.getElem_cons_succ, List.getElem_cons_zero]
    rw [if_pos (by rfl)]
    go_simp
    refine (event_any HS3.out.1.2.2).mono ?_
    rintro _ w4 ⟨rfl, b4⟩
    go_wp2_with fail
    refine hK.out _ _ (ss_below HS3.out.1 b4) (fun hHeld => ?_)
    clear hK K
    try simp only [Act.put, List.getElem_toArray, List.getElem_cons_succ, List.getElem_cons_zero, List.setIfInBounds_toArray, List.set_cons_zero, List.set_cons_succ]
    refine wpAnyH_take (i := 8) (oi := _) (v := ?_) rfl (by kernel_rfl) (by kernel_rfl) (by kernel_rfl) (fun _ _ _ h => h) (Or.inl ⟨by rfl, ?_⟩) (by assumption) ?_
    rotate_left
    · (intro W hSw; (try dsimp only at hSw); go_simp; try with_reducible rfl)
    try simp only [Act.put, List.getElem_toArray, List.getElem_cons_succ, List.getElem_cons_zero, List.setIfInBounds_toArray, List.set_cons_zero, List.set_cons_succ]
    refine wpAnyH_take (i := 9) (oi := _) (v := ?_) rfl (by kernel_rfl) (by kernel_rfl) (by kernel_rfl) (fun _ _ _ h => h) (Or.inl ⟨by rfl, ?_⟩) (by assumption) ?_
    rotate_left
    · (intro W hSw; (try dsimp only at hSw); go_simp; try with_reducible rfl)
    try simp only [Act.put, List.getElem_toArray, List.getElem_cons_succ, List.getElem_cons_zero, List.setIfInBounds_toArray, List.set_cons_zero, List.set_cons_succ]
    refine wpAnyH_take (i := 10) (oi := _) (v := ?_) rfl (by kernel_rfl) (by kernel_rfl) (by kernel_rfl) (fun _ _ _ h => h) (Or.inl ⟨by rfl, ?_⟩) (by assumption) ?_
    rotate_left
    · (intro W hSw; (try dsimp only at hSw); go_simp; try with_reducible rfl)
    try simp only [Act.put, List.getElem_toArray, List.getElem_cons_succ, List.getElem_cons_zero, List.setIfInBounds_toArray, List.set_cons_zero, List.set_cons_succ]
    have ha := (b4.block _ (lt_of HS3.out.2.2.2)).trans HS3.out.2.2.2
    have hb5 := HS3.out.2.2.1.trans (b4.mono HS3.out.2.2.1.size)
    obtain ⟨w5, hw5⟩ : ∃ X, X = w4 := ⟨_, rfl⟩
    rw [← hw5] at ha hb5 hHeld ⊢
    clear hw5 b4
    have hst := hstN w5 a TEv #[.int .i64 0, .int .u64 0, .int .i64 0, .int .i64 0, .int .u64 0, .int .u64 0, .string ⟨#[]⟩, .string ⟨#[]⟩] zE (by rfl) zE_one ha
    have hz8 := zE_size
    have hb6 : Below w2.heap.size w2 (w5.setRow a zE) := below_setRow hb5 (by rw [HA.out]; exact Nat.le_refl _) zE
    have h6 := ss_below HS.out.1 hb6
    have HF : Hid (SS S V.heap.size C pl (w5.setRow a zE) ∧ Below V.heap.size V (w5.setRow a zE)) := Lib.hid ⟨h6, HS.out.2.trans (hb6.mono HS.out.2.size)⟩
    obtain ⟨w6, hw6⟩ : ∃ X, X = w5.setRow a zE := ⟨_, rfl⟩
    rw [← hw6] at hst HF
    clear hb6 h6 hw6
    refine wpAnyH_ready (rs := [12]) (by kernel_rfl) (by simp) ?_
    refine AllReadyH.cons rfl (fun K hK => ?_) AllReadyH.nil
    simp only [List.getElem_toArray, List.getElem_cons_succ, List.getElem_cons_zero]
    rw [if_pos (by rfl)]
    go_simp
    refine hK.out _ _ HF.out.1 (fun hHeld => ?_)
    clear hK K
    try simp only [Act.put, List.getElem_toArray, List.getElem_cons_succ, List.getElem_cons_zero, List.setIfInBounds_toArray, List.set_cons_zero, List.set_cons_succ]
    refine wpAnyH_take (i := 13) (oi := _) (v := ?_) rfl (by kernel_rfl) (by kernel_rfl) (by kernel_rfl) (fun _ _ _ h => h) (Or.inl ⟨by rfl, ?_⟩) (by assumption) ?_
    rotate_left
    · (intro W hSw; (try dsimp only at hSw); go_simp; try with_reducible rfl)
    try simp only [Act.put, List.getElem_toArray, List.getElem_cons_succ, List.getElem_cons_zero, List.setIfInBounds_toArray, List.set_cons_zero, List.set_cons_succ]
    clear hst hz8
    refine wpAnyH_done (by kernel_rfl) ?_ _
    go_upto_region 11 with fail
    refine wp_region_lit ?_
    refine wpList_load_row rfl TKy _ rfl V.heap.size rfl TKy C (0, 0) _ HF.out.1.2.1 Try.underlying38 rfl HC.out.1 ?_
    refine wpList_step (fun K hK => ?_)
    go_simp
    refine hK _ _ ?_
    clear hK K
    refine wpList_step (fun K hK => ?_)
    go_simp
    refine hK _ _ ?_
    clear hK K
    refine wpList_store_rowTo rfl TKy _ _ rfl rfl V.heap.size C rfl rfl TKy _ HF.out.1.2.1 HC.out.1 rfl HC.out.2.1 ?_
    refine wpList_step (fun K hK => ?_)
    go_simp
    refine hK _ _ ?_
    clear hK K
    refine wpList_step (fun K hK => ?_)
    go_simp
    refine hK _ _ ?_
    clear hK K
    refine wpList_nil ?_
    have HR' := setRow_heap w6 V.heap.size _ C TKy (0, 0) HF.out.1.2.1
    have HB9 := below_setRow HF.out.2 (Nat.le_refl _) C
    obtain ⟨w9, hw9⟩ : ∃ X, X = w6.setRow V.heap.size C := ⟨_, rfl⟩
    rw [← hw9] at HR' HB9 ⊢
    clear hw9
    go_wp2_with fail
    rw [Exit.noGoto_ret]
    refine bodyPost_ret (v := .tuple #[.agg C, .bool false, .bool false]) (res_cbb Try.results9 _ _ V.heap.size C rfl (run_loadVar_row w9 V.heap.size TKy TKy C (0, 0) _ HR' Try.underlying38 rfl HC.out.1)) rfl ⟨rfl, HB9⟩
end Go.Proofs.Ythamhdfkhhfmmab.Wd
