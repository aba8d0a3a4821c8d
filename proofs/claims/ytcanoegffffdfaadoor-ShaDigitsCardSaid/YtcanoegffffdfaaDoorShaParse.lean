/- The sum of digits: sha.Parse. -/
import Derived.Test.YtcanoegffffdfaaDoorShaIdx
import Derived.LoopTactic
import Derived.Laws.Rows
import Derived.Deep.Cut
import Derived.Great.BuildSlice
namespace Go.Proofs.YtcanoegffffdfaaDoor.Sha
open Go Go.RowKit

theorem zero_len : (bcells (List.replicate 32 0)).size = 32 := rfl
theorem i32 (C : Array Value) (hz : C.size = 32) : (Tryd.prog.info? 27).map (·.size) = some C.size := by rw [hz]; kernel_rfl
theorem res_parse (tmps : Array Value) (w : World) (g : Nat) (C : Array Value) (n : Int) (hz : C.size = 32) (hp : tmps.getD 2 undef = .pointer (some ⟨g, 0, none⟩)) (h3 : tmps.getD 3 undef = .int .i64 n)
    (hg : w.heap[g]? = some (.cells C 27 (0, 0))) : (results Tryd.f17 tmps).run Tryd.prog w = .ok (.tuple #[.agg C, .int .i64 n]) w := by
  have hp' : tmps[2]?.getD undef = .pointer (some ⟨g, 0, none⟩) := by simpa using hp
  have h3' : tmps[3]?.getD undef = .int .i64 n := by simpa using h3
  simp [results, Tryd.results17, hp', h3', asAddr, run_loadVar_row w g 27 27 C (0, 0) _ hg Tryd.underlying27 (isArr 32 5) (i32 C hz)]

set_option maxRecDepth 100000 in
set_option maxHeartbeats 600000 in
theorem parse_len (s : ByteArray) (hs : s.size ≠ 64) (w : World) :
    Calls Tryd.prog 17 #[.string s] w fun e w' => e = .returned (.tuple #[.agg (bcells (List.replicate 32 0)), .int .i64 3]) ∧ Below w.heap.size w w' := by
  have hs1 : (s.size : Int) ≠ 64 := by omega
  go_enter Tryd.func17, Tryd.ntmps17
  go_upto_region 2 with fail
  change Code.wp _ _ _ _ ((w.alloc (.cells (bcells (List.replicate 32 0)) 27)).alloc (.cells (bcells (List.replicate 32 0)) 27))
  obtain ⟨W0, hW⟩ : ∃ W0, W0 = ((w.alloc (.cells (bcells (List.replicate 32 0)) 27)).alloc (.cells (bcells (List.replicate 32 0)) 27)) := ⟨_, rfl⟩
  rw [← hW]
  have hB0 : Below w.heap.size w W0 := by rw [hW]; exact ((Below.refl _ _).alloc (Nat.le_refl _) _).alloc (by simp) _
  have hR0 : W0.heap[w.heap.size]? = some (.cells (bcells (List.replicate 32 0)) 27 (0, 0)) := by
    rw [hW, Below.heap_alloc _ _ _ (by simp)]
    exact Array.getElem?_push_size
  clear hW
  go_upto_region 3 with fail
  refine wp_region_lit ?_
  refine wpList_step (fun K hK => ?_)
  go_simp
  refine hK _ _ ?_
  clear hK K
  refine wpList_store_rowTo rfl 27 _ _ rfl rfl w.heap.size (bcells (List.replicate 32 0)) rfl rfl 27 _ hR0 (i32 _ rfl) rfl (bcells_one _) ?_
  have HR' := setRow_heap W0 w.heap.size _ (bcells (List.replicate 32 0)) 27 (0, 0) hR0
  have HB9 : Below w.heap.size w (W0.setRow w.heap.size (bcells (List.replicate 32 0))) := below_setRow hB0 (Nat.le_refl _) _
  obtain ⟨W9, hW9⟩ : ∃ W9, W9 = W0.setRow w.heap.size (bcells (List.replicate 32 0)) := ⟨_, rfl⟩
  rw [← hW9] at HR' HB9 ⊢
  clear hW9 hR0 hB0
  go_wp2_with fail
  exact bodyPost_ret (res_parse _ _ w.heap.size _ 3 rfl rfl rfl HR') rfl ⟨rfl, HB9⟩

set_option maxRecDepth 100000 in
set_option maxHeartbeats 1000000 in
theorem parse_64 (s : ByteArray) (hs : s.size = 64) (w : World) :
    Calls Tryd.prog 17 #[.string s] w fun e w' => e = .returned (.tuple #[.agg (bcells (parseL s.data.toList)), .int .i64 (parseE s.data.toList)]) ∧ Below w.heap.size w w' := by
  have HS := Lib.hid hs; clear hs
  go_enter Tryd.func17, Tryd.ntmps17
  go_upto_region 2 with fail
  change Code.wp _ _ _ _ ((w.alloc (.cells (bcells (List.replicate 32 0)) 27)).alloc (.cells (bcells (List.replicate 32 0)) 27))
  obtain ⟨W0, hW⟩ : ∃ W0, W0 = ((w.alloc (.cells (bcells (List.replicate 32 0)) 27)).alloc (.cells (bcells (List.replicate 32 0)) 27)) := ⟨_, rfl⟩
  rw [← hW]
  have hB0 : Below w.heap.size w W0 := by rw [hW]; exact ((Below.refl _ _).alloc (Nat.le_refl _) _).alloc (by simp) _
  have hR0 : W0.heap[w.heap.size]? = some (.cells (bcells (List.replicate 32 0)) 27 (0, 0)) := by
    rw [hW, Below.heap_alloc _ _ _ (by simp)]
    exact Array.getElem?_push_size
  have hS0 : W0.heap[w.heap.size + 1]? = some (.cells (bcells (pl s.data.toList 0)) 27 (0, 0)) := by rw [hW, pl_zero]; exact last_alloc _ _ _ 0
  clear hW
  have hss : (s.size : Int) = 64 := by rw [HS.out]; rfl
  go_wp2_with fail
  clear hss
  go_loopw [13] (fun i wr => ∃ k : Nat, k ≤ 64 ∧ i = .int .i64 k ∧ (s.data.toList.take k).all isHex = true ∧ wr.heap[w.heap.size + 1]? = some (.cells (bcells (pl s.data.toList k)) 27 (0, 0)) ∧ wr.heap[w.heap.size]? = some (.cells (bcells (List.replicate 32 0)) 27 (0, 0)) ∧ Below w.heap.size w wr) (fun i _ => 64 - (intOf i).toNat)
  case atStart => exact ⟨0, by omega, rfl, rfl, hS0, hR0, hB0⟩
  case round =>
    obtain ⟨k, hk, rfl, hal, hS, hR, hB⟩ := hrel
    clear hB0 hS0 hR0
    have HW := Lib.hid hS
    have HR := Lib.hid hR
    have HAl := Lib.hid hal
    clear hR hal
    rcases Nat.lt_or_ge k 64 with hlt | hge
    · have hss := HS.out
      have x0 : (k : Int) < 64 := by omega
      obtain ⟨j, hj⟩ : ∃ j : Nat, k / 2 = j := ⟨_, rfl⟩
      have e1 : (k : Int) / 2 = (j : Int) := by omega
      have e2 : (k : Int).tdiv 2 = (j : Int) := by rw [Int.tdiv_eq_ediv_of_nonneg (by omega)]; exact e1
      have j32 : (j : Int) < 32 := by omega
      have hc := (cell_blk hS j).trans (bcells_at _ j (by rw [pl_len]; omega))
      have hf := free_blk hS j
      have HJ := Lib.hid hj
      clear hS hj
      have hbx : ((pl s.data.toList k).getD j 0).toNat < 256 := ((pl s.data.toList k).getD j 0).toNat_lt
      obtain ⟨x, hx⟩ : ∃ x : Nat, ((pl s.data.toList k).getD j 0).toNat = x := ⟨_, rfl⟩
      rw [hx] at hc hbx
      have HX := Lib.hid hx
      clear hx
      go_wp2_with fail
      have hbs : (s[k]'(by omega)).toNat < 256 := (s[k]'(by omega)).toNat_lt
      refine (idx_any _ hbs _).mono ?_
      rintro e w1 ⟨rfl, rfl⟩
      by_cases hn : hidx (s[k]'(by omega)).toNat < 0
      · obtain ⟨n, hn'⟩ : ∃ n : Int, hidx (s[k]'(by omega)).toNat = n := ⟨_, rfl⟩
        rw [hn'] at hn ⊢
        go_upto_region 9 with fail
        have hf0 : okT s.data.toList = false := by
          have hb := byte_at s k (by omega)
          unfold okT
          rw [Bool.and_eq_false_iff]
          refine .inr ?_
          rw [← Bool.not_eq_true, List.all_eq_true]
          intro hall
          have h1 := hall (s.data.toList.getD k 0) (by rw [List.getD_eq_getElem?_getD, List.getElem?_eq_getElem (by show k < s.size; omega)]; exact List.getElem_mem _)
          rw [hb] at h1
          have h2 := of_decide_eq_true h1
          omega
        have HP : Hid (bcells (parseL s.data.toList) = bcells (List.replicate 32 0)) := Lib.hid (by unfold parseL; rw [hf0]; rfl)
        have HE : Hid (parseE s.data.toList = 3) := Lib.hid (by unfold parseE; rw [hf0]; rfl)
        clear hf0
        refine wp_region_lit ?_
        refine wpList_step (fun K hK => ?_)
        go_simp
        refine hK _ _ ?_
        clear hK K
        refine wpList_store_rowTo rfl 27 _ _ rfl rfl w.heap.size (bcells (List.replicate 32 0)) rfl rfl 27 _ HR.out (i32 _ rfl) rfl (bcells_one _) ?_
        have HR' := setRow_heap w1 w.heap.size _ (bcells (List.replicate 32 0)) 27 (0, 0) HR.out
        have HB9 : Below w.heap.size w (w1.setRow w.heap.size (bcells (List.replicate 32 0))) := below_setRow hB (Nat.le_refl _) _
        obtain ⟨W9, hW9⟩ : ∃ W9, W9 = w1.setRow w.heap.size (bcells (List.replicate 32 0)) := ⟨_, rfl⟩
        rw [← hW9] at HR' HB9 ⊢
        clear hW9 HR HW hB
        go_wp2_with fail
        exact bodyPost_ret (res_parse _ _ w.heap.size _ 3 rfl rfl rfl HR') rfl ⟨by rw [HP.out, HE.out], HB9⟩
      · obtain ⟨n, hn'⟩ : ∃ n : Nat, hidx (s[k]'(by omega)).toNat = (n : Int) := ⟨(hidx (s[k]'(by omega)).toNat).toNat, by omega⟩
        rw [hn']
        have n0 : ¬ (n : Int) < 0 := by omega
        clear hn
        go_wp2_with fail
        have hb := byte_at s k (by omega)
        have hhv : n = hv (s.data.toList.getD k 0) := by rw [hb]; unfold hv; omega
        have hhx : isHex (s.data.toList.getD k 0) = true := by rw [hb]; unfold isHex; exact decide_eq_true (by omega)
        have hn16 : n < 16 := by rw [hhv]; exact hv_lt _
        have hor : bits .or .u8 ((x : Int) * 16 % 256) ((n : Int) % 256) = (((x * 16 % 256) ||| n : Nat) : Int) := by
          rw [show ((x : Int) * 16 % 256) = ((x * 16 % 256 : Nat) : Int) by omega, show ((n : Int) % 256) = (n : Int) by omega]
          exact u8_or_nat _ _ (by omega) (by omega)
        have hl : k < s.data.toList.length := by show k < s.size; omega
        rw [hor]
        refine ⟨⟨k + 1, by omega, by go_num, ?_, ?_, set_far HR.out (by omega) _, hB.setCell (by show w.heap.size ≤ w.heap.size + 1; omega) _⟩, by simp [intOf]; omega⟩
        · rw [List.take_succ_eq_append_getElem hl, List.all_append, HAl.out]
          have hx2 : s.data.toList.getD k 0 = s.data.toList[k] := by rw [List.getD_eq_getElem?_getD, List.getElem?_eq_getElem hl]; rfl
          rw [hx2] at hhx
          rw [List.all_cons, hhx]; rfl
        · rw [← pl_next s.data.toList k j HJ.out hlt _ (by rw [HX.out, ← hhv])]
          exact set_row HW.out j _
    · have hk64 : k = 64 := by omega
      subst hk64
      have hz := bcells_size (pl s.data.toList 64)
      rw [pl_len] at hz
      have h1 := bcells_one (pl s.data.toList 64)
      have hok : okT s.data.toList = true := by
        have := HAl.out
        rw [List.take_of_length_le (by show s.size ≤ 64; rw [HS.out]; exact Nat.le_refl _)] at this
        unfold okT
        rw [this, show s.data.toList.length = 64 from HS.out]
        rfl
      have hpl : parseL s.data.toList = pl s.data.toList 64 := by unfold parseL; rw [if_pos hok]
      have hpe : parseE s.data.toList = 0 := by unfold parseE; rw [if_pos hok]
      have HP : Hid (bcells (parseL s.data.toList) = bcells (pl s.data.toList 64)) := Lib.hid (by rw [hpl])
      have HE := Lib.hid hpe
      clear hok hpl hpe hS
      generalize bcells (pl s.data.toList 64) = C at hz h1 HW HP
      go_upto_region 12 with fail
      refine wp_region_lit ?_
      refine wpList_load_row rfl 27 _ rfl (w.heap.size + 1) rfl 27 C (0, 0) _ HW.out Tryd.underlying27 (isArr 32 5) (i32 C hz) ?_
      refine wpList_store_rowTo rfl 27 _ _ rfl rfl w.heap.size C rfl rfl 27 _ HR.out (i32 C hz) (by rw [hz]; rfl) h1 ?_
      have HR' := setRow_heap wr w.heap.size _ C 27 (0, 0) HR.out
      have HB9 : Below w.heap.size w (wr.setRow w.heap.size C) := below_setRow hB (Nat.le_refl _) _
      obtain ⟨W9, hW9⟩ : ∃ W9, W9 = wr.setRow w.heap.size C := ⟨_, rfl⟩
      rw [← hW9] at HR' HB9 ⊢
      clear hW9 HR HW hB
      go_wp2_with fail
      exact bodyPost_ret (res_parse _ _ w.heap.size _ 0 hz rfl rfl HR') rfl ⟨by rw [HP.out, HE.out], HB9⟩
end Go.Proofs.YtcanoegffffdfaaDoor.Sha
