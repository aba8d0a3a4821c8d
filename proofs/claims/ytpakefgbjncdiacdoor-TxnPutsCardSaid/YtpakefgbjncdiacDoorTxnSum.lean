import Derived.Test.YtpakefgbjncdiacDoorShaRow
import Derived.Test.YtpakefgbjncdiacDoorShaROf
import Derived.Test.YtpakefgbjncdiacDoorTxnRef
import Derived.Test.YtpakefgbjncdiacDoorTxnPage
/- txn.Sum, and the page's. -/
namespace Go.Proofs.YtpakefgbjncdiacDoor.Sha
open Go Go.RowKit Num Texts Msg

theorem tB_size (side acc n : Int) (ms : List M7) (h : txright side acc ms = true) : (tB side acc n ms).size ≤ 1000000 := by
  obtain ⟨-, -, -, q4, q5⟩ := txright_parts h
  have h1 := kS_size side; have h2 := kS_size acc; have h3 := kS_size n; have h4 := kS_size (ms.length : Int)
  have h5 := mL_len ms q5
  have h6 : (mB ms).size = (mL ms).length := rfl
  rw [tB]
  simp only [ByteArray.size_append]
  omega

set_option maxRecDepth 20000 in
set_option maxHeartbeats 1000000 in
theorem txsum_no (t : T4) (w : World) (hr : Rd w t.A t.len t.ms) (hl : t.len ≤ 9223372036854775807) (h : txright t.side t.acc t.ms = false) :
    Calls Tryd.prog 9 #[.agg #[.int .i64 t.side, .int .i64 t.acc, .int .u64 t.n, .slice t.A t.len t.cap]] w fun e w' => e = .returned (.agg zero32) ∧ Below w.heap.size w w' := by
  have HP := Lib.hid (fun W (hW : Below w.heap.size w W) => txput_no t W (hr.below hW) hl h)
  clear h hr hl
  go_enter Tryd.func9, Tryd.ntmps9
  go_upto_region 1 with fail
  change Code.wp _ _ _ _ ((w.alloc (.cells #[.int .i64 t.side, .int .i64 t.acc, .int .u64 t.n, .slice t.A t.len t.cap] 25)).alloc (.cells zero32 32))
  obtain ⟨W0, hW⟩ : ∃ X, X = (w.alloc (.cells #[.int .i64 t.side, .int .i64 t.acc, .int .u64 t.n, .slice t.A t.len t.cap] 25)).alloc (.cells zero32 32) := ⟨_, rfl⟩
  rw [← hW]
  have hB0 : Below w.heap.size w W0 := by rw [hW]; exact ((Below.refl _ _).alloc (Nat.le_refl _) _).alloc (by simp) _
  have hz1 : (w.alloc (.cells #[.int .i64 t.side, .int .i64 t.acc, .int .u64 t.n, .slice t.A t.len t.cap] 25)).heap.size = w.heap.size + 1 := by simp
  have hA : W0.heap[w.heap.size]? = some (.cells #[.int .i64 t.side, .int .i64 t.acc, .int .u64 t.n, .slice t.A t.len t.cap] 25 (0, 0)) := by rw [hW, Below.heap_alloc _ _ _ (by simp)]; exact heap_alloc_new _ _
  have hR0 : W0.heap[w.heap.size + 1]? = some (.cells zero32 32 (0, 0)) := by
    have := heap_alloc_new (w.alloc (.cells #[.int .i64 t.side, .int .i64 t.acc, .int .u64 t.n, .slice t.A t.len t.cap] 25)) (.cells zero32 32)
    rw [hz1] at this; rw [hW]; exact this
  clear hW hz1
  obtain ⟨c0, c1, c2, c3⟩ : _ ∧ _ ∧ _ ∧ _ := ⟨cell_of_row W0 _ 0 _ _ (0, 0) hA, cell_of_row W0 _ 1 _ _ (0, 0) hA, cell_of_row W0 _ 2 _ _ (0, 0) hA, cell_of_row W0 _ 3 _ _ (0, 0) hA⟩
  have HB := Lib.hid hB0
  have HR := Lib.hid hR0
  clear hB0 hR0 hA
  go_wp2_with fail
  refine (HP.out _ HB.out).mono ?_
  rintro _ w1 ⟨rfl, b1⟩
  have hR1 := (b1.block _ (Array.getElem?_eq_some_iff.1 HR.out).1).trans HR.out
  have hB1 := HB.out.trans (b1.mono HB.out.size)
  clear c0 c1 c2 c3 HB HR b1
  go_upto_region 3 with fail
  refine wp_region_lit ?_
  refine wpList_step (fun K hK => ?_)
  go_simp
  refine hK _ _ ?_
  clear hK K
  refine wpList_store_rowTo rfl 32 _ _ rfl rfl (w.heap.size + 1) zero32 rfl rfl 32 _ hR1 (i32s _ rfl) rfl zero32_one ?_
  refine wpList_nil ?_
  have HR' := setRow_heap w1 (w.heap.size + 1) _ zero32 32 (0, 0) hR1
  have HB9 : Below w.heap.size w (w1.setRow (w.heap.size + 1) zero32) := below_setRow hB1 (Nat.le_succ _) _
  obtain ⟨W9, hW9⟩ : ∃ X, X = w1.setRow (w.heap.size + 1) zero32 := ⟨_, rfl⟩
  rw [← hW9] at HR' HB9 ⊢
  clear hW9 hR1 hB1
  go_wp2_with fail
  exact bodyPost_ret (results_cell_row Tryd.results9 _ _ (w.heap.size + 1) 32 zero32 (0, 0) (.array 32 5) rfl HR' Tryd.underlying32 (isArr 32 5) (i32s _ rfl)) rfl ⟨rfl, HB9⟩

set_option maxRecDepth 20000 in
set_option maxHeartbeats 1000000 in
theorem txsum_yes (t : T4) (w : World) (hr : Rd w t.A t.len t.ms) (hn : 0 ≤ t.n ∧ t.n < 18446744073709551616) (hw : ∀ m ∈ t.ms, m.wf) (h : txright t.side t.acc t.ms = true) (ht : Tab w) :
    Calls Tryd.prog 9 #[.agg #[.int .i64 t.side, .int .i64 t.acc, .int .u64 t.n, .slice t.A t.len t.cap]] w fun e w' => e = .returned (.agg (scells (ofSt (tB t.side t.acc t.n t.ms)))) ∧ Below w.heap.size w w' := by
  have HP := Lib.hid (fun W (hW : Below w.heap.size w W) => txput_yes t W (hr.below hW) hn hw h)
  have HT := Lib.hid ht
  have hs := tB_size t.side t.acc t.n t.ms h
  generalize tB t.side t.acc t.n t.ms = S at *
  have hof : ∀ (bk : Nat) (W : World), Tab W → W.cell? ⟨bk, 0, none⟩ = some (.string S) → bk < W.heap.size → Calls Tryd.prog 20 #[.slice (some ⟨bk, 0, none⟩) 1 1] W fun r w' => r = .returned (.agg (scells (ofSt S))) ∧ Below W.heap.size W w' :=
    fun bk W hW hc hbk => of_any bk 0 1 [S] S hs (join_one S) W hW (fun j x h => by
      match j, h with
      | 0, h => injection h with h; subst h; exact hc
      | (m + 1), h => simp at h) hbk (by simp) (by simp)
  have hone : (scells (ofSt S)).all (·.oneCell') = true := u8_one (sumL (ofSt S))
  have hsz : (scells (ofSt S)).size = 32 := rfl
  generalize scells (ofSt S) = C at *
  have HOf := Lib.hid hof
  have HSz := Lib.hid hsz
  have HOn := Lib.hid hone
  clear h hof hsz hone hs ht hr hn hw
  go_enter Tryd.func9, Tryd.ntmps9
  go_upto_region 1 with fail
  change Code.wp _ _ _ _ ((w.alloc (.cells #[.int .i64 t.side, .int .i64 t.acc, .int .u64 t.n, .slice t.A t.len t.cap] 25)).alloc (.cells zero32 32))
  obtain ⟨W0, hW⟩ : ∃ X, X = (w.alloc (.cells #[.int .i64 t.side, .int .i64 t.acc, .int .u64 t.n, .slice t.A t.len t.cap] 25)).alloc (.cells zero32 32) := ⟨_, rfl⟩
  rw [← hW]
  have hB0 : Below w.heap.size w W0 := by rw [hW]; exact ((Below.refl _ _).alloc (Nat.le_refl _) _).alloc (by simp) _
  have hz1 : (w.alloc (.cells #[.int .i64 t.side, .int .i64 t.acc, .int .u64 t.n, .slice t.A t.len t.cap] 25)).heap.size = w.heap.size + 1 := by simp
  have hA : W0.heap[w.heap.size]? = some (.cells #[.int .i64 t.side, .int .i64 t.acc, .int .u64 t.n, .slice t.A t.len t.cap] 25 (0, 0)) := by rw [hW, Below.heap_alloc _ _ _ (by simp)]; exact heap_alloc_new _ _
  have hR0 : W0.heap[w.heap.size + 1]? = some (.cells zero32 32 (0, 0)) := by
    have := heap_alloc_new (w.alloc (.cells #[.int .i64 t.side, .int .i64 t.acc, .int .u64 t.n, .slice t.A t.len t.cap] 25)) (.cells zero32 32)
    rw [hz1] at this; rw [hW]; exact this
  clear hW hz1
  obtain ⟨c0, c1, c2, c3⟩ : _ ∧ _ ∧ _ ∧ _ := ⟨cell_of_row W0 _ 0 _ _ (0, 0) hA, cell_of_row W0 _ 1 _ _ (0, 0) hA, cell_of_row W0 _ 2 _ _ (0, 0) hA, cell_of_row W0 _ 3 _ _ (0, 0) hA⟩
  have HB := Lib.hid hB0
  have HR := Lib.hid hR0
  clear hB0 hR0 hA
  go_wp2_with fail
  refine (HP.out _ HB.out).mono ?_
  rintro _ w1 ⟨rfl, b1⟩
  have HR1 := Lib.hid ((b1.block _ (Array.getElem?_eq_some_iff.1 HR.out).1).trans HR.out)
  have HB1 := Lib.hid (HB.out.trans (b1.mono HB.out.size))
  clear c0 c1 c2 c3 HB HR b1 HP
  go_wp2_with fail
  refine (HOf.out _ _ (tab_below HT.out (HB1.out.alloc HB1.out.size _)) (World.cell?_alloc_mark _ _ _ _ 0) (by simp)).mono ?_
  rintro _ w2 ⟨rfl, b2⟩
  have hl1 := (Array.getElem?_eq_some_iff.1 HR1.out).1
  have hR2 := (b2.block _ (by simp; omega)).trans ((Below.heap_alloc _ _ _ hl1).trans HR1.out)
  have hB2 := (HB1.out.alloc HB1.out.size (.cells #[.string S] 9)).trans (b2.mono (by have := HB1.out.size; simp; omega))
  clear HB1 HR1 b2
  have hst := hrow w2 (w.heap.size + 1) C zero32 HSz.out rfl HOn.out hR2
  go_wp2_with fail
  have HR' := setRow_heap w2 (w.heap.size + 1) _ C 32 (0, 0) hR2
  have HB9 : Below w.heap.size w (w2.setRow (w.heap.size + 1) C) := below_setRow hB2 (Nat.le_succ _) _
  obtain ⟨W9, hW9⟩ : ∃ X, X = w2.setRow (w.heap.size + 1) C := ⟨_, rfl⟩
  rw [← hW9] at HR' HB9 ⊢
  clear hW9 hR2 hB2 hst
  exact bodyPost_ret (results_cell_row Tryd.results9 _ _ (w.heap.size + 1) 32 C (0, 0) (.array 32 5) rfl HR' Tryd.underlying32 (isArr 32 5) (i32s _ HSz.out)) rfl ⟨rfl, HB9⟩

set_option maxRecDepth 20000 in
set_option maxHeartbeats 1000000 in
theorem rtxsum_no (t : T4) (w : World) (hr : Rd w t.A t.len t.ms) (hl : t.len ≤ 9223372036854775807) (h : txright t.side t.acc t.ms = false) :
    Calls Tryd.prog 10 #[.agg #[.int .i64 t.side, .int .i64 t.acc, .int .u64 t.n, .slice t.A t.len t.cap]] w fun e w' => e = .returned (.agg zero32) ∧ Below w.heap.size w w' := by
  have HP := Lib.hid (fun W (hW : Below w.heap.size w W) => by have q := rtxright_any t.side t.acc t.n t.A t.len t.cap t.ms W (hr.below hW) hl; rw [h] at q; exact q)
  clear h hr hl
  go_enter Tryd.func10, Tryd.ntmps10
  go_upto_region 1 with fail
  change Code.wp _ _ _ _ ((w.alloc (.cells #[.int .i64 t.side, .int .i64 t.acc, .int .u64 t.n, .slice t.A t.len t.cap] 25)).alloc (.cells zero32 31))
  obtain ⟨W0, hW⟩ : ∃ X, X = (w.alloc (.cells #[.int .i64 t.side, .int .i64 t.acc, .int .u64 t.n, .slice t.A t.len t.cap] 25)).alloc (.cells zero32 31) := ⟨_, rfl⟩
  rw [← hW]
  have hB0 : Below w.heap.size w W0 := by rw [hW]; exact ((Below.refl _ _).alloc (Nat.le_refl _) _).alloc (by simp) _
  have hz1 : (w.alloc (.cells #[.int .i64 t.side, .int .i64 t.acc, .int .u64 t.n, .slice t.A t.len t.cap] 25)).heap.size = w.heap.size + 1 := by simp
  have hA : W0.heap[w.heap.size]? = some (.cells #[.int .i64 t.side, .int .i64 t.acc, .int .u64 t.n, .slice t.A t.len t.cap] 25 (0, 0)) := by rw [hW, Below.heap_alloc _ _ _ (by simp)]; exact heap_alloc_new _ _
  have hR0 : W0.heap[w.heap.size + 1]? = some (.cells zero32 31 (0, 0)) := by
    have := heap_alloc_new (w.alloc (.cells #[.int .i64 t.side, .int .i64 t.acc, .int .u64 t.n, .slice t.A t.len t.cap] 25)) (.cells zero32 31)
    rw [hz1] at this; rw [hW]; exact this
  clear hW hz1
  obtain ⟨c0, c1, c2, c3⟩ : _ ∧ _ ∧ _ ∧ _ := ⟨cell_of_row W0 _ 0 _ _ (0, 0) hA, cell_of_row W0 _ 1 _ _ (0, 0) hA, cell_of_row W0 _ 2 _ _ (0, 0) hA, cell_of_row W0 _ 3 _ _ (0, 0) hA⟩
  have HB := Lib.hid hB0
  have HR := Lib.hid hR0
  clear hB0 hR0
  go_wp2_with fail
  refine (HP.out _ HB.out).mono ?_
  rintro _ w1 ⟨rfl, b1⟩
  have hR1 := (b1.block _ (Array.getElem?_eq_some_iff.1 HR.out).1).trans HR.out
  have hB1 := HB.out.trans (b1.mono HB.out.size)
  clear c0 c1 c2 c3 HB HR b1
  go_upto_region 2 with fail
  refine wp_region_lit ?_
  refine wpList_step (fun K hK => ?_)
  go_simp
  refine hK _ _ ?_
  clear hK K
  refine wpList_store_rowTo rfl 31 _ _ rfl rfl (w.heap.size + 1) zero32 rfl rfl 31 _ hR1 (i32b _ rfl) rfl zero32_one ?_
  refine wpList_nil ?_
  have HR' := setRow_heap w1 (w.heap.size + 1) _ zero32 31 (0, 0) hR1
  have HB9 : Below w.heap.size w (w1.setRow (w.heap.size + 1) zero32) := below_setRow hB1 (Nat.le_succ _) _
  obtain ⟨W9, hW9⟩ : ∃ X, X = w1.setRow (w.heap.size + 1) zero32 := ⟨_, rfl⟩
  rw [← hW9] at HR' HB9 ⊢
  clear hW9 hR1 hB1
  go_wp2_with fail
  exact bodyPost_ret (results_cell_row Tryd.results10 _ _ (w.heap.size + 1) 31 zero32 (0, 0) (.array 32 5) rfl HR' Tryd.underlying31 (isArr 32 5) (i32b _ rfl)) rfl ⟨rfl, HB9⟩

set_option maxRecDepth 20000 in
set_option maxHeartbeats 1000000 in
theorem rtxsum_yes (t : T4) (w : World) (hr : Rd w t.A t.len t.ms) (hn : 0 ≤ t.n ∧ t.n < 18446744073709551616) (hw : ∀ m ∈ t.ms, m.wf) (h : txright t.side t.acc t.ms = true) :
    Calls Tryd.prog 10 #[.agg #[.int .i64 t.side, .int .i64 t.acc, .int .u64 t.n, .slice t.A t.len t.cap]] w fun e w' => e = .returned (.agg (scells (ofSt (tB t.side t.acc t.n t.ms)))) ∧ Below w.heap.size w w' := by
  have HP := Lib.hid (fun W (hW : Below w.heap.size w W) => rtxput_yes t W (hr.below hW) hn hw h)
  have HQ := Lib.hid (fun W (hW : Below w.heap.size w W) => by have q := rtxright_any t.side t.acc t.n t.A t.len t.cap t.ms W (hr.below hW) (by have := hr.1; have := (txright_parts h).2.2.2.1; omega); rw [h] at q; exact q)
  have hs := tB_size t.side t.acc t.n t.ms h
  generalize tB t.side t.acc t.n t.ms = S at *
  have hof : ∀ W : World, Calls Tryd.prog 21 #[.string S] W fun r w' => r = .returned (.agg (scells (ofSt S))) ∧ Below W.heap.size W w' := fun W => rof_any S hs W
  have hone : (scells (ofSt S)).all (·.oneCell') = true := u8_one (sumL (ofSt S))
  have hsz : (scells (ofSt S)).size = 32 := rfl
  generalize scells (ofSt S) = C at *
  have HOf := Lib.hid hof
  have HSz := Lib.hid hsz
  have HOn := Lib.hid hone
  clear h hof hsz hone hs hr hn hw
  go_enter Tryd.func10, Tryd.ntmps10
  go_upto_region 1 with fail
  change Code.wp _ _ _ _ ((w.alloc (.cells #[.int .i64 t.side, .int .i64 t.acc, .int .u64 t.n, .slice t.A t.len t.cap] 25)).alloc (.cells zero32 31))
  obtain ⟨W0, hW⟩ : ∃ X, X = (w.alloc (.cells #[.int .i64 t.side, .int .i64 t.acc, .int .u64 t.n, .slice t.A t.len t.cap] 25)).alloc (.cells zero32 31) := ⟨_, rfl⟩
  rw [← hW]
  have hB0 : Below w.heap.size w W0 := by rw [hW]; exact ((Below.refl _ _).alloc (Nat.le_refl _) _).alloc (by simp) _
  have hz1 : (w.alloc (.cells #[.int .i64 t.side, .int .i64 t.acc, .int .u64 t.n, .slice t.A t.len t.cap] 25)).heap.size = w.heap.size + 1 := by simp
  have hA : W0.heap[w.heap.size]? = some (.cells #[.int .i64 t.side, .int .i64 t.acc, .int .u64 t.n, .slice t.A t.len t.cap] 25 (0, 0)) := by rw [hW, Below.heap_alloc _ _ _ (by simp)]; exact heap_alloc_new _ _
  have hR0 : W0.heap[w.heap.size + 1]? = some (.cells zero32 31 (0, 0)) := by
    have := heap_alloc_new (w.alloc (.cells #[.int .i64 t.side, .int .i64 t.acc, .int .u64 t.n, .slice t.A t.len t.cap] 25)) (.cells zero32 31)
    rw [hz1] at this; rw [hW]; exact this
  clear hW hz1
  obtain ⟨c0, c1, c2, c3⟩ : _ ∧ _ ∧ _ ∧ _ := ⟨cell_of_row W0 _ 0 _ _ (0, 0) hA, cell_of_row W0 _ 1 _ _ (0, 0) hA, cell_of_row W0 _ 2 _ _ (0, 0) hA, cell_of_row W0 _ 3 _ _ (0, 0) hA⟩
  have HB := Lib.hid hB0
  have HR := Lib.hid hR0
  clear hB0 hR0
  have HA := Lib.hid hA
  go_wp2_with fail
  refine (HQ.out _ HB.out).mono ?_
  rintro _ w1 ⟨rfl, b1⟩
  have HR1 := Lib.hid ((b1.block _ (Array.getElem?_eq_some_iff.1 HR.out).1).trans HR.out)
  have HB1 := Lib.hid (HB.out.trans (b1.mono HB.out.size))
  have hA1 := (b1.block _ (Array.getElem?_eq_some_iff.1 HA.out).1).trans HA.out
  clear c0 c1 c2 c3 HB HR b1 HQ HA
  obtain ⟨c0, c1, c2, c3⟩ : _ ∧ _ ∧ _ ∧ _ := ⟨cell_of_row w1 _ 0 _ _ (0, 0) hA1, cell_of_row w1 _ 1 _ _ (0, 0) hA1, cell_of_row w1 _ 2 _ _ (0, 0) hA1, cell_of_row w1 _ 3 _ _ (0, 0) hA1⟩
  clear hA1
  go_wp2_with fail
  refine (HP.out _ HB1.out).mono ?_
  rintro _ w2 ⟨rfl, b2⟩
  have HR2 := Lib.hid ((b2.block _ (Array.getElem?_eq_some_iff.1 HR1.out).1).trans HR1.out)
  have HB2 := Lib.hid (HB1.out.trans (b2.mono HB1.out.size))
  clear c0 c1 c2 c3 HR1 HB1 b2 HP
  go_wp2_with fail
  refine (HOf.out _).mono ?_
  rintro _ w3 ⟨rfl, b3⟩
  have hR3 := (b3.block _ (Array.getElem?_eq_some_iff.1 HR2.out).1).trans HR2.out
  have hB3 := HB2.out.trans (b3.mono HB2.out.size)
  clear HR2 HB2 b3
  have hst := hrow w3 (w.heap.size + 1) C zero32 HSz.out rfl HOn.out hR3
  go_wp2_with fail
  have HR' := setRow_heap w3 (w.heap.size + 1) _ C 31 (0, 0) hR3
  have HB9 : Below w.heap.size w (w3.setRow (w.heap.size + 1) C) := below_setRow hB3 (Nat.le_succ _) _
  obtain ⟨W9, hW9⟩ : ∃ X, X = w3.setRow (w.heap.size + 1) C := ⟨_, rfl⟩
  rw [← hW9] at HR' HB9 ⊢
  clear hW9 hR3 hB3 hst
  exact bodyPost_ret (results_cell_row Tryd.results10 _ _ (w.heap.size + 1) 31 C (0, 0) (.array 32 5) rfl HR' Tryd.underlying31 (isArr 32 5) (i32b _ HSz.out)) rfl ⟨rfl, HB9⟩
end Go.Proofs.YtpakefgbjncdiacDoor.Sha
