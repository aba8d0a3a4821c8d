/- packet.Sum, packet.Key, and the page's. -/
import Derived.Test.YtoghchbkkcgkcaaDoorPacketAck
import Derived.Test.YtoghchbkkcgkcaaDoorPacketRef
import Derived.Great.BuildSlice
namespace Go.Proofs.YtoghchbkkcgkcaaDoor.Sha
open Go Go.RowKit Num Texts Packet

def zero32 : Array Value := (List.replicate 32 (Value.int .u8 0)).toArray
theorem zero32_one : zero32.all (·.oneCell') = true := by
  rw [Array.all_eq_true']
  intro x hx
  rw [List.eq_of_mem_replicate (List.mem_toArray.1 hx)]; rfl
/-- a packet's sum -/
def pSum (p : P5) (r : Bool) : Array Value := if r then scells (ofSt p.bytes) else zero32
theorem pSum_size (p : P5) (r : Bool) : (pSum p r).size = 32 := by unfold pSum; split <;> rfl
theorem i32s (C : Array Value) (hz : C.size = 32) : (Tryd.prog.info? 31).map (·.size) = some C.size := by rw [hz]; kernel_rfl
theorem i32b (C : Array Value) (hz : C.size = 32) : (Tryd.prog.info? 30).map (·.size) = some C.size := by rw [hz]; kernel_rfl
theorem pbytes_size (p : P5) (h : p.right) : p.bytes.size ≤ 1000000 := by
  have := textB_size p.d h.2.2.2
  have a := kS_size p.c; have b := kS_size p.f; have c := kS_size p.s; have d := kS_size p.t
  unfold P5.bytes
  rw [ByteArray.size_append, ByteArray.size_append, ByteArray.size_append, ByteArray.size_append]
  omega

theorem hrow (w1 : World) (G : Nat) (C Z : Array Value) (hz : C.size = 32) (hzz : Z.size = 32) (ho : C.all (·.oneCell') = true) {t : TypeId} (hG : w1.heap[G]? = some (.cells Z t (0, 0))) : (storeCells ⟨G, 0, none⟩ C.toList).run Tryd.prog w1 = .ok () (w1.setRow G C) := by
  have h := run_storeCells_at (P := Tryd.prog) G 0 t C.toList 0 Z w1 hG (by rw [Array.length_toList, hz, hzz]; decide) (fun u hu => (Array.all_eq_true'.1 ho) u (by simpa using hu))
  simp only [Nat.add_zero, List.take_zero, List.nil_append, Nat.zero_add] at h
  rw [h, List.drop_of_length_le (by rw [Array.length_toList, hzz, Array.length_toList, hz]; exact Nat.le_refl _), List.append_nil]

set_option maxRecDepth 20000 in
set_option maxHeartbeats 1000000 in
theorem psum_no (p : P5) (h : ¬ p.right) (w : World) :
    Calls Tryd.prog 9 #[.agg #[.int .i64 p.c, .int .i64 p.f, .int .u64 p.s, .int .u64 p.t, .string p.d]] w fun e w' => e = .returned (.agg zero32) ∧ Below w.heap.size w w' := by
  have HP := Lib.hid (put_no p h)
  clear h
  go_enter Tryd.func9, Tryd.ntmps9
  go_upto_region 1 with fail
  change Code.wp _ _ _ _ ((w.alloc (.cells #[.int .i64 p.c, .int .i64 p.f, .int .u64 p.s, .int .u64 p.t, .string p.d] 24)).alloc (.cells zero32 31))
  obtain ⟨W0, hW⟩ : ∃ X, X = (w.alloc (.cells #[.int .i64 p.c, .int .i64 p.f, .int .u64 p.s, .int .u64 p.t, .string p.d] 24)).alloc (.cells zero32 31) := ⟨_, rfl⟩
  rw [← hW]
  have hB0 : Below w.heap.size w W0 := by rw [hW]; exact ((Below.refl _ _).alloc (Nat.le_refl _) _).alloc (by simp) _
  have hz1 : (w.alloc (.cells #[.int .i64 p.c, .int .i64 p.f, .int .u64 p.s, .int .u64 p.t, .string p.d] 24)).heap.size = w.heap.size + 1 := by simp
  have hA : W0.heap[w.heap.size]? = some (.cells #[.int .i64 p.c, .int .i64 p.f, .int .u64 p.s, .int .u64 p.t, .string p.d] 24 (0, 0)) := by rw [hW, Below.heap_alloc _ _ _ (by simp)]; exact heap_alloc_new _ _
  have hR0 : W0.heap[w.heap.size + 1]? = some (.cells zero32 31 (0, 0)) := by
    have := heap_alloc_new (w.alloc (.cells #[.int .i64 p.c, .int .i64 p.f, .int .u64 p.s, .int .u64 p.t, .string p.d] 24)) (.cells zero32 31)
    rw [hz1] at this; rw [hW]; exact this
  clear hW hz1
  obtain ⟨c0, c1, c2, c3, c4⟩ : _ ∧ _ ∧ _ ∧ _ ∧ _ := ⟨cell_of_row W0 _ 0 _ _ (0, 0) hA, cell_of_row W0 _ 1 _ _ (0, 0) hA, cell_of_row W0 _ 2 _ _ (0, 0) hA, cell_of_row W0 _ 3 _ _ (0, 0) hA, cell_of_row W0 _ 4 _ _ (0, 0) hA⟩
  have HB := Lib.hid hB0
  have HR := Lib.hid hR0
  clear hB0 hR0 hA
  go_wp2_with fail
  refine (HP.out _).mono ?_
  rintro _ w1 ⟨rfl, b1⟩
  have hR1 := (b1.block _ (Array.getElem?_eq_some_iff.1 HR.out).1).trans HR.out
  have hB1 := HB.out.trans (b1.mono HB.out.size)
  clear c0 c1 c2 c3 c4 HB HR b1
  go_upto_region 3 with fail
  refine wp_region_lit ?_
  refine wpList_step (fun K hK => ?_)
  go_simp
  refine hK _ _ ?_
  clear hK K
  refine wpList_store_rowTo rfl 31 _ _ rfl rfl (w.heap.size + 1) zero32 rfl rfl 31 _ hR1 (i32s _ rfl) rfl zero32_one ?_
  refine wpList_nil ?_
  have HR' := setRow_heap w1 (w.heap.size + 1) _ zero32 31 (0, 0) hR1
  have HB9 : Below w.heap.size w (w1.setRow (w.heap.size + 1) zero32) := below_setRow hB1 (Nat.le_succ _) _
  obtain ⟨W9, hW9⟩ : ∃ X, X = w1.setRow (w.heap.size + 1) zero32 := ⟨_, rfl⟩
  rw [← hW9] at HR' HB9 ⊢
  clear hW9 hR1 hB1
  go_wp2_with fail
  exact bodyPost_ret (results_cell_row Tryd.results9 _ _ (w.heap.size + 1) 31 zero32 (0, 0) (.array 32 5) rfl HR' Tryd.underlying31 (isArr 32 5) (i32s _ rfl)) rfl ⟨rfl, HB9⟩

set_option maxRecDepth 20000 in
set_option maxHeartbeats 1000000 in
theorem psum_yes (p : P5) (h : p.right) (ho : p.ok) (w : World) (ht : Tab w) :
    Calls Tryd.prog 9 #[.agg #[.int .i64 p.c, .int .i64 p.f, .int .u64 p.s, .int .u64 p.t, .string p.d]] w fun e w' => e = .returned (.agg (scells (ofSt p.bytes))) ∧ Below w.heap.size w w' := by
  have HP := Lib.hid (put_yes p h ho)
  have HT := Lib.hid ht
  have hs := pbytes_size p h
  generalize p.bytes = S at *
  have hof : ∀ (bk : Nat) (W : World), Tab W → W.cell? ⟨bk, 0, none⟩ = some (.string S) → bk < W.heap.size → Calls Tryd.prog 19 #[.slice (some ⟨bk, 0, none⟩) 1 1] W fun r w' => r = .returned (.agg (scells (ofSt S))) ∧ Below W.heap.size W w' :=
    fun bk W hW hc hbk => of_any bk 0 1 [S] S hs (join_one S) W hW (fun j x h => by
      match j, h with
      | 0, h => injection h with h; subst h; exact hc
      | (m + 1), h => simp at h) hbk (by simp) (by simp)
  have hone : (scells (ofSt S)).all (·.oneCell') = true := u8_one (sumL (ofSt S))
  have hsz : (scells (ofSt S)).size = 32 := rfl
  generalize scells (ofSt S) = C at *
  have HOf := Lib.hid hof
  have HSz := Lib.hid hsz
  have HOn := Lib.hid hone
  clear h hof hsz hone hs ht ho
  go_enter Tryd.func9, Tryd.ntmps9
  go_upto_region 1 with fail
  change Code.wp _ _ _ _ ((w.alloc (.cells #[.int .i64 p.c, .int .i64 p.f, .int .u64 p.s, .int .u64 p.t, .string p.d] 24)).alloc (.cells zero32 31))
  obtain ⟨W0, hW⟩ : ∃ X, X = (w.alloc (.cells #[.int .i64 p.c, .int .i64 p.f, .int .u64 p.s, .int .u64 p.t, .string p.d] 24)).alloc (.cells zero32 31) := ⟨_, rfl⟩
  rw [← hW]
  have hB0 : Below w.heap.size w W0 := by rw [hW]; exact ((Below.refl _ _).alloc (Nat.le_refl _) _).alloc (by simp) _
  have hz1 : (w.alloc (.cells #[.int .i64 p.c, .int .i64 p.f, .int .u64 p.s, .int .u64 p.t, .string p.d] 24)).heap.size = w.heap.size + 1 := by simp
  have hA : W0.heap[w.heap.size]? = some (.cells #[.int .i64 p.c, .int .i64 p.f, .int .u64 p.s, .int .u64 p.t, .string p.d] 24 (0, 0)) := by rw [hW, Below.heap_alloc _ _ _ (by simp)]; exact heap_alloc_new _ _
  have hR0 : W0.heap[w.heap.size + 1]? = some (.cells zero32 31 (0, 0)) := by
    have := heap_alloc_new (w.alloc (.cells #[.int .i64 p.c, .int .i64 p.f, .int .u64 p.s, .int .u64 p.t, .string p.d] 24)) (.cells zero32 31)
    rw [hz1] at this; rw [hW]; exact this
  clear hW hz1
  obtain ⟨c0, c1, c2, c3, c4⟩ : _ ∧ _ ∧ _ ∧ _ ∧ _ := ⟨cell_of_row W0 _ 0 _ _ (0, 0) hA, cell_of_row W0 _ 1 _ _ (0, 0) hA, cell_of_row W0 _ 2 _ _ (0, 0) hA, cell_of_row W0 _ 3 _ _ (0, 0) hA, cell_of_row W0 _ 4 _ _ (0, 0) hA⟩
  have HB := Lib.hid hB0
  have HR := Lib.hid hR0
  clear hB0 hR0 hA
  go_wp2_with fail
  refine (HP.out _).mono ?_
  rintro _ w1 ⟨rfl, b1⟩
  have HR1 := Lib.hid ((b1.block _ (Array.getElem?_eq_some_iff.1 HR.out).1).trans HR.out)
  have HB1 := Lib.hid (HB.out.trans (b1.mono HB.out.size))
  clear c0 c1 c2 c3 c4 HB HR b1 HP
  go_wp2_with fail
  refine (HOf.out _ _ (tab_below HT.out (HB1.out.alloc HB1.out.size _)) (World.cell?_alloc_mark _ _ _ _ 0) (by simp)).mono ?_
  rintro _ w2 ⟨rfl, b2⟩
  have hl1 := (Array.getElem?_eq_some_iff.1 HR1.out).1
  have hR2 := (b2.block _ (by simp; omega)).trans ((Below.heap_alloc _ _ _ hl1).trans HR1.out)
  have hB2 := (HB1.out.alloc HB1.out.size (.cells #[.string S] 9)).trans (b2.mono (by have := HB1.out.size; simp; omega))
  clear HB1 HR1 b2
  have hst := hrow w2 (w.heap.size + 1) C zero32 HSz.out rfl HOn.out hR2
  go_wp2_with fail
  have HR' := setRow_heap w2 (w.heap.size + 1) _ C 31 (0, 0) hR2
  have HB9 : Below w.heap.size w (w2.setRow (w.heap.size + 1) C) := below_setRow hB2 (Nat.le_succ _) _
  obtain ⟨W9, hW9⟩ : ∃ X, X = w2.setRow (w.heap.size + 1) C := ⟨_, rfl⟩
  rw [← hW9] at HR' HB9 ⊢
  clear hW9 hR2 hB2 hst
  exact bodyPost_ret (results_cell_row Tryd.results9 _ _ (w.heap.size + 1) 31 C (0, 0) (.array 32 5) rfl HR' Tryd.underlying31 (isArr 32 5) (i32s _ HSz.out)) rfl ⟨rfl, HB9⟩

set_option maxRecDepth 20000 in
set_option maxHeartbeats 1000000 in
theorem rpsum_no (p : P5) (h : ¬ p.right) (w : World) :
    Calls Tryd.prog 10 #[.agg #[.int .i64 p.c, .int .i64 p.f, .int .u64 p.s, .int .u64 p.t, .string p.d]] w fun e w' => e = .returned (.agg zero32) ∧ Below w.heap.size w w' := by
  have HP := Lib.hid (rright_no p h)
  clear h
  go_enter Tryd.func10, Tryd.ntmps10
  go_upto_region 1 with fail
  change Code.wp _ _ _ _ ((w.alloc (.cells #[.int .i64 p.c, .int .i64 p.f, .int .u64 p.s, .int .u64 p.t, .string p.d] 24)).alloc (.cells zero32 30))
  obtain ⟨W0, hW⟩ : ∃ X, X = (w.alloc (.cells #[.int .i64 p.c, .int .i64 p.f, .int .u64 p.s, .int .u64 p.t, .string p.d] 24)).alloc (.cells zero32 30) := ⟨_, rfl⟩
  rw [← hW]
  have hB0 : Below w.heap.size w W0 := by rw [hW]; exact ((Below.refl _ _).alloc (Nat.le_refl _) _).alloc (by simp) _
  have hz1 : (w.alloc (.cells #[.int .i64 p.c, .int .i64 p.f, .int .u64 p.s, .int .u64 p.t, .string p.d] 24)).heap.size = w.heap.size + 1 := by simp
  have hA : W0.heap[w.heap.size]? = some (.cells #[.int .i64 p.c, .int .i64 p.f, .int .u64 p.s, .int .u64 p.t, .string p.d] 24 (0, 0)) := by rw [hW, Below.heap_alloc _ _ _ (by simp)]; exact heap_alloc_new _ _
  have hR0 : W0.heap[w.heap.size + 1]? = some (.cells zero32 30 (0, 0)) := by
    have := heap_alloc_new (w.alloc (.cells #[.int .i64 p.c, .int .i64 p.f, .int .u64 p.s, .int .u64 p.t, .string p.d] 24)) (.cells zero32 30)
    rw [hz1] at this; rw [hW]; exact this
  clear hW hz1
  obtain ⟨c0, c1, c2, c3, c4⟩ : _ ∧ _ ∧ _ ∧ _ ∧ _ := ⟨cell_of_row W0 _ 0 _ _ (0, 0) hA, cell_of_row W0 _ 1 _ _ (0, 0) hA, cell_of_row W0 _ 2 _ _ (0, 0) hA, cell_of_row W0 _ 3 _ _ (0, 0) hA, cell_of_row W0 _ 4 _ _ (0, 0) hA⟩
  have HB := Lib.hid hB0
  have HR := Lib.hid hR0
  clear hB0 hR0
  go_wp2_with fail
  refine (HP.out _).mono ?_
  rintro _ w1 ⟨rfl, b1⟩
  have hR1 := (b1.block _ (Array.getElem?_eq_some_iff.1 HR.out).1).trans HR.out
  have hB1 := HB.out.trans (b1.mono HB.out.size)
  clear c0 c1 c2 c3 c4 HB HR b1
  go_upto_region 2 with fail
  refine wp_region_lit ?_
  refine wpList_step (fun K hK => ?_)
  go_simp
  refine hK _ _ ?_
  clear hK K
  refine wpList_store_rowTo rfl 30 _ _ rfl rfl (w.heap.size + 1) zero32 rfl rfl 30 _ hR1 (i32b _ rfl) rfl zero32_one ?_
  refine wpList_nil ?_
  have HR' := setRow_heap w1 (w.heap.size + 1) _ zero32 30 (0, 0) hR1
  have HB9 : Below w.heap.size w (w1.setRow (w.heap.size + 1) zero32) := below_setRow hB1 (Nat.le_succ _) _
  obtain ⟨W9, hW9⟩ : ∃ X, X = w1.setRow (w.heap.size + 1) zero32 := ⟨_, rfl⟩
  rw [← hW9] at HR' HB9 ⊢
  clear hW9 hR1 hB1
  go_wp2_with fail
  exact bodyPost_ret (results_cell_row Tryd.results10 _ _ (w.heap.size + 1) 30 zero32 (0, 0) (.array 32 5) rfl HR' Tryd.underlying30 (isArr 32 5) (i32b _ rfl)) rfl ⟨rfl, HB9⟩

set_option maxRecDepth 20000 in
set_option maxHeartbeats 1000000 in
theorem rpsum_yes (p : P5) (h : p.right) (ho : p.ok) (w : World) :
    Calls Tryd.prog 10 #[.agg #[.int .i64 p.c, .int .i64 p.f, .int .u64 p.s, .int .u64 p.t, .string p.d]] w fun e w' => e = .returned (.agg (scells (ofSt p.bytes))) ∧ Below w.heap.size w w' := by
  have HP := Lib.hid (rput_yes p h ho)
  have HQ := Lib.hid (rright_yes p h)
  have hs := pbytes_size p h
  generalize p.bytes = S at *
  have hof : ∀ W : World, Calls Tryd.prog 20 #[.string S] W fun r w' => r = .returned (.agg (scells (ofSt S))) ∧ Below W.heap.size W w' := fun W => rof_any S hs W
  have hone : (scells (ofSt S)).all (·.oneCell') = true := u8_one (sumL (ofSt S))
  have hsz : (scells (ofSt S)).size = 32 := rfl
  generalize scells (ofSt S) = C at *
  have HOf := Lib.hid hof
  have HSz := Lib.hid hsz
  have HOn := Lib.hid hone
  clear h hof hsz hone hs ho
  go_enter Tryd.func10, Tryd.ntmps10
  go_upto_region 1 with fail
  change Code.wp _ _ _ _ ((w.alloc (.cells #[.int .i64 p.c, .int .i64 p.f, .int .u64 p.s, .int .u64 p.t, .string p.d] 24)).alloc (.cells zero32 30))
  obtain ⟨W0, hW⟩ : ∃ X, X = (w.alloc (.cells #[.int .i64 p.c, .int .i64 p.f, .int .u64 p.s, .int .u64 p.t, .string p.d] 24)).alloc (.cells zero32 30) := ⟨_, rfl⟩
  rw [← hW]
  have hB0 : Below w.heap.size w W0 := by rw [hW]; exact ((Below.refl _ _).alloc (Nat.le_refl _) _).alloc (by simp) _
  have hz1 : (w.alloc (.cells #[.int .i64 p.c, .int .i64 p.f, .int .u64 p.s, .int .u64 p.t, .string p.d] 24)).heap.size = w.heap.size + 1 := by simp
  have hA : W0.heap[w.heap.size]? = some (.cells #[.int .i64 p.c, .int .i64 p.f, .int .u64 p.s, .int .u64 p.t, .string p.d] 24 (0, 0)) := by rw [hW, Below.heap_alloc _ _ _ (by simp)]; exact heap_alloc_new _ _
  have hR0 : W0.heap[w.heap.size + 1]? = some (.cells zero32 30 (0, 0)) := by
    have := heap_alloc_new (w.alloc (.cells #[.int .i64 p.c, .int .i64 p.f, .int .u64 p.s, .int .u64 p.t, .string p.d] 24)) (.cells zero32 30)
    rw [hz1] at this; rw [hW]; exact this
  clear hW hz1
  obtain ⟨c0, c1, c2, c3, c4⟩ : _ ∧ _ ∧ _ ∧ _ ∧ _ := ⟨cell_of_row W0 _ 0 _ _ (0, 0) hA, cell_of_row W0 _ 1 _ _ (0, 0) hA, cell_of_row W0 _ 2 _ _ (0, 0) hA, cell_of_row W0 _ 3 _ _ (0, 0) hA, cell_of_row W0 _ 4 _ _ (0, 0) hA⟩
  have HB := Lib.hid hB0
  have HR := Lib.hid hR0
  clear hB0 hR0
  have HA := Lib.hid hA
  go_wp2_with fail
  refine (HQ.out _).mono ?_
  rintro _ w1 ⟨rfl, b1⟩
  have HR1 := Lib.hid ((b1.block _ (Array.getElem?_eq_some_iff.1 HR.out).1).trans HR.out)
  have HB1 := Lib.hid (HB.out.trans (b1.mono HB.out.size))
  have hA1 := (b1.block _ (Array.getElem?_eq_some_iff.1 HA.out).1).trans HA.out
  clear c0 c1 c2 c3 c4 HB HR b1 HQ HA
  obtain ⟨c0, c1, c2, c3, c4⟩ : _ ∧ _ ∧ _ ∧ _ ∧ _ := ⟨cell_of_row w1 _ 0 _ _ (0, 0) hA1, cell_of_row w1 _ 1 _ _ (0, 0) hA1, cell_of_row w1 _ 2 _ _ (0, 0) hA1, cell_of_row w1 _ 3 _ _ (0, 0) hA1, cell_of_row w1 _ 4 _ _ (0, 0) hA1⟩
  clear hA1
  go_wp2_with fail
  refine (HP.out _).mono ?_
  rintro _ w2 ⟨rfl, b2⟩
  have HR2 := Lib.hid ((b2.block _ (Array.getElem?_eq_some_iff.1 HR1.out).1).trans HR1.out)
  have HB2 := Lib.hid (HB1.out.trans (b2.mono HB1.out.size))
  clear c0 c1 c2 c3 c4 HR1 HB1 b2 HP
  go_wp2_with fail
  refine (HOf.out _).mono ?_
  rintro _ w3 ⟨rfl, b3⟩
  have hR3 := (b3.block _ (Array.getElem?_eq_some_iff.1 HR2.out).1).trans HR2.out
  have hB3 := HB2.out.trans (b3.mono HB2.out.size)
  clear HR2 HB2 b3
  have hst := hrow w3 (w.heap.size + 1) C zero32 HSz.out rfl HOn.out hR3
  go_wp2_with fail
  have HR' := setRow_heap w3 (w.heap.size + 1) _ C 30 (0, 0) hR3
  have HB9 : Below w.heap.size w (w3.setRow (w.heap.size + 1) C) := below_setRow hB3 (Nat.le_succ _) _
  obtain ⟨W9, hW9⟩ : ∃ X, X = w3.setRow (w.heap.size + 1) C := ⟨_, rfl⟩
  rw [← hW9] at HR' HB9 ⊢
  clear hW9 hR3 hB3 hst
  exact bodyPost_ret (results_cell_row Tryd.results10 _ _ (w.heap.size + 1) 30 C (0, 0) (.array 32 5) rfl HR' Tryd.underlying30 (isArr 32 5) (i32b _ HSz.out)) rfl ⟨rfl, HB9⟩

set_option maxRecDepth 20000 in
theorem key_any (p : P5) (w : World) :
    Calls Tryd.prog 13 #[.agg #[.int .i64 p.c, .int .i64 p.f, .int .u64 p.s, .int .u64 p.t, .string p.d]] w fun e w' => e = .returned (.agg #[.int .i64 p.c, .int .i64 p.f, .int .u64 p.s]) ∧ Below w.heap.size w w' := by
  go_enter Tryd.func13, Tryd.ntmps13
  go_wp2
  refine bodyPost_ret (v := .agg #[.int .i64 p.c, .int .i64 p.f, .int .u64 p.s]) (by simp [results, Tryd.results13, go_sem]) rfl ⟨rfl, ?_⟩
  exact ((Below.refl _ _).alloc (Nat.le_refl _) _).alloc (by simp) _
set_option maxRecDepth 20000 in
theorem rkey_any (p : P5) (w : World) :
    Calls Tryd.prog 14 #[.agg #[.int .i64 p.c, .int .i64 p.f, .int .u64 p.s, .int .u64 p.t, .string p.d]] w fun e w' => e = .returned (.agg #[.int .i64 p.c, .int .i64 p.f, .int .u64 p.s]) ∧ Below w.heap.size w w' := by
  go_enter Tryd.func14, Tryd.ntmps14
  go_wp2
  refine bodyPost_ret (v := .agg #[.int .i64 p.c, .int .i64 p.f, .int .u64 p.s]) (by simp [results, Tryd.results14, go_sem]) rfl ⟨rfl, ?_⟩
  exact ((Below.refl _ _).alloc (Nat.le_refl _) _).alloc (by simp) _
end Go.Proofs.YtoghchbkkcgkcaaDoor.Sha
