/- packet.Sum, packet.Key, and the page's. -/
import Derived.Test.YtdljphbfbiganaaDoorPacketAck
import Derived.Test.YtdljphbfbiganaaDoorPacketMath
import Derived.Test.YtdljphbfbiganaaDoorTextRef
import Derived.Deep.Cut
import Derived.Test.YtdljphbfbiganaaDoorShaRow
namespace Go.Proofs.YtdljphbfbiganaaDoor.Sha
open Go Go.RowKit Num Texts Packet

/-- a packet's sum -/
def pSum (p : P5) (r : Bool) : Array Value := if r then scells (ofSt p.bytes) else zero32
theorem pSum_size (p : P5) (r : Bool) : (pSum p r).size = 32 := by unfold pSum; split <;> rfl
theorem pbytes_size (p : P5) (h : p.right) : p.bytes.size ≤ 1000000 := by
  have := textB_size p.d h.2.2.2
  have a := kS_size p.c; have b := kS_size p.f; have c := kS_size p.s; have d := kS_size p.t
  unfold P5.bytes
  rw [ByteArray.size_append, ByteArray.size_append, ByteArray.size_append, ByteArray.size_append]
  omega

set_option maxRecDepth 20000 in
set_option maxHeartbeats 1000000 in
theorem psum_no (p : P5) (h : ¬ p.right) (w : World) :
    Calls Tryd.prog 17 #[.agg #[.int .i64 p.c, .int .i64 p.f, .int .u64 p.s, .int .u64 p.t, .string p.d]] w fun e w' => e = .returned (.agg zero32) ∧ Below w.heap.size w w' := by
  have HP := Lib.hid (put_no p h)
  clear h
  go_enter Tryd.func17, Tryd.ntmps17
  go_upto_region 1 with fail
  change Code.wp _ _ _ _ ((w.alloc (.cells #[.int .i64 p.c, .int .i64 p.f, .int .u64 p.s, .int .u64 p.t, .string p.d] 33)).alloc (.cells zero32 55))
  obtain ⟨W0, hW⟩ : ∃ X, X = (w.alloc (.cells #[.int .i64 p.c, .int .i64 p.f, .int .u64 p.s, .int .u64 p.t, .string p.d] 33)).alloc (.cells zero32 55) := ⟨_, rfl⟩
  rw [← hW]
  have hB0 : Below w.heap.size w W0 := by rw [hW]; exact ((Below.refl _ _).alloc (Nat.le_refl _) _).alloc (by simp) _
  have hz1 : (w.alloc (.cells #[.int .i64 p.c, .int .i64 p.f, .int .u64 p.s, .int .u64 p.t, .string p.d] 33)).heap.size = w.heap.size + 1 := by simp
  have hA : W0.heap[w.heap.size]? = some (.cells #[.int .i64 p.c, .int .i64 p.f, .int .u64 p.s, .int .u64 p.t, .string p.d] 33 (0, 0)) := by rw [hW, Below.heap_alloc _ _ _ (by simp)]; exact heap_alloc_new _ _
  have hR0 : W0.heap[w.heap.size + 1]? = some (.cells zero32 55 (0, 0)) := by
    have := heap_alloc_new (w.alloc (.cells #[.int .i64 p.c, .int .i64 p.f, .int .u64 p.s, .int .u64 p.t, .string p.d] 33)) (.cells zero32 55)
    rw [hz1] at this; rw [hW]; exact this
  clear hW hz1
  obtain ⟨c0, c1, c2, c3, c4⟩ : _ ∧ _ ∧ _ ∧ _ ∧ _ := ⟨cell_of_row W0 _ 0 _ _ (0, 0) hA, cell_of_row W0 _ 1 _ _ (0, 0) hA, cell_of_row W0 _ 2 _ _ (0, 0) hA, cell_of_row W0 _ 3 _ _ (0, 0) hA, cell_of_row W0 _ 4 _ _ (0, 0) hA⟩
  have HB := Lib.hid hB0
  have HR := Lib.hid hR0
  clear hB0 hR0 hA
  go_wp2_with fail
  refine (HP.out _).mono ?_
  rintro _ w1 ⟨rfl, b1⟩
  have hR1 := (b1.block _ (Array.getElem?_eq_some_iff.1 HR.out).1).trans HR.out
  have hB1 := HB.out.trans (b1.mono HB.out.size)
  clear c0 c1 c2 c3 c4 HB HR b1
  go_upto_region 3 with fail
  refine wp_region_lit ?_
  refine wpList_step (fun K hK => ?_)
  go_simp
  refine hK _ _ ?_
  clear hK K
  refine wpList_store_rowTo rfl 55 _ _ rfl rfl (w.heap.size + 1) zero32 rfl rfl 55 _ hR1 (i32s _ rfl) rfl zero32_one ?_
  refine wpList_nil ?_
  have HR' := setRow_heap w1 (w.heap.size + 1) _ zero32 55 (0, 0) hR1
  have HB9 : Below w.heap.size w (w1.setRow (w.heap.size + 1) zero32) := below_setRow hB1 (Nat.le_succ _) _
  obtain ⟨W9, hW9⟩ : ∃ X, X = w1.setRow (w.heap.size + 1) zero32 := ⟨_, rfl⟩
  rw [← hW9] at HR' HB9 ⊢
  clear hW9 hR1 hB1
  go_wp2_with fail
  exact bodyPost_ret (results_cell_row Tryd.results17 _ _ (w.heap.size + 1) 55 zero32 (0, 0) (.array 32 5) rfl HR' Tryd.underlying55 (isArr 32 5) (i32s _ rfl)) rfl ⟨rfl, HB9⟩

set_option maxRecDepth 20000 in
set_option maxHeartbeats 1000000 in
theorem psum_yes (p : P5) (h : p.right) (ho : p.ok) (w : World) (ht : Tab w) :
    Calls Tryd.prog 17 #[.agg #[.int .i64 p.c, .int .i64 p.f, .int .u64 p.s, .int .u64 p.t, .string p.d]] w fun e w' => e = .returned (.agg (scells (ofSt p.bytes))) ∧ Below w.heap.size w w' := by
  have HP := Lib.hid (put_yes p h ho)
  have HT := Lib.hid ht
  have hs := pbytes_size p h
  generalize p.bytes = S at *
  have hof : ∀ (bk : Nat) (W : World), Tab W → W.cell? ⟨bk, 0, none⟩ = some (.string S) → bk < W.heap.size → Calls Tryd.prog 20 #[.slice (some ⟨bk, 0, none⟩) 1 1] W fun r w' => r = .returned (.agg (scells (ofSt S))) ∧ Below W.heap.size W w' :=
    fun bk W hW hc hbk => of_any bk 0 1 [S] S hs (join_one S) W hW (fun j x h => by
      match j, h with
      | 0, h => injection h with h; subst h; exact hc
      | (m + 1), h => simp at h) hbk (by simp) (by simp)
  have hone : (scells (ofSt S)).all (·.oneCell') = true := u8_one (sumL (ofSt S))
  have hsz : (scells (ofSt S)).size = 32 := rfl
  generalize scells (ofSt S) = C at *
  have HOf := Lib.hid hof
  have HSz := Lib.hid hsz
  have HOn := Lib.hid hone
  clear h hof hsz hone hs ht ho
  go_enter Tryd.func17, Tryd.ntmps17
  go_upto_region 1 with fail
  change Code.wp _ _ _ _ ((w.alloc (.cells #[.int .i64 p.c, .int .i64 p.f, .int .u64 p.s, .int .u64 p.t, .string p.d] 33)).alloc (.cells zero32 55))
  obtain ⟨W0, hW⟩ : ∃ X, X = (w.alloc (.cells #[.int .i64 p.c, .int .i64 p.f, .int .u64 p.s, .int .u64 p.t, .string p.d] 33)).alloc (.cells zero32 55) := ⟨_, rfl⟩
  rw [← hW]
  have hB0 : Below w.heap.size w W0 := by rw [hW]; exact ((Below.refl _ _).alloc (Nat.le_refl _) _).alloc (by simp) _
  have hz1 : (w.alloc (.cells #[.int .i64 p.c, .int .i64 p.f, .int .u64 p.s, .int .u64 p.t, .string p.d] 33)).heap.size = w.heap.size + 1 := by simp
  have hA : W0.heap[w.heap.size]? = some (.cells #[.int .i64 p.c, .int .i64 p.f, .int .u64 p.s, .int .u64 p.t, .string p.d] 33 (0, 0)) := by rw [hW, Below.heap_alloc _ _ _ (by simp)]; exact heap_alloc_new _ _
  have hR0 : W0.heap[w.heap.size + 1]? = some (.cells zero32 55 (0, 0)) := by
    have := heap_alloc_new (w.alloc (.cells #[.int .i64 p.c, .int .i64 p.f, .int .u64 p.s, .int .u64 p.t, .string p.d] 33)) (.cells zero32 55)
    rw [hz1] at this; rw [hW]; exact this
  clear hW hz1
  obtain ⟨c0, c1, c2, c3, c4⟩ : _ ∧ _ ∧ _ ∧ _ ∧ _ := ⟨cell_of_row W0 _ 0 _ _ (0, 0) hA, cell_of_row W0 _ 1 _ _ (0, 0) hA, cell_of_row W0 _ 2 _ _ (0, 0) hA, cell_of_row W0 _ 3 _ _ (0, 0) hA, cell_of_row W0 _ 4 _ _ (0, 0) hA⟩
  have HB := Lib.hid hB0
  have HR := Lib.hid hR0
  clear hB0 hR0 hA
  go_wp2_with fail
  refine (HP.out _).mono ?_
  rintro _ w1 ⟨rfl, b1⟩
  have HR1 := Lib.hid ((b1.block _ (Array.getElem?_eq_some_iff.1 HR.out).1).trans HR.out)
  have HB1 := Lib.hid (HB.out.trans (b1.mono HB.out.size))
  clear c0 c1 c2 c3 c4 HB HR b1 HP
  go_wp2_with fail
  refine (HOf.out _ _ (tab_below HT.out (HB1.out.alloc HB1.out.size _)) (World.cell?_alloc_mark _ _ _ _ 0) (by simp)).mono ?_
  rintro _ w2 ⟨rfl, b2⟩
  have hl1 := (Array.getElem?_eq_some_iff.1 HR1.out).1
  have hR2 := (b2.block _ (by simp; omega)).trans ((Below.heap_alloc _ _ _ hl1).trans HR1.out)
  have hB2 := (HB1.out.alloc HB1.out.size (.cells #[.string S] 9)).trans (b2.mono (by have := HB1.out.size; simp; omega))
  clear HB1 HR1 b2
  have hst := hrow w2 (w.heap.size + 1) C zero32 HSz.out rfl HOn.out hR2
  go_wp2_with fail
  have HR' := setRow_heap w2 (w.heap.size + 1) _ C 55 (0, 0) hR2
  have HB9 : Below w.heap.size w (w2.setRow (w.heap.size + 1) C) := below_setRow hB2 (Nat.le_succ _) _
  obtain ⟨W9, hW9⟩ : ∃ X, X = w2.setRow (w.heap.size + 1) C := ⟨_, rfl⟩
  rw [← hW9] at HR' HB9 ⊢
  clear hW9 hR2 hB2 hst
  exact bodyPost_ret (results_cell_row Tryd.results17 _ _ (w.heap.size + 1) 55 C (0, 0) (.array 32 5) rfl HR' Tryd.underlying55 (isArr 32 5) (i32s _ HSz.out)) rfl ⟨rfl, HB9⟩

set_option maxRecDepth 20000 in
theorem key_any (p : P5) (w : World) :
    Calls Tryd.prog 7 #[.agg #[.int .i64 p.c, .int .i64 p.f, .int .u64 p.s, .int .u64 p.t, .string p.d]] w fun e w' => e = .returned (.agg #[.int .i64 p.c, .int .i64 p.f, .int .u64 p.s]) ∧ Below w.heap.size w w' := by
  go_enter Tryd.func7, Tryd.ntmps7
  go_wp2
  refine bodyPost_ret (v := .agg #[.int .i64 p.c, .int .i64 p.f, .int .u64 p.s]) (by simp [results, Tryd.results7, go_sem]) rfl ⟨rfl, ?_⟩
  exact ((Below.refl _ _).alloc (Nat.le_refl _) _).alloc (by simp) _
end Go.Proofs.YtdljphbfbiganaaDoor.Sha
