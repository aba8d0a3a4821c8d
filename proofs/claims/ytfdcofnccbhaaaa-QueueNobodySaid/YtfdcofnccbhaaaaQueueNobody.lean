/- 'QueueNobody' holds for every input, with no condition: a queue that nobody made has nothing, and takes nothing. -/
import Derived.Test.YtfdcofnccbhaaaaQueueAwake
import Derived.OpenShut
import Derived.ProofKit
import Derived.Lib.SmallJoins
namespace Go.Proofs.Ytfdcofnccbhaaaa.queueNobody
open Go.RowKit Queue

def zero : Value := .tuple #[.agg #[.int .i64 0, .int .i64 0, .int .u64 0], .bool false]

theorem len_none (w : World) : Calls Try.prog 41 #[.pointer none] w fun e w' => e = .returned (.int .i64 0) ∧ w' = w := by
  go_enter Try.func41, Try.ntmps41
  go_wp2
  go_ret
  exact ⟨rfl, rfl⟩
theorem room_none (w : World) : Calls Try.prog 42 #[.pointer none] w fun e w' => e = .returned (.int .i64 0) ∧ w' = w := by
  go_enter Try.func42, Try.ntmps42
  go_wp2
  go_ret
  exact ⟨rfl, rfl⟩
theorem all_none (w : World) : Calls Try.prog 43 #[.pointer none] w fun e w' => e = .returned (.slice none 0 0) ∧ w' = w := by
  go_enter Try.func43, Try.ntmps43
  go_wp2
  go_ret
  exact ⟨rfl, rfl⟩
theorem clear_none (w : World) : Calls Try.prog 38 #[.pointer none] w fun e w' => e = .returned (.tuple #[]) ∧ w' = w := by
  go_enter Try.func38, Try.ntmps38
  go_wp2
  go_end0
  exact ⟨rfl, rfl⟩
theorem put_none (c f q : Int) (w : World) : Calls Try.prog 40 #[.pointer none, .agg #[.int .i64 c, .int .i64 f, .int .u64 q]] w fun e w' => e = .returned (.int .i64 1) ∧ Below w.heap.size w w' := by
  go_enter Try.func40, Try.ntmps40
  go_wp2
  go_ret
  exact ⟨rfl, (Below.refl _ _).alloc (Nat.le_refl _) _⟩
theorem peek_none (w : World) : Calls Try.prog 37 #[.pointer none] w fun e w' => e = .returned zero ∧ Below w.heap.size w w' := by
  unfold zero
  go_enter Try.func37, Try.ntmps37
  go_wp2_with (go_at_call 41; ((with_reducible refine (len_none _).mono ?_); rintro e w' ⟨rfl, rfl⟩))
  refine bodyPost_ret (v := .tuple #[.agg #[.int .i64 0, .int .i64 0, .int .u64 0], .bool false]) (by simp [results, Try.results37, go_sem]) rfl ⟨rfl, ?_⟩
  exact ((Below.refl _ _).alloc (Nat.le_refl _) _).alloc (by simp) _
theorem get_none (w : World) : Calls Try.prog 36 #[.pointer none] w fun e w' => e = .returned zero ∧ Below w.heap.size w w' := by
  have hp := fun W => peek_none W
  unfold zero at *
  go_enter Try.func36, Try.ntmps36
  go_wp2_with fail
  refine (hp _).mono ?_
  rintro e w1 ⟨rfl, hb⟩
  have hblk : w1.heap[w.heap.size]? = some (.cells #[.int .i64 0, .int .i64 0, .int .u64 0] 53 (0, 0)) := (hb.block _ (by simp)).trans (heap_alloc_new w _)
  have c0 := cell_blk hblk 0
  have c1 := cell_blk hblk 1
  have c2 := cell_blk hblk 2
  have f0 := free_blk hblk 0
  have f1 := free_blk hblk 1
  have f2 := free_blk hblk 2
  have hlt := lt_blk hblk
  have hbel : Below w.heap.size w w1 := ((Below.refl _ _).alloc (Nat.le_refl _) _).trans (hb.mono (by simp))
  simp at c0 c1 c2
  have hx : ∀ o, ((((w1.setCell ⟨w.heap.size, 0, none⟩ (.int .i64 0)).setCell ⟨w.heap.size, 1, none⟩ (.int .i64 0)).setCell ⟨w.heap.size, 2, none⟩ (.int .u64 0)).alloc o).heap[w.heap.size]? = some (.cells #[.int .i64 0, .int .i64 0, .int .u64 0] 53 (0, 0)) := fun o => by
    rw [Below.heap_alloc _ _ _ (by simp [World.setCell]; omega)]
    simp [World.setCell, Array.getElem?_modify, hblk]
  have HX := Lib.hid hx
  clear hb hblk hp hx
  go_wp2
  have r0 := fun o => cell_blk (HX.out o) 0
  have r1 := fun o => cell_blk (HX.out o) 1
  have r2 := fun o => cell_blk (HX.out o) 2
  simp only [List.getElem?_toArray, List.getElem?_cons_zero, List.getElem?_cons_succ] at r0 r1 r2
  refine bodyPost_ret (v := .tuple #[.agg #[.int .i64 0, .int .i64 0, .int .u64 0], .bool false]) (by simp [results, Try.results36, go_sem, r0, r1, r2]) rfl ⟨rfl, ?_⟩
  exact (((hbel.setCell (p := ⟨w.heap.size, 0, none⟩) (Nat.le_refl _) _).setCell (p := ⟨w.heap.size, 1, none⟩) (Nat.le_refl _) _).setCell (p := ⟨w.heap.size, 2, none⟩) (Nat.le_refl _) _).alloc (by simp [World.setCell]; omega) _

theorem kept {w w1 : World} {g : Nat} {o : Obj} (hb : Below w.heap.size w w1) (h : w.heap[g]? = some o) : w1.heap[g]? = some o := (hb.block g (lt_blk h)).trans h

set_option maxHeartbeats 2000000 in
theorem walk0 (c f q : Int) (w : World) :
    Calls Try.prog 7 #[.agg #[.int .i64 c, .int .i64 f, .int .u64 q]] w fun e w' => e = .returned (.bool true) ∧ Below w.heap.size w w' := by
  have hg := fun W => get_none W
  have hp := fun W => peek_none W
  unfold zero at *
  have HG := Lib.hid hg; have HP := Lib.hid hp; clear hg hp
  go_enter Try.func7, Try.ntmps7
  go_wp2_with fail
  refine (HG.out _).mono ?_
  rintro e w1 ⟨rfl, b1⟩
  have k1 := kept b1 (heap_alloc_new w _)
  have B1 := Lib.hid (((Below.refl w.heap.size w).alloc (Nat.le_refl _) _).trans (b1.mono (by simp)))
  have K1 := Lib.hid k1
  clear b1 k1
  go_wp2_with fail
  refine (HP.out _).mono ?_
  rintro e w2 ⟨rfl, b2⟩
  have k2 := kept b2 ((Below.heap_alloc _ _ _ (lt_blk K1.out)).trans K1.out)
  have x2 := kept b2 (heap_alloc_new w1 _)
  have B2 := Lib.hid (B1.out.trans (((Below.refl w1.heap.size w1).alloc (Nat.le_refl _) (.cells #[.int .i64 0, .int .i64 0, .int .u64 0] 53)).trans (b2.mono (by simp)) |>.mono B1.out.size))
  have K2 := Lib.hid (And.intro k2 x2)
  clear b2 k2 x2 B1 K1
  go_wp2_with fail
  refine (clear_none _).mono ?_
  rintro e w3 ⟨rfl, rfl⟩
  have k3 := (Below.heap_alloc w2 (.cells #[.int .i64 0, .int .i64 0, .int .u64 0] 53) _ (lt_blk K2.out.1)).trans K2.out.1
  have x3 := (Below.heap_alloc w2 (.cells #[.int .i64 0, .int .i64 0, .int .u64 0] 53) _ (lt_blk K2.out.2)).trans K2.out.2
  have y3 : (w2.alloc (.cells #[.int .i64 0, .int .i64 0, .int .u64 0] 53)).heap[w2.heap.size]? = some (.cells #[.int .i64 0, .int .i64 0, .int .u64 0] 53 (0, 0)) := heap_alloc_new w2 _
  have B3 := Lib.hid (B2.out.alloc B2.out.size (.cells #[.int .i64 0, .int .i64 0, .int .u64 0] 53))
  have K3 := Lib.hid (And.intro k3 (And.intro x3 y3))
  clear k3 x3 y3 B2 K2
  go_wp2_with fail
  refine (awake_any _).mono ?_
  rintro e w4 ⟨rfl, b4⟩
  have k4 := kept b4 K3.out.1
  have K4 := Lib.hid (And.intro k4 (And.intro (kept b4 K3.out.2.1) (kept b4 K3.out.2.2)))
  have B4 := Lib.hid (B3.out.trans (b4.mono B3.out.size))
  have a0 := cell_blk k4 0
  have a1 := cell_blk k4 1
  have a2 := cell_blk k4 2
  simp only [List.getElem?_toArray, List.getElem?_cons_zero, List.getElem?_cons_succ] at a0 a1 a2
  clear b4 k4 K3 B3
  go_wp2_with fail
  refine (put_none c f q _).mono ?_
  rintro e w5 ⟨rfl, b5⟩
  have x5 := kept b5 K4.out.2.1
  have y5 := kept b5 K4.out.2.2
  have B5 := Lib.hid (B4.out.trans (b5.mono B4.out.size))
  have d0 := cell_blk x5 0
  have d1 := cell_blk x5 1
  have d2 := cell_blk x5 2
  have h0 := cell_blk y5 0
  have h1 := cell_blk y5 1
  have h2 := cell_blk y5 2
  simp only [List.getElem?_toArray, List.getElem?_cons_zero, List.getElem?_cons_succ] at d0 d1 d2 h0 h1 h2
  clear b5 x5 y5 K4 B4 a0 a1 a2
  go_wp2_with (first
    | (go_at_call 41; ((with_reducible refine (len_none _).mono ?_); rintro e w' ⟨rfl, rfl⟩))
    | (go_at_call 42; ((with_reducible refine (room_none _).mono ?_); rintro e w' ⟨rfl, rfl⟩))
    | (go_at_call 43; ((with_reducible refine (all_none _).mono ?_); rintro e w' ⟨rfl, rfl⟩)))
  go_ret
  exact ⟨rfl, B5.out⟩

section
open Go.Joins Go.ChangeShapes Go.WideShapes
set_option maxRecDepth 100000 in
theorem walk {H : Type} {enc : TypeId × Value → H} {spare : Nat → Bool} {held : Bool} {w : World} {base : Nat} {v : Value} {d : DataW H} {p : List MemPlace}
    (ok : Value.okWide Try.prog w .any base 53 v) (h : DataW.Trod enc Try.prog w 0 spare held 53 v d p) :
    Calls Try.prog 7 #[v] w fun e w' => e = .returned (.bool true) ∧ Below w.heap.size w w' := by
  obtain ⟨c0, c1, c2, y0, y1, y2, m, rfl, rfl, rfl, hy0, hy1, hy2⟩ := open_agg3 Try.underlying53 (by kernel_rfl) (by kernel_rfl) ok h
  obtain ⟨a, e0, rfl, wa⟩ := DataW.trod_int Try.underlying3 hy0
  obtain ⟨b, e1, rfl, wb⟩ := DataW.trod_int Try.underlying3 hy1
  obtain ⟨q, e2, rfl, wq⟩ := DataW.trod_int Try.underlying22 hy2
  simp at e0 e1 e2
  subst e0 e1 e2
  exact walk0 _ _ _ w
end
end Go.Proofs.Ytfdcofnccbhaaaa.queueNobody
