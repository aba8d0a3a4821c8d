/- A shard's Claim, Release, Complete, Expire. -/
import Derived.Test.YtlpnecmcncekcaaGreatShardChg
namespace Go.Proofs.YtlpnecmcncekcaaGreat.Mk
open Go Go.RowKit Go.MuLone

theorem heap_alloc_new2 (w : World) (o : Obj) (n : Nat) (h : n = w.heap.size) : (w.alloc o).heap[n]? = some o := by rw [h]; exact heap_alloc_new w o
set_option maxRecDepth 20000 in
set_option maxHeartbeats 2000000 in
theorem claim_any (S B : Nat) (room who : Int) (l : List Ms) (clock : Nat) (k : K3) (W : World) (h : ShIs W S B room l clock 0) (hwho : 1 ≤ who) :
    Calls Tryz.prog 52 #[.pointer (some ⟨S, 0, none⟩), k.val, .int .i64 who] W fun e w' => e = .returned (.int .i64 (chgR 1 who k l)) ∧ ShIs w' S B room (chgL 1 who k l clock (putM k ⟨k, 2, who⟩ l clock)).1 (chgL 1 who k l clock (putM k ⟨k, 2, who⟩ l clock)).2 0 ∧ Only2 S B W w' := by
  obtain ⟨W3, hW3⟩ : ∃ X, X = ((W.alloc (.cells #[.pointer (some ⟨S, 0, none⟩)] 68)).alloc (.cells #[.int .i64 k.c, .int .i64 k.f, .int .u64 k.s] 41)).alloc (.cells #[.int .i64 who] 3) := ⟨_, rfl⟩
  have hS3 : W3.heap[W.heap.size]? = some (.cells #[.pointer (some ⟨S, 0, none⟩)] 68 (0, 0)) := by rw [hW3]; rw [Below.heap_alloc _ _ _ (by simp; try omega)]; rw [Below.heap_alloc _ _ _ (by simp; try omega)]; exact heap_alloc_new2 _ _ _ rfl
  have hK3 : W3.heap[W.heap.size + 1]? = some (.cells #[.int .i64 k.c, .int .i64 k.f, .int .u64 k.s] 41 (0, 0)) := by rw [hW3]; rw [Below.heap_alloc _ _ _ (by simp; try omega)]; exact heap_alloc_new2 _ _ _ (by simp)
  have hB3 : W3.heap[W.heap.size + 2]? = some (.cells #[.int .i64 who] 3 (0, 0)) := by rw [hW3]; exact heap_alloc_new2 _ _ _ (by simp)
  have h3 : ShIs W3 S B room l clock 0 := by rw [hW3]; exact ((h.new _).new _).new _
  have hO : Only2 S B W W3 := by rw [hW3]; exact (((Only2.refl S B W).alloc _).alloc _).alloc _
  have HX := Lib.hid (chgClaim S B (W.heap.size + 1) W.heap.size (W.heap.size + 2) room who l clock k W3 h3 hK3 hS3 hB3)
  have c0 := cell_of_row W3 W.heap.size 0 _ _ (0, 0) hS3
  have c1 := cell_of_row W3 (W.heap.size + 1) 0 _ _ (0, 0) hK3
  have c2 := cell_of_row W3 (W.heap.size + 1) 1 _ _ (0, 0) hK3
  have c3 := cell_of_row W3 (W.heap.size + 1) 2 _ _ (0, 0) hK3
  have c4 := cell_of_row W3 (W.heap.size + 2) 0 _ _ (0, 0) hB3
  have HO := Lib.hid hO
  clear hO h3 hS3 hK3 hB3 h
  generalize chgR 1 who k l = r at HX ⊢
  generalize chgL 1 who k l clock (putM k ⟨k, 2, who⟩ l clock) = L at HX ⊢
  obtain ⟨kc, kf, ks⟩ := k
  unfold K3.val at HX ⊢
  dsimp only at HX c1 c2 c3 hW3
  go_enter Tryz.func52, Tryz.ntmps52
  go_upto_region 1 with fail
  try rw [← hW3]
  clear hW3
  go_wp2_with fail
  refine HX.out.mono ?_
  rintro _ w' ⟨rfl, h', hO'⟩
  have HN := Lib.hid (And.intro h' (HO.out.trans hO'))
  clear h' hO' HX HO c0 c1 c2 c3 c4
  go_wp2
  go_ret
  exact ⟨rfl, HN.out.1, HN.out.2⟩

set_option maxRecDepth 20000 in
set_option maxHeartbeats 2000000 in
theorem release_any (S B : Nat) (room who : Int) (l : List Ms) (clock : Nat) (k : K3) (W : World) (h : ShIs W S B room l clock 0) :
    Calls Tryz.prog 53 #[.pointer (some ⟨S, 0, none⟩), k.val, .int .i64 who] W fun e w' => e = .returned (.int .i64 (chgR 2 who k l)) ∧ ShIs w' S B room (chgL 2 who k l clock (putM k ⟨k, 1, 0⟩ l clock)).1 (chgL 2 who k l clock (putM k ⟨k, 1, 0⟩ l clock)).2 0 ∧ Only2 S B W w' := by
  obtain ⟨W3, hW3⟩ : ∃ X, X = (W.alloc (.cells #[.pointer (some ⟨S, 0, none⟩)] 68)).alloc (.cells #[.int .i64 k.c, .int .i64 k.f, .int .u64 k.s] 41) := ⟨_, rfl⟩
  have hS3 : W3.heap[W.heap.size]? = some (.cells #[.pointer (some ⟨S, 0, none⟩)] 68 (0, 0)) := by rw [hW3]; rw [Below.heap_alloc _ _ _ (by simp; try omega)]; exact heap_alloc_new2 _ _ _ rfl
  have hK3 : W3.heap[W.heap.size + 1]? = some (.cells #[.int .i64 k.c, .int .i64 k.f, .int .u64 k.s] 41 (0, 0)) := by rw [hW3]; exact heap_alloc_new2 _ _ _ (by simp)
  have h3 : ShIs W3 S B room l clock 0 := by rw [hW3]; exact (h.new _).new _
  have hO : Only2 S B W W3 := by rw [hW3]; exact ((Only2.refl S B W).alloc _).alloc _
  have HX := Lib.hid (chgRelease S B (W.heap.size + 1) W.heap.size room who l clock k W3 h3 hK3 hS3)
  have c0 := cell_of_row W3 W.heap.size 0 _ _ (0, 0) hS3
  have c1 := cell_of_row W3 (W.heap.size + 1) 0 _ _ (0, 0) hK3
  have c2 := cell_of_row W3 (W.heap.size + 1) 1 _ _ (0, 0) hK3
  have c3 := cell_of_row W3 (W.heap.size + 1) 2 _ _ (0, 0) hK3

  have HO := Lib.hid hO
  clear hO h3 hS3 hK3 h
  generalize chgR 2 who k l = r at HX ⊢
  generalize chgL 2 who k l clock (putM k ⟨k, 1, 0⟩ l clock) = L at HX ⊢
  obtain ⟨kc, kf, ks⟩ := k
  unfold K3.val at HX ⊢
  dsimp only at HX c1 c2 c3 hW3
  go_enter Tryz.func53, Tryz.ntmps53
  go_upto_region 1 with fail
  try rw [← hW3]
  clear hW3
  go_wp2_with fail
  refine HX.out.mono ?_
  rintro _ w' ⟨rfl, h', hO'⟩
  have HN := Lib.hid (And.intro h' (HO.out.trans hO'))
  clear h' hO' HX HO c0 c1 c2 c3
  go_wp2
  go_ret
  exact ⟨rfl, HN.out.1, HN.out.2⟩

set_option maxRecDepth 20000 in
set_option maxHeartbeats 2000000 in
theorem complete_any (S B : Nat) (room who : Int) (l : List Ms) (clock : Nat) (k : K3) (W : World) (h : ShIs W S B room l clock 0) :
    Calls Tryz.prog 54 #[.pointer (some ⟨S, 0, none⟩), k.val, .int .i64 who] W fun e w' => e = .returned (.int .i64 (chgR 2 who k l)) ∧ ShIs w' S B room (chgL 2 who k l clock (putM k ⟨k, 3, 0⟩ l clock)).1 (chgL 2 who k l clock (putM k ⟨k, 3, 0⟩ l clock)).2 0 ∧ Only2 S B W w' := by
  obtain ⟨W3, hW3⟩ : ∃ X, X = (W.alloc (.cells #[.pointer (some ⟨S, 0, none⟩)] 68)).alloc (.cells #[.int .i64 k.c, .int .i64 k.f, .int .u64 k.s] 41) := ⟨_, rfl⟩
  have hS3 : W3.heap[W.heap.size]? = some (.cells #[.pointer (some ⟨S, 0, none⟩)] 68 (0, 0)) := by rw [hW3]; rw [Below.heap_alloc _ _ _ (by simp; try omega)]; exact heap_alloc_new2 _ _ _ rfl
  have hK3 : W3.heap[W.heap.size + 1]? = some (.cells #[.int .i64 k.c, .int .i64 k.f, .int .u64 k.s] 41 (0, 0)) := by rw [hW3]; exact heap_alloc_new2 _ _ _ (by simp)
  have h3 : ShIs W3 S B room l clock 0 := by rw [hW3]; exact (h.new _).new _
  have hO : Only2 S B W W3 := by rw [hW3]; exact ((Only2.refl S B W).alloc _).alloc _
  have HX := Lib.hid (chgComplete S B (W.heap.size + 1) W.heap.size room who l clock k W3 h3 hK3 hS3)
  have c0 := cell_of_row W3 W.heap.size 0 _ _ (0, 0) hS3
  have c1 := cell_of_row W3 (W.heap.size + 1) 0 _ _ (0, 0) hK3
  have c2 := cell_of_row W3 (W.heap.size + 1) 1 _ _ (0, 0) hK3
  have c3 := cell_of_row W3 (W.heap.size + 1) 2 _ _ (0, 0) hK3

  have HO := Lib.hid hO
  clear hO h3 hS3 hK3 h
  generalize chgR 2 who k l = r at HX ⊢
  generalize chgL 2 who k l clock (putM k ⟨k, 3, 0⟩ l clock) = L at HX ⊢
  obtain ⟨kc, kf, ks⟩ := k
  unfold K3.val at HX ⊢
  dsimp only at HX c1 c2 c3 hW3
  go_enter Tryz.func54, Tryz.ntmps54
  go_upto_region 1 with fail
  try rw [← hW3]
  clear hW3
  go_wp2_with fail
  refine HX.out.mono ?_
  rintro _ w' ⟨rfl, h', hO'⟩
  have HN := Lib.hid (And.intro h' (HO.out.trans hO'))
  clear h' hO' HX HO c0 c1 c2 c3
  go_wp2
  go_ret
  exact ⟨rfl, HN.out.1, HN.out.2⟩

set_option maxRecDepth 20000 in
set_option maxHeartbeats 2000000 in
theorem expire_any (S B : Nat) (room : Int) (l : List Ms) (clock : Nat) (k : K3) (W : World) (h : ShIs W S B room l clock 0) :
    Calls Tryz.prog 32 #[.pointer (some ⟨S, 0, none⟩), k.val] W fun e w' => e = .returned (.int .i64 (chgR 3 0 k l)) ∧ ShIs w' S B room (chgL 3 0 k l clock ((delM k l, clock))).1 (chgL 3 0 k l clock ((delM k l, clock))).2 0 ∧ Only2 S B W w' := by
  obtain ⟨W3, hW3⟩ : ∃ X, X = (W.alloc (.cells #[.pointer (some ⟨S, 0, none⟩)] 68)).alloc (.cells #[.int .i64 k.c, .int .i64 k.f, .int .u64 k.s] 41) := ⟨_, rfl⟩
  have hS3 : W3.heap[W.heap.size]? = some (.cells #[.pointer (some ⟨S, 0, none⟩)] 68 (0, 0)) := by rw [hW3]; rw [Below.heap_alloc _ _ _ (by simp; try omega)]; exact heap_alloc_new2 _ _ _ rfl
  have hK3 : W3.heap[W.heap.size + 1]? = some (.cells #[.int .i64 k.c, .int .i64 k.f, .int .u64 k.s] 41 (0, 0)) := by rw [hW3]; exact heap_alloc_new2 _ _ _ (by simp)
  have h3 : ShIs W3 S B room l clock 0 := by rw [hW3]; exact (h.new _).new _
  have hO : Only2 S B W W3 := by rw [hW3]; exact ((Only2.refl S B W).alloc _).alloc _
  have HX := Lib.hid (chgExpire S B (W.heap.size + 1) W.heap.size room l clock k W3 h3 hK3 hS3)
  have c0 := cell_of_row W3 W.heap.size 0 _ _ (0, 0) hS3
  have c1 := cell_of_row W3 (W.heap.size + 1) 0 _ _ (0, 0) hK3
  have c2 := cell_of_row W3 (W.heap.size + 1) 1 _ _ (0, 0) hK3
  have c3 := cell_of_row W3 (W.heap.size + 1) 2 _ _ (0, 0) hK3

  have HO := Lib.hid hO
  clear hO h3 hS3 hK3 h
  generalize chgR 3 0 k l = r at HX ⊢
  generalize chgL 3 0 k l clock ((delM k l, clock)) = L at HX ⊢
  obtain ⟨kc, kf, ks⟩ := k
  unfold K3.val at HX ⊢
  dsimp only at HX c1 c2 c3 hW3
  go_enter Tryz.func32, Tryz.ntmps32
  go_upto_region 1 with fail
  try rw [← hW3]
  clear hW3
  go_wp2_with fail
  refine HX.out.mono ?_
  rintro _ w' ⟨rfl, h', hO'⟩
  have HN := Lib.hid (And.intro h' (HO.out.trans hO'))
  clear h' hO' HX HO c0 c1 c2 c3
  go_wp2
  go_ret
  exact ⟨rfl, HN.out.1, HN.out.2⟩

end Go.Proofs.YtlpnecmcncekcaaGreat.Mk
