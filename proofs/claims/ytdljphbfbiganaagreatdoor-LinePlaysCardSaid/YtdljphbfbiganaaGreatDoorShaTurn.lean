/- What a block makes of a state, by the program. -/
import Derived.Test.YtdljphbfbiganaaGreatDoorTk
import Derived.Test.YtdljphbfbiganaaGreatDoorShaWords
import Derived.Lib.LaidTab
import Derived.StillTailTactics
import Derived.Lib.SmallJoins
namespace Go.Proofs.YtdljphbfbiganaaGreatDoor.Sha
open Go.RowKit

def constI : List Int := [1116352408, 1899447441, 3049323471, 3921009573, 961987163, 1508970993, 2453635748, 2870763221, 3624381080, 310598401, 607225278, 1426881987, 1925078388, 2162078206, 2614888103, 3248222580, 3835390401, 4022224774, 264347078, 604807628, 770255983, 1249150122, 1555081692, 1996064986, 2554220882, 2821834349, 2952996808, 3210313671, 3336571891, 3584528711, 113926993, 338241895, 666307205, 773529912, 1294757372, 1396182291, 1695183700, 1986661051, 2177026350, 2456956037, 2730485921, 2820302411, 3259730800, 3345764771, 3516065817, 3600352804, 4094571909, 275423344, 430227734, 506948616, 659060556, 883997877, 958139571, 1322822218, 1537002063, 1747873779, 1955562222, 2024104815, 2227730452, 2361852424, 2428436474, 2756734187, 3204031479, 3329325298]
theorem add32 (x y : W) : HMod.hMod (α := Int) (β := Int) (γ := Int) ((x.toNat : Int) + (y.toNat : Int)) 4294967296 = ((x + y).toNat : Int) := by rw [← add_w, IntKind.wrap_u32']
theorem const_fin : ∀ t : Fin 64, constI.getD t.val 0 = ((const t.val).toNat : Int) := by decide +kernel
theorem const_at (t : Nat) (h : t < 64) : constI.getD t 0 = ((const t).toNat : Int) := const_fin ⟨t, h⟩
theorem constI_len : constI.length = 64 := rfl
abbrev Tab (w : World) : Prop := Lib.TabIs Tryz.prog w "muleteer/sha.constants" .u32 constI
theorem tab_global : Tryz.prog.globalNamed "muleteer/sha.constants" = some 0 := by kernel_rfl
theorem tab_below {w w' : World} (h : Tab w) (hb : Below w.heap.size w w') : Tab w' := Go.Joins.tab_stays tab_global h hb (Nat.le_refl _)
theorem tab_cell {w : World} (h : Tab w) (t : Nat) (ht : t < 64) : w.cell? ⟨0, t, none⟩ = some (.int .u32 ((const t).toNat : Int)) := by
  rw [Lib.TabIs.cell h tab_global t (by rw [constI_len]; exact ht), const_at t ht]

theorem ix_words (l : List UInt8) (k : Nat) (hk : k < 64) (w : World) : (Instr.index 107 (.agg (wcells l 64)) (.int .i64 (k : Int))).run Tryz.prog w = .ok (.int .u32 (((words l 64).getD k 0).toNat : Int)) w := by
  have hc := wcells_at l 64 k hk
  unfold wv at hc
  have h1 : (0 : Int) ≤ (k : Int) ∧ (k : Int) < ((64 : Nat) : Int) := by omega
  simp [Instr.index, run_underlying Tryz.underlying107, asIntOf, h1, go_sem, Tryz.sizeOf85, part, hc]
  omega

theorem round_s (S : St) (x : W) (w : World) : Calls Tryz.prog 65 #[.agg #[.int .u32 (S.a.toNat : Int), .int .u32 (S.b.toNat : Int), .int .u32 (S.c.toNat : Int), .int .u32 (S.d.toNat : Int), .int .u32 (S.e.toNat : Int), .int .u32 (S.f.toNat : Int), .int .u32 (S.g.toNat : Int), .int .u32 (S.h.toNat : Int)], .int .u32 (x.toNat : Int)] w
    fun r w' => r = .returned (.agg #[.int .u32 ((round S x).a.toNat : Int), .int .u32 ((round S x).b.toNat : Int), .int .u32 ((round S x).c.toNat : Int), .int .u32 ((round S x).d.toNat : Int), .int .u32 ((round S x).e.toNat : Int), .int .u32 ((round S x).f.toNat : Int), .int .u32 ((round S x).g.toNat : Int), .int .u32 ((round S x).h.toNat : Int)]) ∧ Below w.heap.size w w' := round_any S.a S.b S.c S.d S.e S.f S.g S.h x w

theorem set8 {w : World} {g : Nat} {t : TypeId} {u0 u1 u2 u3 u4 u5 u6 u7 : Value} (h : w.heap[g]? = some (.cells #[u0, u1, u2, u3, u4, u5, u6, u7] t (0, 0))) (v0 v1 v2 v3 v4 v5 v6 v7 : Value) :
    ((((((((w.setCell ⟨g, 0, none⟩ v0).setCell ⟨g, 1, none⟩ v1).setCell ⟨g, 2, none⟩ v2).setCell ⟨g, 3, none⟩ v3).setCell ⟨g, 4, none⟩ v4).setCell ⟨g, 5, none⟩ v5).setCell ⟨g, 6, none⟩ v6).setCell ⟨g, 7, none⟩ v7).heap[g]? = some (.cells #[v0, v1, v2, v3, v4, v5, v6, v7] t (0, 0)) :=
  by
    have h1 := set_row h 0 v0
    simp only [sA, sZ] at h1
    have h2 := set_row h1 1 v1
    simp only [sA, sZ, sS] at h2
    have h3 := set_row h2 2 v2
    simp only [sA, sZ, sS] at h3
    have h4 := set_row h3 3 v3
    simp only [sA, sZ, sS] at h4
    have h5 := set_row h4 4 v4
    simp only [sA, sZ, sS] at h5
    have h6 := set_row h5 5 v5
    simp only [sA, sZ, sS] at h6
    have h7 := set_row h6 6 v6
    simp only [sA, sZ, sS] at h7
    have h8 := set_row h7 7 v7
    simp only [sA, sZ, sS] at h8
    exact h8
theorem far8 {w : World} {g b : Nat} {o : Option Obj} (h : w.heap[b]? = o) (hne : b ≠ g) (v0 v1 v2 v3 v4 v5 v6 v7 : Value) :
    ((((((((w.setCell ⟨g, 0, none⟩ v0).setCell ⟨g, 1, none⟩ v1).setCell ⟨g, 2, none⟩ v2).setCell ⟨g, 3, none⟩ v3).setCell ⟨g, 4, none⟩ v4).setCell ⟨g, 5, none⟩ v5).setCell ⟨g, 6, none⟩ v6).setCell ⟨g, 7, none⟩ v7).heap[b]? = o :=
  set_far (set_far (set_far (set_far (set_far (set_far (set_far (set_far h hne v0) hne v1) hne v2) hne v3) hne v4) hne v5) hne v6) hne v7
theorem below8 {w a : World} {B g : Nat} (h : Below B a w) (hg : B ≤ g) (v0 v1 v2 v3 v4 v5 v6 v7 : Value) :
    Below B a ((((((((w.setCell ⟨g, 0, none⟩ v0).setCell ⟨g, 1, none⟩ v1).setCell ⟨g, 2, none⟩ v2).setCell ⟨g, 3, none⟩ v3).setCell ⟨g, 4, none⟩ v4).setCell ⟨g, 5, none⟩ v5).setCell ⟨g, 6, none⟩ v6).setCell ⟨g, 7, none⟩ v7) :=
  (((((((h.setCell (p := ⟨g, 0, none⟩) hg v0).setCell (p := ⟨g, 1, none⟩) hg v1).setCell (p := ⟨g, 2, none⟩) hg v2).setCell (p := ⟨g, 3, none⟩) hg v3).setCell (p := ⟨g, 4, none⟩) hg v4).setCell (p := ⟨g, 5, none⟩) hg v5).setCell (p := ⟨g, 6, none⟩) hg v6).setCell (p := ⟨g, 7, none⟩) hg v7
theorem cells8 {w : World} {g : Nat} {t : TypeId} {u0 u1 u2 u3 u4 u5 u6 u7 : Value} (h : w.heap[g]? = some (.cells #[u0, u1, u2, u3, u4, u5, u6, u7] t (0, 0))) :
    w.cell? ⟨g, 0, none⟩ = some u0 ∧ w.cell? ⟨g, 1, none⟩ = some u1 ∧ w.cell? ⟨g, 2, none⟩ = some u2 ∧ w.cell? ⟨g, 3, none⟩ = some u3 ∧ w.cell? ⟨g, 4, none⟩ = some u4 ∧ w.cell? ⟨g, 5, none⟩ = some u5 ∧ w.cell? ⟨g, 6, none⟩ = some u6 ∧ w.cell? ⟨g, 7, none⟩ = some u7 :=
  ⟨cell_blk h 0, cell_blk h 1, cell_blk h 2, cell_blk h 3, cell_blk h 4, cell_blk h 5, cell_blk h 6, cell_blk h 7⟩
theorem free8 {w : World} {g : Nat} {t : TypeId} {u0 u1 u2 u3 u4 u5 u6 u7 : Value} (h : w.heap[g]? = some (.cells #[u0, u1, u2, u3, u4, u5, u6, u7] t (0, 0))) :
    w.frozen? ⟨g, 0, none⟩ = false ∧ w.frozen? ⟨g, 1, none⟩ = false ∧ w.frozen? ⟨g, 2, none⟩ = false ∧ w.frozen? ⟨g, 3, none⟩ = false ∧ w.frozen? ⟨g, 4, none⟩ = false ∧ w.frozen? ⟨g, 5, none⟩ = false ∧ w.frozen? ⟨g, 6, none⟩ = false ∧ w.frozen? ⟨g, 7, none⟩ = false :=
  ⟨free_blk h 0, free_blk h 1, free_blk h 2, free_blk h 3, free_blk h 4, free_blk h 5, free_blk h 6, free_blk h 7⟩

theorem ix8 (cs : Array Value) (i : Nat) (v : Value) (h : cs[i]? = some v) (hi : i < 8) (w : World) : (Instr.index 86 (.agg cs) (.int .i64 (i : Int))).run Tryz.prog w = .ok v w := by
  have h1 : (0 : Int) ≤ (i : Int) ∧ (i : Int) < ((8 : Nat) : Int) := by omega
  simp [Instr.index, run_underlying Tryz.underlying86, asIntOf, h1, go_sem, Tryz.sizeOf85, part, h]
  omega

set_option maxRecDepth 100000 in
set_option maxHeartbeats 1000000 in
theorem turn_any (S : St) (s : ByteArray) (hs : s.size = 64) (w : World) (ht : Tab w) :
    Calls Tryz.prog 49 #[.agg #[.int .u32 (S.a.toNat : Int), .int .u32 (S.b.toNat : Int), .int .u32 (S.c.toNat : Int), .int .u32 (S.d.toNat : Int), .int .u32 (S.e.toNat : Int), .int .u32 (S.f.toNat : Int), .int .u32 (S.g.toNat : Int), .int .u32 (S.h.toNat : Int)], .string s] w
      fun r w' => r = .returned (.tuple #[.agg #[.int .u32 ((turn S s.data.toList).a.toNat : Int), .int .u32 ((turn S s.data.toList).b.toNat : Int), .int .u32 ((turn S s.data.toList).c.toNat : Int), .int .u32 ((turn S s.data.toList).d.toNat : Int), .int .u32 ((turn S s.data.toList).e.toNat : Int), .int .u32 ((turn S s.data.toList).f.toNat : Int), .int .u32 ((turn S s.data.toList).g.toNat : Int), .int .u32 ((turn S s.data.toList).h.toNat : Int)], .int .i64 0]) ∧ Below w.heap.size w w' := by
  have HT := Lib.hid ht; clear ht
  go_enter Tryz.func49, Tryz.ntmps49
  go_upto_region 4 with fail
  have HZ := Lib.hid hs; clear hs
  obtain ⟨W0, hW⟩ : ∃ W0, W0 = (((w.alloc (.cells #[.int .u32 (S.a.toNat : Int), .int .u32 (S.b.toNat : Int), .int .u32 (S.c.toNat : Int), .int .u32 (S.d.toNat : Int), .int .u32 (S.e.toNat : Int), .int .u32 (S.f.toNat : Int), .int .u32 (S.g.toNat : Int), .int .u32 (S.h.toNat : Int)] 86)).alloc (.cells #[.int .u32 0, .int .u32 0, .int .u32 0, .int .u32 0, .int .u32 0, .int .u32 0, .int .u32 0, .int .u32 0] 86)).alloc (.cells #[.int .u32 (S.a.toNat : Int), .int .u32 (S.b.toNat : Int), .int .u32 (S.c.toNat : Int), .int .u32 (S.d.toNat : Int), .int .u32 (S.e.toNat : Int), .int .u32 (S.f.toNat : Int), .int .u32 (S.g.toNat : Int), .int .u32 (S.h.toNat : Int)] 86)) := ⟨_, rfl⟩
  rw [← hW]
  have hB0 : Below w.heap.size w W0 := by rw [hW]; exact (((Below.refl _ _).alloc (Nat.le_refl _) _).alloc (by simp) _).alloc (by simp; omega) _
  have hz0 : w.heap.size + 1 + 1 < W0.heap.size := by rw [hW]; simp
  have hS0 : W0.heap[w.heap.size + 1 + 1]? = some (.cells #[.int .u32 (S.a.toNat : Int), .int .u32 (S.b.toNat : Int), .int .u32 (S.c.toNat : Int), .int .u32 (S.d.toNat : Int), .int .u32 (S.e.toNat : Int), .int .u32 (S.f.toNat : Int), .int .u32 (S.g.toNat : Int), .int .u32 (S.h.toNat : Int)] 86 (0, 0)) := by
    rw [hW]
    have e : w.heap.size + 1 + 1 = ((w.alloc (.cells #[.int .u32 (S.a.toNat : Int), .int .u32 (S.b.toNat : Int), .int .u32 (S.c.toNat : Int), .int .u32 (S.d.toNat : Int), .int .u32 (S.e.toNat : Int), .int .u32 (S.f.toNat : Int), .int .u32 (S.g.toNat : Int), .int .u32 (S.h.toNat : Int)] 86)).alloc (.cells #[.int .u32 0, .int .u32 0, .int .u32 0, .int .u32 0, .int .u32 0, .int .u32 0, .int .u32 0, .int .u32 0] 86)).heap.size := by simp
    rw [e]; exact Array.getElem?_push_size
  have hR0 : W0.heap[w.heap.size + 1]? = some (.cells #[.int .u32 0, .int .u32 0, .int .u32 0, .int .u32 0, .int .u32 0, .int .u32 0, .int .u32 0, .int .u32 0] 86 (0, 0)) := by
    rw [hW, Below.heap_alloc _ _ _ (by simp)]
    exact last_alloc _ _ _ 0
  have hA0 : W0.heap[w.heap.size]? = some (.cells #[.int .u32 (S.a.toNat : Int), .int .u32 (S.b.toNat : Int), .int .u32 (S.c.toNat : Int), .int .u32 (S.d.toNat : Int), .int .u32 (S.e.toNat : Int), .int .u32 (S.f.toNat : Int), .int .u32 (S.g.toNat : Int), .int .u32 (S.h.toNat : Int)] 86 (0, 0)) := by
    rw [hW, Below.heap_alloc _ _ _ (by simp; omega), Below.heap_alloc _ _ _ (by simp)]
    exact Array.getElem?_push_size
  clear hW
  have HS := Lib.hid hS0
  have HR := Lib.hid hR0
  have HA := Lib.hid hA0
  clear hS0 hR0 hA0
  go_wp2_with fail
  refine (words_any s HZ.out _).mono ?_
  rintro e w1 ⟨rfl, hb1⟩
  have HS1 : Hid (w1.heap[w.heap.size + 1 + 1]? = some (Obj.cells #[.int .u32 (S.a.toNat : Int), .int .u32 (S.b.toNat : Int), .int .u32 (S.c.toNat : Int), .int .u32 (S.d.toNat : Int), .int .u32 (S.e.toNat : Int), .int .u32 (S.f.toNat : Int), .int .u32 (S.g.toNat : Int), .int .u32 (S.h.toNat : Int)] 86 (0, 0))) := Lib.hid ((hb1.block _ (by omega)).trans HS.out)
  have HR1 : Hid (w1.heap[w.heap.size + 1]? = some (Obj.cells #[.int .u32 0, .int .u32 0, .int .u32 0, .int .u32 0, .int .u32 0, .int .u32 0, .int .u32 0, .int .u32 0] 86 (0, 0))) := Lib.hid ((hb1.block _ (by omega)).trans HR.out)
  have HA1 : Hid (w1.heap[w.heap.size]? = some (Obj.cells #[.int .u32 (S.a.toNat : Int), .int .u32 (S.b.toNat : Int), .int .u32 (S.c.toNat : Int), .int .u32 (S.d.toNat : Int), .int .u32 (S.e.toNat : Int), .int .u32 (S.f.toNat : Int), .int .u32 (S.g.toNat : Int), .int .u32 (S.h.toNat : Int)] 86 (0, 0))) := Lib.hid ((hb1.block _ (by omega)).trans HA.out)
  have hB1 : Below w.heap.size w w1 := hB0.trans (hb1.mono (by omega))
  clear hb1 hB0 HS HR HA hz0
  go_wp2_with fail
  go_loopw [18] (fun i wr => ∃ k : Nat, k ≤ 64 ∧ i = .int .i64 k ∧ wr.heap[w.heap.size + 1 + 1]? = some (.cells #[.int .u32 ((rounds s.data.toList S k).a.toNat : Int), .int .u32 ((rounds s.data.toList S k).b.toNat : Int), .int .u32 ((rounds s.data.toList S k).c.toNat : Int), .int .u32 ((rounds s.data.toList S k).d.toNat : Int), .int .u32 ((rounds s.data.toList S k).e.toNat : Int), .int .u32 ((rounds s.data.toList S k).f.toNat : Int), .int .u32 ((rounds s.data.toList S k).g.toNat : Int), .int .u32 ((rounds s.data.toList S k).h.toNat : Int)] 86 (0, 0)) ∧ wr.heap[w.heap.size + 1]? = some (.cells #[.int .u32 0, .int .u32 0, .int .u32 0, .int .u32 0, .int .u32 0, .int .u32 0, .int .u32 0, .int .u32 0] 86 (0, 0)) ∧ wr.heap[w.heap.size]? = some (.cells #[.int .u32 (S.a.toNat : Int), .int .u32 (S.b.toNat : Int), .int .u32 (S.c.toNat : Int), .int .u32 (S.d.toNat : Int), .int .u32 (S.e.toNat : Int), .int .u32 (S.f.toNat : Int), .int .u32 (S.g.toNat : Int), .int .u32 (S.h.toNat : Int)] 86 (0, 0)) ∧ Below w.heap.size w wr) (fun i _ => 64 - (intOf i).toNat)
  case atStart => exact ⟨0, by omega, rfl, HS1.out, HR1.out, HA1.out, hB1⟩
  case round =>
    obtain ⟨k, hk, rfl, hS, hR, hA, hB⟩ := hrel
    clear HS1 HR1 HA1 hB1
    have HS := Lib.hid hS
    have HR := Lib.hid hR
    have HA := Lib.hid hA
    clear hR hA
    rcases Nat.lt_or_ge k 64 with hlt | hge
    · have hk64 : (k : Int) < 64 := by omega
      have hix := ix_words s.data.toList k hlt wr
      have hn : rounds s.data.toList S (k + 1) = round (rounds s.data.toList S k) (const k + (words s.data.toList 64).getD k 0) := rfl
      generalize rounds s.data.toList S k = R at *
      generalize (words s.data.toList 64).getD k 0 = x at *
      have HN := Lib.hid hn
      clear hn
      obtain ⟨c0, c1, c2, c3, c4, c5, c6, c7⟩ := cells8 hS
      have ct := tab_cell (tab_below HT.out (by exact hB)) k hlt
      have hz : w.heap.size + 1 + 1 < wr.heap.size := (Array.getElem?_eq_some_iff.1 hS).1
      clear hS
      generalize const k = q at *
      go_wp2_with fail
      go_still_tail 6, (by kernel_rfl)
      change wpList _ _ _ _ _ wr.drew
      rw [add_w]
      obtain ⟨W2, hW⟩ : ∃ W2, W2 = wr.drew := ⟨_, rfl⟩
      rw [← hW]
      have HS' : Hid (W2.heap[w.heap.size + 1 + 1]? = some (Obj.cells #[.int .u32 (R.a.toNat : Int), .int .u32 (R.b.toNat : Int), .int .u32 (R.c.toNat : Int), .int .u32 (R.d.toNat : Int), .int .u32 (R.e.toNat : Int), .int .u32 (R.f.toNat : Int), .int .u32 (R.g.toNat : Int), .int .u32 (R.h.toNat : Int)] 86 (0, 0))) := Lib.hid (by rw [hW]; exact HS.out)
      have HR' : Hid (W2.heap[w.heap.size + 1]? = some (Obj.cells #[.int .u32 0, .int .u32 0, .int .u32 0, .int .u32 0, .int .u32 0, .int .u32 0, .int .u32 0, .int .u32 0] 86 (0, 0))) := Lib.hid (by rw [hW]; exact HR.out)
      have HA' : Hid (W2.heap[w.heap.size]? = some (Obj.cells #[.int .u32 (S.a.toNat : Int), .int .u32 (S.b.toNat : Int), .int .u32 (S.c.toNat : Int), .int .u32 (S.d.toNat : Int), .int .u32 (S.e.toNat : Int), .int .u32 (S.f.toNat : Int), .int .u32 (S.g.toNat : Int), .int .u32 (S.h.toNat : Int)] 86 (0, 0))) := Lib.hid (by rw [hW]; exact HA.out)
      have hB' : Below w.heap.size w W2 := by rw [hW]; exact hB.drew
      have hz' : w.heap.size + 1 + 1 < W2.heap.size := by rw [hW]; exact hz
      clear hW HS HR HA hB hz c0 c1 c2 c3 c4 c5 c6 c7 ct hix
      go_wp2_with fail
      refine (round_s R (q + x) _).mono ?_
      rintro e w3 ⟨rfl, hb3⟩
      have hS3 := (hb3.block _ hz').trans HS'.out
      have hR3 := (hb3.block _ (show w.heap.size + 1 < W2.heap.size by omega)).trans HR'.out
      have hA3 := (hb3.block _ (show w.heap.size < W2.heap.size by omega)).trans HA'.out
      have hB3 := hB'.trans (hb3.mono (by omega))
      obtain ⟨c0, c1, c2, c3, c4, c5, c6, c7⟩ := cells8 hS3
      obtain ⟨f0, f1, f2, f3, f4, f5, f6, f7⟩ := free8 hS3
      have HS3 := Lib.hid hS3
      have HR3 := Lib.hid hR3
      have HA3 := Lib.hid hA3
      clear hS3 hR3 hA3 HS' HR' HA' hB' hb3 hz'
      generalize hV : round R (q + x) = V at *
      have HV := Lib.hid hV
      clear hV
      go_wp2
      go_roundw
      case rel => exact ⟨k + 1, by omega, by go_num, by rw [HN.out]; exact set8 HS3.out _ _ _ _ _ _ _ _, far8 HR3.out (by omega) _ _ _ _ _ _ _ _, far8 HA3.out (by omega) _ _ _ _ _ _ _ _, below8 hB3 (by omega) _ _ _ _ _ _ _ _⟩
      case measure => simp [intOf]; omega
    · have hk64 : k = 64 := by omega
      subst hk64
      have hturn : turn S s.data.toList = S.add (rounds s.data.toList S 64) := rfl
      generalize rounds s.data.toList S 64 = R at hturn HS
      have HTn := Lib.hid hturn
      clear hturn hS
      obtain ⟨c0, c1, c2, c3, c4, c5, c6, c7⟩ := cells8 HS.out
      obtain ⟨a0, a1, a2, a3, a4, a5, a6, a7⟩ := cells8 HA.out
      obtain ⟨f0, f1, f2, f3, f4, f5, f6, f7⟩ := free8 HA.out
      obtain ⟨r0, r1, r2, r3, r4, r5, r6, r7⟩ := cells8 HR.out
      obtain ⟨p0, p1, p2, p3, p4, p5, p6, p7⟩ := free8 HR.out
      have e0 : ∀ W : World, (Instr.index 86 (.agg #[.int .u32 (R.a.toNat : Int), .int .u32 (R.b.toNat : Int), .int .u32 (R.c.toNat : Int), .int .u32 (R.d.toNat : Int), .int .u32 (R.e.toNat : Int), .int .u32 (R.f.toNat : Int), .int .u32 (R.g.toNat : Int), .int .u32 (R.h.toNat : Int)]) (.int .i64 0)).run Tryz.prog W = .ok (.int .u32 (R.a.toNat : Int)) W := fun W => ix8 #[.int .u32 (R.a.toNat : Int), .int .u32 (R.b.toNat : Int), .int .u32 (R.c.toNat : Int), .int .u32 (R.d.toNat : Int), .int .u32 (R.e.toNat : Int), .int .u32 (R.f.toNat : Int), .int .u32 (R.g.toNat : Int), .int .u32 (R.h.toNat : Int)] 0 _ rfl (by decide) W
      have e1 : ∀ W : World, (Instr.index 86 (.agg #[.int .u32 (R.a.toNat : Int), .int .u32 (R.b.toNat : Int), .int .u32 (R.c.toNat : Int), .int .u32 (R.d.toNat : Int), .int .u32 (R.e.toNat : Int), .int .u32 (R.f.toNat : Int), .int .u32 (R.g.toNat : Int), .int .u32 (R.h.toNat : Int)]) (.int .i64 1)).run Tryz.prog W = .ok (.int .u32 (R.b.toNat : Int)) W := fun W => ix8 #[.int .u32 (R.a.toNat : Int), .int .u32 (R.b.toNat : Int), .int .u32 (R.c.toNat : Int), .int .u32 (R.d.toNat : Int), .int .u32 (R.e.toNat : Int), .int .u32 (R.f.toNat : Int), .int .u32 (R.g.toNat : Int), .int .u32 (R.h.toNat : Int)] 1 _ rfl (by decide) W
      have e2 : ∀ W : World, (Instr.index 86 (.agg #[.int .u32 (R.a.toNat : Int), .int .u32 (R.b.toNat : Int), .int .u32 (R.c.toNat : Int), .int .u32 (R.d.toNat : Int), .int .u32 (R.e.toNat : Int), .int .u32 (R.f.toNat : Int), .int .u32 (R.g.toNat : Int), .int .u32 (R.h.toNat : Int)]) (.int .i64 2)).run Tryz.prog W = .ok (.int .u32 (R.c.toNat : Int)) W := fun W => ix8 #[.int .u32 (R.a.toNat : Int), .int .u32 (R.b.toNat : Int), .int .u32 (R.c.toNat : Int), .int .u32 (R.d.toNat : Int), .int .u32 (R.e.toNat : Int), .int .u32 (R.f.toNat : Int), .int .u32 (R.g.toNat : Int), .int .u32 (R.h.toNat : Int)] 2 _ rfl (by decide) W
      have e3 : ∀ W : World, (Instr.index 86 (.agg #[.int .u32 (R.a.toNat : Int), .int .u32 (R.b.toNat : Int), .int .u32 (R.c.toNat : Int), .int .u32 (R.d.toNat : Int), .int .u32 (R.e.toNat : Int), .int .u32 (R.f.toNat : Int), .int .u32 (R.g.toNat : Int), .int .u32 (R.h.toNat : Int)]) (.int .i64 3)).run Tryz.prog W = .ok (.int .u32 (R.d.toNat : Int)) W := fun W => ix8 #[.int .u32 (R.a.toNat : Int), .int .u32 (R.b.toNat : Int), .int .u32 (R.c.toNat : Int), .int .u32 (R.d.toNat : Int), .int .u32 (R.e.toNat : Int), .int .u32 (R.f.toNat : Int), .int .u32 (R.g.toNat : Int), .int .u32 (R.h.toNat : Int)] 3 _ rfl (by decide) W
      have e4 : ∀ W : World, (Instr.index 86 (.agg #[.int .u32 (R.a.toNat : Int), .int .u32 (R.b.toNat : Int), .int .u32 (R.c.toNat : Int), .int .u32 (R.d.toNat : Int), .int .u32 (R.e.toNat : Int), .int .u32 (R.f.toNat : Int), .int .u32 (R.g.toNat : Int), .int .u32 (R.h.toNat : Int)]) (.int .i64 4)).run Tryz.prog W = .ok (.int .u32 (R.e.toNat : Int)) W := fun W => ix8 #[.int .u32 (R.a.toNat : Int), .int .u32 (R.b.toNat : Int), .int .u32 (R.c.toNat : Int), .int .u32 (R.d.toNat : Int), .int .u32 (R.e.toNat : Int), .int .u32 (R.f.toNat : Int), .int .u32 (R.g.toNat : Int), .int .u32 (R.h.toNat : Int)] 4 _ rfl (by decide) W
      have e5 : ∀ W : World, (Instr.index 86 (.agg #[.int .u32 (R.a.toNat : Int), .int .u32 (R.b.toNat : Int), .int .u32 (R.c.toNat : Int), .int .u32 (R.d.toNat : Int), .int .u32 (R.e.toNat : Int), .int .u32 (R.f.toNat : Int), .int .u32 (R.g.toNat : Int), .int .u32 (R.h.toNat : Int)]) (.int .i64 5)).run Tryz.prog W = .ok (.int .u32 (R.f.toNat : Int)) W := fun W => ix8 #[.int .u32 (R.a.toNat : Int), .int .u32 (R.b.toNat : Int), .int .u32 (R.c.toNat : Int), .int .u32 (R.d.toNat : Int), .int .u32 (R.e.toNat : Int), .int .u32 (R.f.toNat : Int), .int .u32 (R.g.toNat : Int), .int .u32 (R.h.toNat : Int)] 5 _ rfl (by decide) W
      have e6 : ∀ W : World, (Instr.index 86 (.agg #[.int .u32 (R.a.toNat : Int), .int .u32 (R.b.toNat : Int), .int .u32 (R.c.toNat : Int), .int .u32 (R.d.toNat : Int), .int .u32 (R.e.toNat : Int), .int .u32 (R.f.toNat : Int), .int .u32 (R.g.toNat : Int), .int .u32 (R.h.toNat : Int)]) (.int .i64 6)).run Tryz.prog W = .ok (.int .u32 (R.g.toNat : Int)) W := fun W => ix8 #[.int .u32 (R.a.toNat : Int), .int .u32 (R.b.toNat : Int), .int .u32 (R.c.toNat : Int), .int .u32 (R.d.toNat : Int), .int .u32 (R.e.toNat : Int), .int .u32 (R.f.toNat : Int), .int .u32 (R.g.toNat : Int), .int .u32 (R.h.toNat : Int)] 6 _ rfl (by decide) W
      have e7 : ∀ W : World, (Instr.index 86 (.agg #[.int .u32 (R.a.toNat : Int), .int .u32 (R.b.toNat : Int), .int .u32 (R.c.toNat : Int), .int .u32 (R.d.toNat : Int), .int .u32 (R.e.toNat : Int), .int .u32 (R.f.toNat : Int), .int .u32 (R.g.toNat : Int), .int .u32 (R.h.toNat : Int)]) (.int .i64 7)).run Tryz.prog W = .ok (.int .u32 (R.h.toNat : Int)) W := fun W => ix8 #[.int .u32 (R.a.toNat : Int), .int .u32 (R.b.toNat : Int), .int .u32 (R.c.toNat : Int), .int .u32 (R.d.toNat : Int), .int .u32 (R.e.toNat : Int), .int .u32 (R.f.toNat : Int), .int .u32 (R.g.toNat : Int), .int .u32 (R.h.toNat : Int)] 7 _ rfl (by decide) W
      go_wp2_with fail
      refine wp_loop_rounds 9 ?_
      rw [rounds_succ]
      go_wp2_with fail
      rw [rounds_succ]
      go_wp2_with fail
      rw [rounds_succ]
      go_wp2_with fail
      rw [rounds_succ]
      go_wp2_with fail
      rw [rounds_succ]
      go_wp2_with fail
      rw [rounds_succ]
      go_wp2_with fail
      rw [rounds_succ]
      go_wp2_with fail
      rw [rounds_succ]
      go_wp2_with fail
      rw [rounds_succ]
      go_wp2_with fail
      clear e0 e1 e2 e3 e4 e5 e6 e7
      simp only [add32]
      have hadd : turn S s.data.toList = ⟨S.a + R.a, S.b + R.b, S.c + R.c, S.d + R.d, S.e + R.e, S.f + R.f, S.g + R.g, S.h + R.h⟩ := HTn.out
      generalize S.a + R.a = na at *
      generalize S.b + R.b = nb at *
      generalize S.c + R.c = nc at *
      generalize S.d + R.d = nd at *
      generalize S.e + R.e = ne at *
      generalize S.f + R.f = nf at *
      generalize S.g + R.g = ng at *
      generalize S.h + R.h = nh at *
      have HAdd := Lib.hid hadd
      clear hadd HTn
      refine bodyPost_ret (v := .tuple #[.agg #[.int .u32 (na.toNat : Int), .int .u32 (nb.toNat : Int), .int .u32 (nc.toNat : Int), .int .u32 (nd.toNat : Int), .int .u32 (ne.toNat : Int), .int .u32 (nf.toNat : Int), .int .u32 (ng.toNat : Int), .int .u32 (nh.toNat : Int)], .int .i64 0]) ?_ rfl ⟨by rw [HAdd.out], ?_⟩
      · simp [results, Tryz.results49, go_sem, r0, r1, r2, r3, r4, r5, r6, r7]
      · exact below8 (below8 hB (Nat.le_refl _) _ _ _ _ _ _ _ _) (by omega) _ _ _ _ _ _ _ _

set_option maxRecDepth 100000 in
theorem turn_bad (S : St) (s : ByteArray) (hs : s.size ≠ 64) (w : World) :
    Calls Tryz.prog 49 #[.agg #[.int .u32 (S.a.toNat : Int), .int .u32 (S.b.toNat : Int), .int .u32 (S.c.toNat : Int), .int .u32 (S.d.toNat : Int), .int .u32 (S.e.toNat : Int), .int .u32 (S.f.toNat : Int), .int .u32 (S.g.toNat : Int), .int .u32 (S.h.toNat : Int)], .string s] w
      fun r w' => r = .returned (.tuple #[.agg #[.int .u32 0, .int .u32 0, .int .u32 0, .int .u32 0, .int .u32 0, .int .u32 0, .int .u32 0, .int .u32 0], .int .i64 1]) ∧ Below w.heap.size w w' := by
  have hs' : ¬ (s.size : Int) = 64 := by omega
  go_enter Tryz.func49, Tryz.ntmps49
  go_wp2_with fail
  refine bodyPost_ret (v := .tuple #[.agg #[.int .u32 0, .int .u32 0, .int .u32 0, .int .u32 0, .int .u32 0, .int .u32 0, .int .u32 0, .int .u32 0], .int .i64 1]) ?_ rfl ⟨rfl, ?_⟩
  · simp [results, Tryz.results49, go_sem]
  · exact (((Below.refl _ _).alloc (Nat.le_refl _) _).alloc (by simp) _)
end Go.Proofs.YtdljphbfbiganaaGreatDoor.Sha
