/- A round of the program: what a state becomes by the sum of a constant and a word. -/
import Derived.Test.YtdljphbfbiganaaDoorShaRight
import Derived.Deep.QuietTactic
import Derived.Below
namespace Go.Proofs.YtdljphbfbiganaaDoor.Sha
open Go.RowKit

theorem quiet_add_same {P : Program} {f : FuncId} {args : Array Value} {w : World} {a n : Nat} {v : Value}
    (h : Calls P f args (w.drewN (a + n)) fun e w' => e = .returned v ∧ w' = w.drewN (a + n)) :
    Calls P f args (w.drewN (a + n)) fun e w'' => e = .returned v ∧ ∃ m, w'' = w.drewN (a + m) :=
  h.mono fun _ _ ⟨he, hm⟩ => ⟨he, n, hm⟩

theorem below_drewN {B : Nat} {a w : World} (h : Below B a w) (n : Nat) : Below B a (w.drewN n) := ⟨h.os, h.tape, h.output, h.size, h.block⟩
theorem last_alloc (w : World) (o o' : Obj) (n : Nat) : (((w.alloc o).alloc o').drewN n).heap[w.heap.size + 1]? = some o' := by
  have h : w.heap.size + 1 = (w.alloc o).heap.size := by simp
  rw [h]
  exact Array.getElem?_push_size
theorem cell_blk {w : World} {g : Nat} {cs : Array Value} {t : TypeId} (h : w.heap[g]? = some (.cells cs t (0, 0))) (i : Nat) : w.cell? ⟨g, i, none⟩ = cs[i]? := cell_of_row w g i cs t (0, 0) h
theorem free_blk {w : World} {g : Nat} {cs : Array Value} {t : TypeId} (h : w.heap[g]? = some (.cells cs t (0, 0))) (i : Nat) : w.frozen? ⟨g, i, none⟩ = false := by simp [World.frozen?, h]
def St.arr (s : St) : Array Value := #[wv s.a, wv s.b, wv s.c, wv s.d, wv s.e, wv s.f, wv s.g, wv s.h]

theorem xor_u (x : W) : bits .xor .u32 IntKind.u32.max (x.toNat : Int) = ((~~~x).toNat : Int) := by
  have h := xor_w (BitVec.allOnes 32) x
  rw [BitVec.allOnes_xor] at h
  exact h
theorem sum6 (a b c d e f : W) : ((a.toNat : Int) + b.toNat + c.toNat + d.toNat + (e.toNat + f.toNat)) % 4294967296 = ((a + b + c + d + (e + f)).toNat : Int) := by
  simp only [BitVec.toNat_add]; omega
theorem sum5 (a b c d e : W) : ((e.toNat : Int) + ((a.toNat : Int) + b.toNat + c.toNat + d.toNat)) % 4294967296 = ((e + (a + b + c + d)).toNat : Int) := by
  simp only [BitVec.toNat_add]; omega

set_option maxRecDepth 100000 in
set_option maxHeartbeats 300000 in
theorem round_any (a b c d e f g q x : W) (w : World) :
    Calls Tryd.prog 41 #[.agg #[.int .u32 (a.toNat : Int), .int .u32 (b.toNat : Int), .int .u32 (c.toNat : Int), .int .u32 (d.toNat : Int), .int .u32 (e.toNat : Int), .int .u32 (f.toNat : Int), .int .u32 (g.toNat : Int), .int .u32 (q.toNat : Int)], .int .u32 (x.toNat : Int)] w
      fun r w' => r = .returned (.agg (round ⟨a, b, c, d, e, f, g, q⟩ x).arr) ∧ Below w.heap.size w w' := by
  have hsg : IntKind.u32.signed = false := rfl
  go_enter Tryd.func41, Tryd.ntmps41
  go_wp2_with fail
  go_quiet (fail)
  obtain ⟨W, hW⟩ : ∃ W, W = ((w.alloc (.cells #[.int .u32 (a.toNat : Int), .int .u32 (b.toNat : Int), .int .u32 (c.toNat : Int), .int .u32 (d.toNat : Int), .int .u32 (e.toNat : Int), .int .u32 (f.toNat : Int), .int .u32 (g.toNat : Int), .int .u32 (q.toNat : Int)] 74)).alloc (.cells #[.int .u32 0, .int .u32 0, .int .u32 0, .int .u32 0, .int .u32 0, .int .u32 0, .int .u32 0, .int .u32 0] 74)).drewN nq := ⟨_, rfl⟩
  rw [← hW]
  have hc3 : W.cell? ⟨w.heap.size, 3, none⟩ = some (.int .u32 (d.toNat : Int)) := by rw [hW]; go_simp
  have hc7 : W.cell? ⟨w.heap.size, 7, none⟩ = some (.int .u32 (q.toNat : Int)) := by rw [hW]; go_simp
  have hB : Below w.heap.size w W := by rw [hW]; exact below_drewN (((Below.refl _ _).alloc (Nat.le_refl _) _).alloc (by simp) _) nq
  have hS : W.heap[w.heap.size + 1]? = some (.cells #[.int .u32 0, .int .u32 0, .int .u32 0, .int .u32 0, .int .u32 0, .int .u32 0, .int .u32 0, .int .u32 0] 74 (0, 0)) := by rw [hW]; exact last_alloc _ _ _ _
  have hz : w.heap.size + 1 < W.heap.size := by rw [hW]; simp
  clear hW
  have HS := Lib.hid hS; clear hS
  go_wp2_with fail
  go_quiet ((go_at_call 51; exact Calls.quiet_of_same (right_any _ _ _ (by decide))))
  obtain ⟨W1, hW⟩ : ∃ W1, W1 = W.drewN nq := ⟨_, rfl⟩
  rw [← hW]
  have hc3' : W1.cell? ⟨w.heap.size, 3, none⟩ = some (.int .u32 (d.toNat : Int)) := by rw [hW]; exact hc3
  have hB' : Below w.heap.size w W1 := by rw [hW]; exact below_drewN hB _
  have hS' : W1.heap[w.heap.size + 1]? = some (.cells #[.int .u32 0, .int .u32 0, .int .u32 0, .int .u32 0, .int .u32 0, .int .u32 0, .int .u32 0, .int .u32 0] 74 (0, 0)) := by rw [hW]; exact HS.out
  have hz' : w.heap.size + 1 < W1.heap.size := by rw [hW]; exact hz
  clear hW hc3 hc7 hB hz HS
  have c0 := cell_blk hS' 0
  have f0 := free_blk hS' 0
  have c1 := cell_blk hS' 1
  have f1 := free_blk hS' 1
  have c2 := cell_blk hS' 2
  have f2 := free_blk hS' 2
  have c3 := cell_blk hS' 3
  have f3 := free_blk hS' 3
  have c4 := cell_blk hS' 4
  have f4 := free_blk hS' 4
  have c5 := cell_blk hS' 5
  have f5 := free_blk hS' 5
  have c6 := cell_blk hS' 6
  have f6 := free_blk hS' 6
  have c7 := cell_blk hS' 7
  have f7 := free_blk hS' 7
  clear hS'
  simp only [List.getElem?_toArray, List.getElem?_cons_zero, List.getElem?_cons_succ] at c0 c1 c2 c3 c4 c5 c6 c7
  go_wp2_with (go_at_call 51; refine (right_any _ _ _ (by decide)).mono ?_; rintro _ _ ⟨rfl, hw⟩; obtain rfl := hw.symm)
  simp only [xor_u, xor_w, and_w, sum6, sum5]
  generalize hA : q + (rot e 6 ^^^ rot e 11 ^^^ rot e 25) + (e &&& f ^^^ ~~~e &&& g) + x + ((rot a 2 ^^^ rot a 13 ^^^ rot a 22) + (a &&& b ^^^ a &&& c ^^^ b &&& c)) = A
  generalize hE : d + (q + (rot e 6 ^^^ rot e 11 ^^^ rot e 25) + (e &&& f ^^^ ~~~e &&& g) + x) = E
  have hr : (round ⟨a, b, c, d, e, f, g, q⟩ x).arr = #[.int .u32 (A.toNat : Int), .int .u32 (a.toNat : Int), .int .u32 (b.toNat : Int), .int .u32 (c.toNat : Int), .int .u32 (E.toNat : Int), .int .u32 (e.toNat : Int), .int .u32 (f.toNat : Int), .int .u32 (g.toNat : Int)] := by rw [← hA, ← hE]; rfl
  rw [hr]
  clear hr hA hE
  refine bodyPost_ret (v := .agg #[.int .u32 (A.toNat : Int), .int .u32 (a.toNat : Int), .int .u32 (b.toNat : Int), .int .u32 (c.toNat : Int), .int .u32 (E.toNat : Int), .int .u32 (e.toNat : Int), .int .u32 (f.toNat : Int), .int .u32 (g.toNat : Int)]) ?_ rfl ⟨rfl, ?_⟩
  · simp [results, Tryd.results41, go_sem, c0, c1, c2, c3, c4, c5, c6, c7]
  · refine Below.setCell ?_ (by show w.heap.size ≤ w.heap.size + 1; omega) _
    refine Below.setCell ?_ (by show w.heap.size ≤ w.heap.size + 1; omega) _
    refine Below.setCell ?_ (by show w.heap.size ≤ w.heap.size + 1; omega) _
    refine Below.setCell ?_ (by show w.heap.size ≤ w.heap.size + 1; omega) _
    refine Below.setCell ?_ (by show w.heap.size ≤ w.heap.size + 1; omega) _
    refine Below.setCell ?_ (by show w.heap.size ≤ w.heap.size + 1; omega) _
    refine Below.setCell ?_ (by show w.heap.size ≤ w.heap.size + 1; omega) _
    refine Below.setCell ?_ (by show w.heap.size ≤ w.heap.size + 1; omega) _
    exact hB'
end Go.Proofs.YtdljphbfbiganaaDoor.Sha
