/- What a block makes of a state, by the page. -/
import Derived.Test.YtdljphbfbiganaaDoorShaTurn
import Derived.Test.YtdljphbfbiganaaDoorShaTurned
import Derived.Test.YtdljphbfbiganaaDoorCommon
import Derived.Great.Walk
import Derived.Test.YtdljphbfbiganaaDoorAppendKeep
import Derived.Deep.RegionHeld3
namespace Go.Proofs.YtdljphbfbiganaaDoor.Sha
open Go.RowKit

theorem below_pushD {B e size n : Nat} {a wr w1 : World} {o : Obj} {v : Value} {xs : List Value} (hb : Below B a wr) (hB : B ≤ wr.heap.size) (hown : wr.ownsRow B e size v n xs)
    (hg : (wr.alloc o).drew.grownBy w1 v.ownBlock) : Below B a w1 := below_push (o := o) hb hB hown ⟨hg.os, hg.tape, hg.output, hg.size, hg.block⟩
theorem add4 (a b c d : UInt8) : IntKind.u32.wrap (IntKind.u32.wrap (IntKind.u32.wrap (IntKind.u32.wrap (IntKind.u32.wrap (a.toNat : Int) * 16777216) + IntKind.u32.wrap (IntKind.u32.wrap (b.toNat : Int) * 65536)) + IntKind.u32.wrap (IntKind.u32.wrap (c.toNat : Int) * 256)) + IntKind.u32.wrap (d.toNat : Int))
    = ((BitVec.ofNat 32 (a.toNat * 16777216 + b.toNat * 65536 + c.toNat * 256 + d.toNat)).toNat : Int) := by
  have ha := a.toNat_lt; have hb := b.toNat_lt; have hc := c.toNat_lt; have hd := d.toNat_lt
  simp only [IntKind.wrap_u32', BitVec.toNat_ofNat]
  omega
theorem wrap_w (x : W) : IntKind.u32.wrap (x.toNat : Int) = (x.toNat : Int) := by have := lt32 x; rw [IntKind.wrap_u32']; omega
theorem sum5q (a b c d e : W) : ((a.toNat : Int) + b.toNat + c.toNat + d.toNat + e.toNat) % 4294967296 = ((a + b + c + d + e).toNat : Int) := by
  simp only [BitVec.toNat_add]; omega
theorem infoW : (Tryd.prog.info? 73).map (fun i => (i.zero, i.size, i.bytes)) = some (some (.int .u32 0), 1, 4) := by kernel_rfl
def constC : Array Value := (constI.map (Value.int .u32)).toArray

theorem const_cell {w : World} {g : Nat} {t : TypeId} (h : w.heap[g]? = some (.cells constC t (0, 0))) (k : Nat) (hk : k < 64) : w.cell? ⟨g, k, none⟩ = some (.int .u32 ((const k).toNat : Int)) := by
  rw [cell_blk h k]
  unfold constC
  rw [List.getElem?_toArray, List.getElem?_map, ← const_at k hk, List.getD_eq_getElem?_getD, List.getElem?_eq_getElem (by rw [constI_len]; exact hk)]
  rfl

set_option maxRecDepth 100000 in
theorem start_any (w : World) : Calls Tryd.prog 29 #[] w fun e w' => e = .returned (.agg #[.int .u32 (start.a.toNat : Int), .int .u32 (start.b.toNat : Int), .int .u32 (start.c.toNat : Int), .int .u32 (start.d.toNat : Int), .int .u32 (start.e.toNat : Int), .int .u32 (start.f.toNat : Int), .int .u32 (start.g.toNat : Int), .int .u32 (start.h.toNat : Int)]) ∧ Below w.heap.size w w' := by
  go_enter Tryd.func29, Tryd.ntmps29
  go_wp2
  refine bodyPost_ret (v := .agg #[.int .u32 (start.a.toNat : Int), .int .u32 (start.b.toNat : Int), .int .u32 (start.c.toNat : Int), .int .u32 (start.d.toNat : Int), .int .u32 (start.e.toNat : Int), .int .u32 (start.f.toNat : Int), .int .u32 (start.g.toNat : Int), .int .u32 (start.h.toNat : Int)]) ?_ rfl ⟨rfl, ?_⟩
  · simp [results, Tryd.results29, go_sem]
    decide +kernel
  · exact (Below.refl _ _).alloc (Nat.le_refl _) _

/-- the first eight cells of a block are a state's words -/
def First8 (cs : Array Value) (S : St) : Prop := cs[0]? = some (.int .u32 (S.a.toNat : Int)) ∧ cs[1]? = some (.int .u32 (S.b.toNat : Int)) ∧ cs[2]? = some (.int .u32 (S.c.toNat : Int)) ∧ cs[3]? = some (.int .u32 (S.d.toNat : Int)) ∧ cs[4]? = some (.int .u32 (S.e.toNat : Int)) ∧ cs[5]? = some (.int .u32 (S.f.toNat : Int)) ∧ cs[6]? = some (.int .u32 (S.g.toNat : Int)) ∧ cs[7]? = some (.int .u32 (S.h.toNat : Int))
theorem First8.arr (S : St) : First8 #[.int .u32 (S.a.toNat : Int), .int .u32 (S.b.toNat : Int), .int .u32 (S.c.toNat : Int), .int .u32 (S.d.toNat : Int), .int .u32 (S.e.toNat : Int), .int .u32 (S.f.toNat : Int), .int .u32 (S.g.toNat : Int), .int .u32 (S.h.toNat : Int)] S := ⟨rfl, rfl, rfl, rfl, rfl, rfl, rfl, rfl⟩
theorem cellsX {w : World} {g : Nat} {t : TypeId} {cs : Array Value} {S : St} (h : w.heap[g]? = some (.cells cs t (0, 0))) (hf : First8 cs S) :
    w.cell? ⟨g, 0, none⟩ = some (.int .u32 (S.a.toNat : Int)) ∧ w.cell? ⟨g, 1, none⟩ = some (.int .u32 (S.b.toNat : Int)) ∧ w.cell? ⟨g, 2, none⟩ = some (.int .u32 (S.c.toNat : Int)) ∧ w.cell? ⟨g, 3, none⟩ = some (.int .u32 (S.d.toNat : Int)) ∧ w.cell? ⟨g, 4, none⟩ = some (.int .u32 (S.e.toNat : Int)) ∧ w.cell? ⟨g, 5, none⟩ = some (.int .u32 (S.f.toNat : Int)) ∧ w.cell? ⟨g, 6, none⟩ = some (.int .u32 (S.g.toNat : Int)) ∧ w.cell? ⟨g, 7, none⟩ = some (.int .u32 (S.h.toNat : Int)) :=
  ⟨(cell_blk h 0).trans hf.1, (cell_blk h 1).trans hf.2.1, (cell_blk h 2).trans hf.2.2.1, (cell_blk h 3).trans hf.2.2.2.1, (cell_blk h 4).trans hf.2.2.2.2.1, (cell_blk h 5).trans hf.2.2.2.2.2.1, (cell_blk h 6).trans hf.2.2.2.2.2.2.1, (cell_blk h 7).trans hf.2.2.2.2.2.2.2⟩

def wl (l : List UInt8) (k : Nat) : List Value := (words l k).map wv
theorem wl_len (l : List UInt8) (k : Nat) : (wl l k).length = k := by rw [wl, List.length_map, words_len]
theorem wl_next (l : List UInt8) (k : Nat) (x : W) (hx : x = if k < 16 then word l k else next (words l k)) : wl l (k + 1) = wl l k ++ [.int .u32 (x.toNat : Int)] := by
  subst hx
  show ((words l k ++ [if k < 16 then word l k else next (words l k)]).map wv) = _
  rw [List.map_append]; rfl
theorem own_word {w : World} {B n : Nat} {v : Value} {l : List UInt8} {k : Nat} (h : w.ownsRow B 73 1 v n (wl l k)) (j : Nat) (hj : j < k) : ∃ g c, v = .slice (some ⟨g, 0, none⟩) n c ∧ B ≤ g ∧ w.cell? ⟨g, j, none⟩ = some (.int .u32 (((words l k).getD j 0).toNat : Int)) := by
  have hn : n = k := by have := h.1; rw [wl_len] at this; omega
  obtain ⟨g, c, hv, hg, hlt⟩ := World.ownsRow.form h (by omega)
  refine ⟨g, c, hv, hg, ?_⟩
  have hcc := World.ownsRow.cells (g := g) h (by rw [hv]; rfl) j (.int .u32 (((words l k).getD j 0).toNat : Int)) ?_
  · have hadd : (⟨g, 0, none⟩ : Addr).add j = ⟨g, j, none⟩ := by unfold Addr.add; split <;> simp_all
    rw [← hadd]; exact hcc
  unfold wl
  rw [List.getElem?_map, List.getD_eq_getElem?_getD, List.getElem?_eq_getElem (by rw [words_len]; exact hj)]
  rfl
end Go.Proofs.YtdljphbfbiganaaDoor.Sha
