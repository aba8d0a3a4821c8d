/- The page's example holds. -/
import Derived.Test.YtcanoegffffdfaaDoorShaAbc
namespace Go.Proofs.YtcanoegffffdfaaDoor.Sha
open Go Go.RowKit

theorem wpList_load_rowg {P : Program} {ops : Array Oper} {rest : List Oper} {o : Oper} {a : Act} {w : World} {Q : Exit → Act → World → Prop} (hw : Region.wanted o (yielded ops a.tmps) = true) (ty : TypeId) (x : Operand) (ho : o.op = .load ty x)
    (g : Nat) (hx : a.eval x = .pointer (some ⟨g, 0, none⟩)) (t : TypeId) (cs : Array Value) (fr : Nat × Nat) (d : TypeDesc) (hg : w.heap[g]? = some (.cells cs t fr))
    (hu : P.underlying ty = some d) (hd : (match d with | .struct _ | .array _ _ => true | _ => false) = true) (hi : (P.info? ty).map (·.size) = some cs.size)
    (h : wpList P ops Q rest (a.put o.dst (.agg cs)) w) : wpList P ops Q (o :: rest) a w := by
  refine wpList_step (fun K hK => ?_)
  rw [if_pos hw]
  exact wp_load_row ty x ho g hx t cs fr d hg hu hd hi (hK _ _ h)

set_option maxRecDepth 100000 in
set_option maxHeartbeats 400000 in
theorem awake_any (w : World) (ht : Tab w) : Calls Tryd.prog 7 #[] w fun e w' => e = .returned (.bool true) ∧ Below w.heap.size w w' := by
  have hof := of_abc w.heap.size (w.alloc (.cells #[.string ⟨#[97, 98, 99]⟩] 9)) (tab_below ht ((Below.refl _ _).alloc (Nat.le_refl _) _)) (World.cell?_alloc_mark _ _ _ _ 0) (by simp)
  have hhex := hex_abc
  obtain ⟨h0, h1, h2, h3⟩ := abc_at
  have hone := bcells_one abcL
  have hsz : (bcells abcL).size = 32 := rfl
  have hi32 : (Tryd.prog.info? 27).map (·.size) = some (bcells abcL).size := by rw [hsz]; kernel_rfl
  generalize bcells abcL = C at hof hhex h0 h1 h2 h3 hone hsz hi32
  have HOf := Lib.hid hof
  have HHex := Lib.hid hhex
  have H0 := Lib.hid h0
  have H1 := Lib.hid h1
  have H2 := Lib.hid h2
  have H3 := Lib.hid h3
  have HSz := Lib.hid hsz
  have HI := Lib.hid hi32
  have HOn := Lib.hid hone
  clear hof hhex h0 h1 h2 h3 hone hsz hi32 ht
  go_enter Tryd.func7, Tryd.ntmps7
  go_wp2_with fail
  refine HOf.out.mono ?_
  rintro e w1 ⟨rfl, hb1⟩
  have hB1 : Below w.heap.size w w1 := ((Below.refl _ _).alloc (Nat.le_refl _) _).trans (hb1.mono (by simp))
  clear hb1
  have HB1 := Lib.hid hB1
  clear hB1
  have hst := hstx w1 C HSz.out HOn.out
  have HSt := Lib.hid hst
  clear hst
  go_wp2_with fail
  rw [HSt.out]
  simp only [Result.andThen]
  rw [Oper.upon_skip]
  simp only [Act.put]
  obtain ⟨W2, hW2⟩ : ∃ W2, W2 = (w1.alloc (.cells #[.int .u8 0, .int .u8 0, .int .u8 0, .int .u8 0, .int .u8 0, .int .u8 0, .int .u8 0, .int .u8 0, .int .u8 0, .int .u8 0, .int .u8 0, .int .u8 0, .int .u8 0, .int .u8 0, .int .u8 0, .int .u8 0, .int .u8 0, .int .u8 0, .int .u8 0, .int .u8 0, .int .u8 0, .int .u8 0, .int .u8 0, .int .u8 0, .int .u8 0, .int .u8 0, .int .u8 0, .int .u8 0, .int .u8 0, .int .u8 0, .int .u8 0, .int .u8 0] 27)).setRow w1.heap.size C := ⟨_, rfl⟩
  rw [← hW2]
  have hg : W2.heap[w1.heap.size]? = some (.cells C 27 (0, 0)) := by rw [hW2]; exact setRow_heap _ _ _ _ _ _ (heap_alloc_new w1 _)
  have hB2 : Below w.heap.size w W2 := by rw [hW2]; exact below_setRow (HB1.out.alloc HB1.out.size _) HB1.out.size _
  have c0 := (cell_blk hg 0).trans H0.out
  have c1 := (cell_blk hg 1).trans H1.out
  have c2 := (cell_blk hg 2).trans H2.out
  have c3 := (cell_blk hg 3).trans H3.out
  have HG := Lib.hid hg
  have HB2 := Lib.hid hB2
  clear hW2 hg hB2
  go_upto_region 2 with fail
  refine wp_region_lit ?_
  refine wpList_step (fun K hK => ?_)
  go_simp
  refine hK _ _ ?_
  clear hK K
  refine wpList_step (fun K hK => ?_)
  go_simp
  refine hK _ _ ?_
  clear hK K
  refine wpList_step (fun K hK => ?_)
  go_simp
  refine hK _ _ ?_
  clear hK K
  refine wpList_step (fun K hK => ?_)
  go_simp
  refine hK _ _ ?_
  clear hK K
  refine wpList_step (fun K hK => ?_)
  go_simp
  refine hK _ _ ?_
  clear hK K
  refine wpList_step (fun K hK => ?_)
  go_simp
  refine hK _ _ ?_
  clear hK K
  refine wpList_step (fun K hK => ?_)
  go_simp
  refine hK _ _ ?_
  clear hK K
  refine wpList_step (fun K hK => ?_)
  go_simp
  refine hK _ _ ?_
  clear hK K
  refine wpList_step (fun K hK => ?_)
  go_simp
  refine hK _ _ ?_
  clear hK K
  refine wpList_step (fun K hK => ?_)
  go_simp
  refine hK _ _ ?_
  clear hK K
  refine wpList_step (fun K hK => ?_)
  go_simp
  refine hK _ _ ?_
  clear hK K
  refine wpList_step (fun K hK => ?_)
  go_simp
  refine hK _ _ ?_
  clear hK K
  refine wpList_step (fun K hK => ?_)
  go_simp
  refine hK _ _ ?_
  clear hK K
  refine wpList_step (fun K hK => ?_)
  go_simp
  refine hK _ _ ?_
  clear hK K
  refine wpList_step (fun K hK => ?_)
  go_simp
  refine hK _ _ ?_
  clear hK K
  refine wpList_step (fun K hK => ?_)
  go_simp
  refine hK _ _ ?_
  clear hK K
  refine wpList_step (fun K hK => ?_)
  go_simp
  refine hK _ _ ?_
  clear hK K
  refine wpList_step (fun K hK => ?_)
  go_simp
  refine hK _ _ ?_
  clear hK K
  refine wpList_step (fun K hK => ?_)
  go_simp
  refine hK _ _ ?_
  clear hK K
  refine wpList_load_rowg (by rfl) 27 _ rfl w1.heap.size rfl 27 C (0, 0) _ HG.out Tryd.underlying27 (isArr 32 5) HI.out ?_
  simp only [Act.put, List.setIfInBounds_toArray, List.set_cons_zero, List.set_cons_succ]
  go_wp2_with (go_at_call 16; refine (HHex.out _).mono ?_; rintro e w3 ⟨h, hh, rfl, hb3⟩)
  go_ret
  exact ⟨rfl, HB2.out.trans (hb3.mono HB2.out.size)⟩
end Go.Proofs.YtcanoegffffdfaaDoor.Sha
