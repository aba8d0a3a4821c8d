/- slices.Sort, Sorted, Compact at []int: the shelf's contracts laid at this program (plain text by lay-plain.mjs, wip/tools/laytpl.py). -/
import Derived.Test.YteajilefhkckeaaSliceSeq
import Derived.Ground.NamesProg
import Derived.Ground.Names2Prog
import Derived.Shelf.Sort.Plain
import Derived.Shelf.Slices.In.SortNone
import Derived.Shelf.Slices.Cells
import Derived.Sort.OwnSortedInts
namespace Go.Proofs.Yteajilefhkckeaa.Picks
open Go Go.RowKit Go.Shelf picksNext
def laysSort_ren : Go.Shelf.Ren := ⟨fun | 189 => 42 | 125 => 48 | 257 => 47 | 128 => 60 | 129 => 61 | 294 => 51 | 295 => 52 | 296 => 53 | 297 => 54 | 298 => 55 | 299 => 56 | 216 => 57 | 300 => 58 | 301 => 59 | 328 => 63 | 329 => 64 | 330 => 65 | 331 => 66 | 332 => 67 | 215 => 68 | 343 => 70 | n => n, fun | 28 => 32 | 3 => 3 | 46 => 71 | 0 => 0 | 51 => 91 | 53 => 22 | 4 => 4 | 183 => 83 | 182 => 82 | 131 => 88 | 5 => 5 | 9 => 9 | 218 => 94 | 222 => 98 | 228 => 102 | 229 => 103 | n => n, fun | n => n⟩
theorem laysSort : Go.Proofs.Lays.n189 Try.prog laysSort_ren := {
  mixed := by kernel_rfl
  f125 := Try.func48.trans (congrArg some (by kernel_rfl))
  f128 := Try.func60.trans (congrArg some (by kernel_rfl))
  f129 := Try.func61.trans (congrArg some (by kernel_rfl))
  f189 := Try.func42.trans (congrArg some (by kernel_rfl))
  f215 := Try.func68.trans (congrArg some (by kernel_rfl))
  f216 := Try.func57.trans (congrArg some (by kernel_rfl))
  f257 := Try.func47.trans (congrArg some (by kernel_rfl))
  f294 := Try.func51.trans (congrArg some (by kernel_rfl))
  f295 := Try.func52.trans (congrArg some (by kernel_rfl))
  f296 := Try.func53.trans (congrArg some (by kernel_rfl))
  f297 := Try.func54.trans (congrArg some (by kernel_rfl))
  f298 := Try.func55.trans (congrArg some (by kernel_rfl))
  f299 := Try.func56.trans (congrArg some (by kernel_rfl))
  f300 := Try.func58.trans (congrArg some (by kernel_rfl))
  f301 := Try.func59.trans (congrArg some (by kernel_rfl))
  f328 := Try.func63.trans (congrArg some (by kernel_rfl))
  f329 := Try.func64.trans (congrArg some (by kernel_rfl))
  f330 := Try.func65.trans (congrArg some (by kernel_rfl))
  f331 := Try.func66.trans (congrArg some (by kernel_rfl))
  f332 := Try.func67.trans (congrArg some (by kernel_rfl))
  f343 := Try.func70.trans (congrArg some (by kernel_rfl))
  t0 := Try.underlying0
  a0 := Try.isAgg0
  z0 := Try.sizeOf0
  v0 := Try.zeroValue0
  t3 := Try.underlying3
  a3 := Try.isAgg3
  z3 := Try.sizeOf3
  v3 := Try.zeroValue3
  t4 := Try.underlying4
  a4 := Try.isAgg4
  z4 := Try.sizeOf4
  v4 := Try.zeroValue4
  t5 := Try.underlying5
  a5 := Try.isAgg5
  z5 := Try.sizeOf5
  v5 := Try.zeroValue5
  t9 := Try.underlying9
  a9 := Try.isAgg9
  z9 := Try.sizeOf9
  v9 := Try.zeroValue9
  t28 := Try.underlying32
  a28 := Try.isAgg32
  z28 := Try.sizeOf32
  v28 := Try.zeroValue32
  t46 := Try.underlying71
  a46 := Try.isAgg71
  z46 := Try.sizeOf71
  v46 := Try.zeroValue71
  t51 := Try.underlying91
  a51 := Try.isAgg91
  z51 := Try.sizeOf91
  v51 := Try.zeroValue91
  t53 := Try.underlying22
  a53 := Try.isAgg22
  z53 := Try.sizeOf22
  v53 := Try.zeroValue22
  t131 := Try.underlying88
  a131 := Try.isAgg88
  z131 := Try.sizeOf88
  v131 := Try.zeroValue88
  t182 := Try.underlying82
  a182 := Try.isAgg82
  z182 := Try.sizeOf82
  v182 := Try.zeroValue82
  t183 := Try.underlying83
  a183 := Try.isAgg83
  z183 := Try.sizeOf83
  v183 := Try.zeroValue83
  t218 := Try.underlying94
  a218 := Try.isAgg94
  z218 := Try.sizeOf94
  v218 := Try.zeroValue94
  t222 := Try.underlying98
  a222 := Try.isAgg98
  z222 := Try.sizeOf98
  v222 := Try.zeroValue98
  t228 := Try.underlying102
  a228 := Try.isAgg102
  z228 := Try.sizeOf102
  v228 := Try.zeroValue102
  t229 := Try.underlying103
  a229 := Try.isAgg103
  z229 := Try.sizeOf103
  v229 := Try.zeroValue103 }
def laysCompact_ren : Go.Shelf.Ren := ⟨fun | 20 => 34 | n => n, fun | 22 => 32 | 3 => 3 | 4 => 4 | 0 => 0 | n => n, fun | n => n⟩
theorem laysCompact : Go.Proofs.Lays2.n20 Try.prog laysCompact_ren := {
  mixed := by kernel_rfl
  f20 := Try.func34.trans (congrArg some (by kernel_rfl))
  t0 := Try.underlying0
  a0 := Try.isAgg0
  z0 := Try.sizeOf0
  v0 := Try.zeroValue0
  t3 := Try.underlying3
  a3 := Try.isAgg3
  z3 := Try.sizeOf3
  v3 := Try.zeroValue3
  t4 := Try.underlying4
  a4 := Try.isAgg4
  z4 := Try.sizeOf4
  v4 := Try.zeroValue4
  t22 := Try.underlying32
  a22 := Try.isAgg32
  z22 := Try.sizeOf32
  v22 := Try.zeroValue32
  i3 := by kernel_rfl }


theorem sort_own (A : Option Addr) (len cap base : Nat) (zs : List Int) (w : World) (hb : base ≤ w.heap.size) (h : w.ownsRow base 3 1 (.slice A len cap) len (ints zs)) (hl : len ≤ 1000000) :
    Calls Try.prog 42 #[.slice A len cap] w fun e w' => e = .returned (.tuple #[]) ∧ w'.ownsRow base 3 1 (.slice A len cap) len (ints (zs.mergeSort fun x y => decide (x ≤ y))) ∧ Below base w w' := by
  have hzl : zs.length = len := by have := h.1; simpa [ints] using this
  rcases h.2 with ⟨e0, rfl⟩ | ⟨g, cap', cur, hv, hg, hh, hc, hcm, hsz, htk⟩
  · obtain rfl : zs = [] := by cases zs with | nil => rfl | cons _ _ => simp at hzl
    refine (Any.slices_Sort_int_none laysSort A cap w).mono ?_
    rintro e w' ⟨rfl, rfl⟩
    exact ⟨rfl, by simpa using h, Below.refl _ _⟩
  · injection hv with hA _ hcc
    subst hA hcc
    have hgl : g < w.heap.size := lt_blk hh
    have htk' : cur.toList.take zs.length = zs.map (Value.int .i64) := by rw [hzl]; simpa [ints] using htk
    have hS := Any.slices_Sort_int laysSort g 0 cap zs w (holds_of_blockI hh htk') hgl (by omega)
    rw [hzl] at hS
    refine hS.mono ?_
    rintro e w' ⟨rfl, n, os, rfl⟩
    refine ⟨rfl, ?_, ?_⟩
    · have := ownsRow_sortedI (n := n) (os := os) (ss := zs) (ts := zs.mergeSort fun x y => decide (x ≤ y)) (by simp) hg hh (by omega) hcm (by simpa using hsz)
      rw [hzl] at this
      exact this
    · exact (Below.refl base w).grown (grownBy_sortedI _) hb (fun j hj => by cases hj; exact hg)

theorem sorted_any (Bl : Nat) (A : Option Addr) (len cap : Nat) (zs : List Int) (w : World) (hr : Rd w A len zs) (hzl : zs.length = len) (hlen : len ≤ 1000000) (hBl : w.cell? ⟨Bl, 0, none⟩ = some (.slice A len cap)) (hl1 : Bl < w.heap.size) :
    Calls Try.prog 35 #[.func (.func 43) #[] #[.pointer (some ⟨Bl, 0, none⟩)]] w fun e w' => (∃ u, e = .returned u ∧ w'.ownsRow w.heap.size 3 1 u len (ints (zs.mergeSort fun x y => decide (x ≤ y)))) ∧ Below w.heap.size w w' := by
  have HA := Lib.hid (collect_any Bl A len cap zs w hr hzl hlen hBl hl1)
  clear hr hBl
  go_enter Try.func35, Try.ntmps35
  go_wp2_with fail
  refine HA.out.mono ?_
  rintro e w1 ⟨⟨u, rfl, hrow⟩, hb⟩
  rw [hzl] at hrow
  obtain ⟨A1, c1, hu⟩ := own_form hrow
  subst hu
  have HS := Lib.hid (sort_own A1 len c1 w.heap.size zs w1 hb.size hrow hlen)
  have HB := Lib.hid hb
  clear hrow hb
  go_wp2_with fail
  refine HS.out.mono ?_
  rintro e w2 ⟨rfl, hrow2, hb2⟩
  have HZ := Lib.hid (And.intro hrow2 (HB.out.trans hb2))
  clear hrow2 hb2
  go_wp2
  go_ret
  exact ⟨⟨_, rfl, HZ.out.1⟩, HZ.out.2⟩

theorem mem_compactUpTo (d : Array Int) : ∀ (m : Nat), m ≤ d.size → ∀ x, x ∈ Lib.compactUpTo d m ↔ ∃ i, i < m ∧ d[i]! = x := by
  intro m
  induction m with
  | zero => intro _ x; simp [Lib.compactUpTo]
  | succ k ih =>
    intro hk x
    rw [Lib.compactUpTo_succ, List.mem_append, ih (by omega)]
    by_cases hkp : Lib.keeps d k = true
    · rw [if_pos hkp, List.mem_singleton]
      constructor
      · rintro (⟨i, hi, rfl⟩ | rfl)
        · exact ⟨i, by omega, rfl⟩
        · exact ⟨k, by omega, rfl⟩
      · rintro ⟨i, hi, rfl⟩
        by_cases hik : i = k
        · subst hik; exact .inr rfl
        · exact .inl ⟨i, by omega, rfl⟩
    · rw [if_neg hkp]
      have hk0 : k ≠ 0 ∧ d[k]! = d[k - 1]! := by
        have : Lib.keeps d k = false := by simpa using hkp
        simpa [Lib.keeps] using this
      constructor
      · rintro (⟨i, hi, rfl⟩ | h)
        · exact ⟨i, by omega, rfl⟩
        · cases h
      · rintro ⟨i, hi, rfl⟩
        by_cases hik : i = k
        · subst hik; exact .inl ⟨i - 1, by omega, hk0.2.symm⟩
        · exact .inl ⟨i, by omega, rfl⟩

theorem mem_compact (zs : List Int) (x : Int) : x ∈ Lib.compact zs ↔ x ∈ zs := by
  unfold Lib.compact
  rw [mem_compactUpTo _ _ (by simp)]
  rw [List.mem_iff_getElem]
  constructor
  · rintro ⟨i, hi, h⟩
    exact ⟨i, hi, by simpa [getElem!_pos, hi] using h⟩
  · rintro ⟨i, hi, h⟩
    exact ⟨i, hi, by simpa [getElem!_pos, hi] using h⟩
theorem compact_length (zs : List Int) : (Lib.compact zs).length ≤ zs.length := by
  unfold Lib.compact Lib.compactUpTo
  rw [List.length_map]
  exact Nat.le_trans (List.length_filter_le _ _) (by simp)

theorem compact_own (A : Option Addr) (len cap base : Nat) (zs : List Int) (w : World) (h : w.ownsRow base 3 1 (.slice A len cap) len (ints zs)) (hl : len ≤ 1000000) :
    Calls Try.prog 34 #[.slice A len cap] w fun e w' => (∃ A' c' n', e = .returned (.slice A' n' c') ∧ ∃ ys, n' = ys.length ∧ n' ≤ len ∧ w'.ownsRow base 3 1 (.slice A' n' c') n' (ints ys) ∧ ∀ x, x ∈ ys ↔ x ∈ zs) ∧ Below base w w' := by
  have hzl : zs.length = len := by have := h.1; simpa [ints] using this
  rcases h.2 with ⟨e0, rfl⟩ | ⟨g, cap', cur, hv, hg, hh, hc, hcm, hsz, htk⟩
  · obtain rfl : zs = [] := by cases zs with | nil => rfl | cons _ _ => simp at hzl
    injection e0 with hA _ hcc
    subst hA hcc
    clear h
    go_enter Try.func34, Try.ntmps34
    go_wp2
    go_ret
    exact ⟨⟨none, 0, 0, rfl, [], rfl, rfl, World.ownsRow_nil _ _ _ _, fun _ => by simp⟩, Below.refl _ _⟩
  · injection hv with hA _ hcc
    subst hA hcc
    by_cases h0 : len = 0
    · subst h0
      obtain rfl : zs = [] := by cases zs with | nil => rfl | cons _ _ => simp at hzl
      have HO := Lib.hid h
      clear h hh htk hsz hc hcm
      go_enter Try.func34, Try.ntmps34
      go_wp2
      go_ret
      exact ⟨⟨_, _, 0, rfl, [], rfl, rfl, HO.out, fun _ => by simp⟩, Below.refl _ _⟩
    · refine (Any.slices_Compact_int_cells laysCompact g 0 len cap zs w (by omega) (by omega) hc (fun j hj => ?_) (fun j hj => h.frozenAt (0 + j))).mono ?_
      · rw [Nat.zero_add]
        exact (h.cellAt j (by omega)).trans (ints_at zs j hj)
      · rintro e w' ⟨rfl, q, rfl⟩
        have htz : zs.take len = zs := List.take_of_length_le (by omega)
        rw [htz]
        have hcl := compact_length zs
        refine ⟨⟨_, _, _, rfl, Lib.compact zs, rfl, by omega, ?_, mem_compact zs⟩, stores_below hg _ _ _ (below_drewN (Below.refl _ _) q)⟩
        have := own_setCells (m := (Lib.compact zs).length) (own_drewN h q) (by omega) ((Lib.compact zs ++ List.replicate (len - (Lib.compact zs).length) 0).map (Value.int .i64)) (by simp; omega) (by omega)
        rw [← List.map_take, List.take_left] at this
        exact this
end Go.Proofs.Yteajilefhkckeaa.Picks
