/- slices.Sort, Sorted, Compact at []int: the shelf's contracts laid at this program (plain text by lay-plain.mjs, wip/tools/laytpl.py). -/
import Derived.Test.YtnopmeadliaiiaaSliceSeq
import Derived.Ground.NamesProg
import Derived.Ground.Names2Prog
import Derived.Shelf.Sort.Plain
import Derived.Shelf.Slices.In.SortNone
import Derived.Shelf.Slices.Cells
import Derived.Sort.OwnSortedInts
namespace Go.Proofs.Ytnopmeadliaiiaa.Picks
open Go Go.RowKit Go.Shelf picksNext
def laysSort_ren : Go.Shelf.Ren := ⟨fun | 189 => 28 | 125 => 32 | 257 => 31 | 128 => 42 | 129 => 43 | 294 => 33 | 295 => 34 | 296 => 35 | 297 => 36 | 298 => 37 | 299 => 38 | 216 => 39 | 300 => 40 | 301 => 41 | 328 => 44 | 329 => 45 | 330 => 46 | 331 => 47 | 332 => 48 | 215 => 49 | 343 => 50 | n => n, fun | 28 => 22 | 3 => 3 | 46 => 51 | 0 => 0 | 51 => 62 | 53 => 29 | 4 => 4 | 183 => 54 | 182 => 53 | 131 => 59 | 5 => 5 | 9 => 9 | 218 => 64 | 222 => 68 | 228 => 70 | 229 => 71 | n => n, fun | n => n⟩
theorem laysSort : Go.Proofs.Lays.n189 Try.prog laysSort_ren := {
  mixed := by kernel_rfl
  f125 := Try.func32.trans (congrArg some (by kernel_rfl))
  f128 := Try.func42.trans (congrArg some (by kernel_rfl))
  f129 := Try.func43.trans (congrArg some (by kernel_rfl))
  f189 := Try.func28.trans (congrArg some (by kernel_rfl))
  f215 := Try.func49.trans (congrArg some (by kernel_rfl))
  f216 := Try.func39.trans (congrArg some (by kernel_rfl))
  f257 := Try.func31.trans (congrArg some (by kernel_rfl))
  f294 := Try.func33.trans (congrArg some (by kernel_rfl))
  f295 := Try.func34.trans (congrArg some (by kernel_rfl))
  f296 := Try.func35.trans (congrArg some (by kernel_rfl))
  f297 := Try.func36.trans (congrArg some (by kernel_rfl))
  f298 := Try.func37.trans (congrArg some (by kernel_rfl))
  f299 := Try.func38.trans (congrArg some (by kernel_rfl))
  f300 := Try.func40.trans (congrArg some (by kernel_rfl))
  f301 := Try.func41.trans (congrArg some (by kernel_rfl))
  f328 := Try.func44.trans (congrArg some (by kernel_rfl))
  f329 := Try.func45.trans (congrArg some (by kernel_rfl))
  f330 := Try.func46.trans (congrArg some (by kernel_rfl))
  f331 := Try.func47.trans (congrArg some (by kernel_rfl))
  f332 := Try.func48.trans (congrArg some (by kernel_rfl))
  f343 := Try.func50.trans (congrArg some (by kernel_rfl))
  t0 := Try.underlying0
  a0 := Try.isAgg0
  z0 := Try.sizeOf0
  v0 := Try.zeroValue0
  t3 := Try.underlying3
  a3 := Try.isAgg3
  z3 := Try.sizeOf3
  v3 := Try.zeroValue3
  t4 := Try.underlying4
  a4 := Try.isAgg4
  z4 := Try.sizeOf4
  v4 := Try.zeroValue4
  t5 := Try.underlying5
  a5 := Try.isAgg5
  z5 := Try.sizeOf5
  v5 := Try.zeroValue5
  t9 := Try.underlying9
  a9 := Try.isAgg9
  z9 := Try.sizeOf9
  v9 := Try.zeroValue9
  t28 := Try.underlying22
  a28 := Try.isAgg22
  z28 := Try.sizeOf22
  v28 := Try.zeroValue22
  t46 := Try.underlying51
  a46 := Try.isAgg51
  z46 := Try.sizeOf51
  v46 := Try.zeroValue51
  t51 := Try.underlying62
  a51 := Try.isAgg62
  z51 := Try.sizeOf62
  v51 := Try.zeroValue62
  t53 := Try.underlying29
  a53 := Try.isAgg29
  z53 := Try.sizeOf29
  v53 := Try.zeroValue29
  t131 := Try.underlying59
  a131 := Try.isAgg59
  z131 := Try.sizeOf59
  v131 := Try.zeroValue59
  t182 := Try.underlying53
  a182 := Try.isAgg53
  z182 := Try.sizeOf53
  v182 := Try.zeroValue53
  t183 := Try.underlying54
  a183 := Try.isAgg54
  z183 := Try.sizeOf54
  v183 := Try.zeroValue54
  t218 := Try.underlying64
  a218 := Try.isAgg64
  z218 := Try.sizeOf64
  v218 := Try.zeroValue64
  t222 := Try.underlying68
  a222 := Try.isAgg68
  z222 := Try.sizeOf68
  v222 := Try.zeroValue68
  t228 := Try.underlying70
  a228 := Try.isAgg70
  z228 := Try.sizeOf70
  v228 := Try.zeroValue70
  t229 := Try.underlying71
  a229 := Try.isAgg71
  z229 := Try.sizeOf71
  v229 := Try.zeroValue71 }
def laysCompact_ren : Go.Shelf.Ren := ⟨fun | 20 => 21 | n => n, fun | 22 => 22 | 3 => 3 | 4 => 4 | 0 => 0 | n => n, fun | n => n⟩
theorem laysCompact : Go.Proofs.Lays2.n20 Try.prog laysCompact_ren := {
  mixed := by kernel_rfl
  f20 := Try.func21.trans (congrArg some (by kernel_rfl))
  t0 := Try.underlying0
  a0 := Try.isAgg0
  z0 := Try.sizeOf0
  v0 := Try.zeroValue0
  t3 := Try.underlying3
  a3 := Try.isAgg3
  z3 := Try.sizeOf3
  v3 := Try.zeroValue3
  t4 := Try.underlying4
  a4 := Try.isAgg4
  z4 := Try.sizeOf4
  v4 := Try.zeroValue4
  t22 := Try.underlying22
  a22 := Try.isAgg22
  z22 := Try.sizeOf22
  v22 := Try.zeroValue22
  i3 := by kernel_rfl }


theorem sort_own (A : Option Addr) (len cap base : Nat) (zs : List Int) (w : World) (hb : base ≤ w.heap.size) (h : w.ownsRow base 3 1 (.slice A len cap) len (ints zs)) (hl : len ≤ 1000000) :
    Calls Try.prog 28 #[.slice A len cap] w fun e w' => e = .returned (.tuple #[]) ∧ w'.ownsRow base 3 1 (.slice A len cap) len (ints (zs.mergeSort fun x y => decide (x ≤ y))) ∧ Below base w w' := by
  have hzl : zs.length = len := by have := h.1; simpa [ints] using this
  rcases h.2 with ⟨e0, rfl⟩ | ⟨g, cap', cur, hv, hg, hh, hc, hcm, hsz, htk⟩
  · obtain rfl : zs = [] := by cases zs with | nil => rfl | cons _ _ => simp at hzl
    refine (Any.slices_Sort_int_none laysSort A cap w).mono ?_
    rintro e w' ⟨rfl, rfl⟩
    exact ⟨rfl, by simpa using h, Below.refl _ _⟩
  · injection hv with hA _ hcc
    subst hA hcc
    have hgl : g < w.heap.size := lt_blk hh
    have htk' : cur.toList.take zs.length = zs.map (Value.int .i64) := by rw [hzl]; simpa [ints] using htk
    have hS := Any.slices_Sort_int laysSort g 0 cap zs w (holds_of_blockI hh htk') hgl (by omega)
    rw [hzl] at hS
    refine hS.mono ?_
    rintro e w' ⟨rfl, n, os, rfl⟩
    refine ⟨rfl, ?_, ?_⟩
    · have := ownsRow_sortedI (n := n) (os := os) (ss := zs) (ts := zs.mergeSort fun x y => decide (x ≤ y)) (by simp) hg hh (by omega) hcm (by simpa using hsz)
      rw [hzl] at this
      exact this
    · exact (Below.refl base w).grown (grownBy_sortedI _) hb (fun j hj => by cases hj; exact hg)

theorem sorted_any (Bl : Nat) (A : Option Addr) (len cap : Nat) (zs : List Int) (w : World) (hr : Rd w A len zs) (hzl : zs.length = len) (hlen : len ≤ 1000000) (hBl : w.cell? ⟨Bl, 0, none⟩ = some (.slice A len cap)) (hl1 : Bl < w.heap.size) :
    Calls Try.prog 22 #[.func (.func 29) #[] #[.pointer (some ⟨Bl, 0, none⟩)]] w fun e w' => (∃ u, e = .returned u ∧ w'.ownsRow w.heap.size 3 1 u len (ints (zs.mergeSort fun x y => decide (x ≤ y)))) ∧ Below w.heap.size w w' := by
  have HA := Lib.hid (collect_any Bl A len cap zs w hr hzl hlen hBl hl1)
  clear hr hBl
  go_enter Try.func22, Try.ntmps22
  go_wp2_with fail
  refine HA.out.mono ?_
  rintro e w1 ⟨⟨u, rfl, hrow⟩, hb⟩
  rw [hzl] at hrow
  obtain ⟨A1, c1, hu⟩ := own_form hrow
  subst hu
  have HS := Lib.hid (sort_own A1 len c1 w.heap.size zs w1 hb.size hrow hlen)
  have HB := Lib.hid hb
  clear hrow hb
  go_wp2_with fail
  refine HS.out.mono ?_
  rintro e w2 ⟨rfl, hrow2, hb2⟩
  have HZ := Lib.hid (And.intro hrow2 (HB.out.trans hb2))
  clear hrow2 hb2
  go_wp2
  go_ret
  exact ⟨⟨_, rfl, HZ.out.1⟩, HZ.out.2⟩

theorem mem_compactUpTo (d : Array Int) : ∀ (m : Nat), m ≤ d.size → ∀ x, x ∈ Lib.compactUpTo d m ↔ ∃ i, i < m ∧ d[i]! = x := by
  intro m
  induction m with
  | zero => intro _ x; simp [Lib.compactUpTo]
  | succ k ih =>
    intro hk x
    rw [Lib.compactUpTo_succ, List.mem_append, ih (by omega)]
    by_cases hkp : Lib.keeps d k = true
    · rw [if_pos hkp, List.mem_singleton]
      constructor
      · rintro (⟨i, hi, rfl⟩ | rfl)
        · exact ⟨i, by omega, rfl⟩
        · exact ⟨k, by omega, rfl⟩
      · rintro ⟨i, hi, rfl⟩
        by_cases hik : i = k
        · subst hik; exact .inr rfl
        · exact .inl ⟨i, by omega, rfl⟩
    · rw [if_neg hkp]
      have hk0 : k ≠ 0 ∧ d[k]! = d[k - 1]! := by
        have : Lib.keeps d k = false := by simpa using hkp
        simpa [Lib.keeps] using this
      constructor
      · rintro (⟨i, hi, rfl⟩ | h)
        · exact ⟨i, by omega, rfl⟩
        · cases h
      · rintro ⟨i, hi, rfl⟩
        by_cases hik : i = k
        · subst hik; exact .inl ⟨i - 1, by omega, hk0.2.symm⟩
        · exact .inl ⟨i, by omega, rfl⟩

theorem mem_compact (zs : List Int) (x : Int) : x ∈ Lib.compact zs ↔ x ∈ zs := by
  unfold Lib.compact
  rw [mem_compactUpTo _ _ (by simp)]
  rw [List.mem_iff_getElem]
  constructor
  · rintro ⟨i, hi, h⟩
    exact ⟨i, hi, by simpa [getElem!_pos, hi] using h⟩
  · rintro ⟨i, hi, h⟩
    exact ⟨i, hi, by simpa [getElem!_pos, hi] using h⟩
theorem compact_length (zs : List Int) : (Lib.compact zs).length ≤ zs.length := by
  unfold Lib.compact Lib.compactUpTo
  rw [List.length_map]
  exact Nat.le_trans (List.length_filter_le _ _) (by simp)

theorem compact_own (A : Option Addr) (len cap base : Nat) (zs : List Int) (w : World) (h : w.ownsRow base 3 1 (.slice A len cap) len (ints zs)) (hl : len ≤ 1000000) :
    Calls Try.prog 21 #[.slice A len cap] w fun e w' => (∃ A' c' n', e = .returned (.slice A' n' c') ∧ ∃ ys, n' = ys.length ∧ n' ≤ len ∧ w'.ownsRow base 3 1 (.slice A' n' c') n' (ints ys) ∧ ∀ x, x ∈ ys ↔ x ∈ zs) ∧ Below base w w' := by
  have hzl : zs.length = len := by have := h.1; simpa [ints] using this
  rcases h.2 with ⟨e0, rfl⟩ | ⟨g, cap', cur, hv, hg, hh, hc, hcm, hsz, htk⟩
  · obtain rfl : zs = [] := by cases zs with | nil => rfl | cons _ _ => simp at hzl
    injection e0 with hA _ hcc
    subst hA hcc
    clear h
    go_enter Try.func21, Try.ntmps21
    go_wp2
    go_ret
    exact ⟨⟨none, 0, 0, rfl, [], rfl, rfl, World.ownsRow_nil _ _ _ _, fun _ => by simp⟩, Below.refl _ _⟩
  · injection hv with hA _ hcc
    subst hA hcc
    by_cases h0 : len = 0
    · subst h0
      obtain rfl : zs = [] := by cases zs with | nil => rfl | cons _ _ => simp at hzl
      have HO := Lib.hid h
      clear h hh htk hsz hc hcm
      go_enter Try.func21, Try.ntmps21
      go_wp2
      go_ret
      exact ⟨⟨_, _, 0, rfl, [], rfl, rfl, HO.out, fun _ => by simp⟩, Below.refl _ _⟩
    · refine (Any.slices_Compact_int_cells laysCompact g 0 len cap zs w (by omega) (by omega) hc (fun j hj => ?_) (fun j hj => h.frozenAt (0 + j))).mono ?_
      · rw [Nat.zero_add]
        exact (h.cellAt j (by omega)).trans (ints_at zs j hj)
      · rintro e w' ⟨rfl, q, rfl⟩
        have htz : zs.take len = zs := List.take_of_length_le (by omega)
        rw [htz]
        have hcl := compact_length zs
        refine ⟨⟨_, _, _, rfl, Lib.compact zs, rfl, by omega, ?_, mem_compact zs⟩, stores_below hg _ _ _ (below_drewN (Below.refl _ _) q)⟩
        have := own_setCells (m := (Lib.compact zs).length) (own_drewN h q) (by omega) ((Lib.compact zs ++ List.replicate (len - (Lib.compact zs).length) 0).map (Value.int .i64)) (by simp; omega) (by omega)
        rw [← List.map_take, List.take_left] at this
        exact this
end Go.Proofs.Ytnopmeadliaiiaa.Picks
