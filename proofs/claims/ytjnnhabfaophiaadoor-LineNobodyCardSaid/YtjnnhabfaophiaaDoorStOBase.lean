/- The library's sort of a row of numbers (slices.Sort at []uint64): the row while it is sorted, and cmp.Less. -/
import Derived.Test.YtjnnhabfaophiaaDoorCommon
import Derived.Below
import Derived.Calls
import Derived.Sort.Lot0
import Derived.Sort.LotA
import Derived.Laws.World
import Derived.Deep.LoopGhost
import Derived.WalkKit
import Derived.BigCall
import Derived.BigGuard
import Derived.BigQuiet
import Derived.Deep.QuietTactic
import Derived.CellFam
import Derived.Sort.WalkA
namespace Go.Proofs.YtjnnhabfaophiaaDoor.So
open Go Go.RowKit Go.Sort

abbrev TU : Nat := 22
set_option maxRecDepth 20000 in
theorem nan_u (x : Int) (w : World) : Calls Tryd.prog 75 #[.int .u64 x] w fun e w' => e = .returned (.bool false) ∧ w' = w := by
  have h : (x != x) = false := by simp
  go_enter Tryd.func75, Tryd.ntmps75
  go_wp2
  go_ret
  exact ⟨rfl, rfl⟩
set_option maxRecDepth 20000 in
theorem less_u (x y : Int) (w : World) : Calls Tryd.prog 59 #[.int .u64 x, .int .u64 y] w fun e w' => e = .returned (.bool (ltInt x y)) ∧ w' = w := by
  unfold ltInt
  go_enter Tryd.func59, Tryd.ntmps59
  go_wp2_with fail
  refine (nan_u _ _).mono ?_
  rintro _ _ ⟨rfl, rfl⟩
  go_wp2
  go_ret
  exact ⟨rfl, rfl⟩
/-- the row in block g: d; all but it stands as in w0 -/
structure AtO (g n : Nat) (w0 : World) (d : Array Int) (W : World) : Prop where
  sz : d.size = n
  cell : ∀ t, t < n → W.cell? ⟨g, t, none⟩ = some (.int .u64 (d[t]!))
  shape : ∃ c0 c, w0.heap[g]? = some (.cells c0 TU (0, 0)) ∧ W.heap[g]? = some (.cells c TU (0, 0)) ∧ c.size = c0.size
  os : W.os = w0.os
  tape : W.tape = w0.tape
  output : W.output = w0.output
  size : w0.heap.size ≤ W.heap.size
  block : ∀ k, k < w0.heap.size → k ≠ g → W.heap[k]? = w0.heap[k]?
section
variable {g n : Nat} {w0 W V : World} {d : Array Int}
theorem AtO.start {c : Array Value} (hs : d.size = n) (hh : W.heap[g]? = some (.cells c TU (0, 0))) (hc : ∀ t, t < n → W.cell? ⟨g, t, none⟩ = some (.int .u64 (d[t]!))) : AtO g n W d W :=
  ⟨hs, hc, ⟨c, c, hh, hh, rfl⟩, rfl, rfl, rfl, Nat.le_refl _, fun _ _ _ => rfl⟩
theorem AtO.lt (H : AtO g n w0 d W) : g < W.heap.size := by
  obtain ⟨c0, c, h1, h2, h3⟩ := H.shape
  exact (Array.getElem?_eq_some_iff.1 h2).1
theorem AtO.frz (H : AtO g n w0 d W) (t : Nat) : W.frozen? ⟨g, t, none⟩ = false := by
  obtain ⟨c0, c, h1, h2, h3⟩ := H.shape
  simp [World.frozen?, h2]
theorem AtO.drewN (H : AtO g n w0 d W) (q : Nat) : AtO g n w0 d (W.drewN q) := ⟨H.sz, H.cell, H.shape, H.os, H.tape, H.output, H.size, H.block⟩
theorem AtO.below (H : AtO g n w0 d W) (b : Below W.heap.size W V) : AtO g n w0 d V := by
  have hl := H.lt
  obtain ⟨c0, c, h1, h2, h3⟩ := H.shape
  exact ⟨H.sz, fun t ht => (World.cell?_of_block (a := ⟨g, t, none⟩) (b.block g hl)).trans (H.cell t ht), ⟨c0, c, h1, (b.block g hl).trans h2, h3⟩, b.os.trans H.os, b.tape.trans H.tape, b.output.trans H.output, Nat.le_trans H.size b.size, fun k hk hne => (b.block k (Nat.lt_of_lt_of_le hk H.size)).trans (H.block k hk hne)⟩
theorem AtO.trans {d' : Array Int} (H : AtO g n w0 d W) (K : AtO g n W d' V) : AtO g n w0 d' V := by
  obtain ⟨c0, c, h1, h2, h3⟩ := H.shape
  obtain ⟨e0, e, k1, k2, k3⟩ := K.shape
  rw [h2] at k1
  injection k1 with k1
  injection k1 with k1 _ _
  subst k1
  exact ⟨K.sz, K.cell, ⟨c0, e, h1, k2, k3.trans h3⟩, K.os.trans H.os, K.tape.trans H.tape, K.output.trans H.output, Nat.le_trans H.size K.size, fun k hk hne => (K.block k (Nat.lt_of_lt_of_le hk H.size) hne).trans (H.block k hk hne)⟩
theorem AtO.set (H : AtO g n w0 d W) (i : Nat) (x : Int) (hi : i < n) : AtO g n w0 (d.setIfInBounds i x) (W.setCell ⟨g, i, none⟩ (.int .u64 x)) := by
  have hsz := H.sz
  obtain ⟨c0, c, h1, h2, h3⟩ := H.shape
  refine ⟨by simp [hsz], fun t ht => ?_, ⟨c0, c.setIfInBounds i (.int .u64 x), h1, ?_, by simp [h3]⟩, H.os, H.tape, H.output, by simpa using H.size, fun k hk hne => (Below.heap_setCell _ _ _ _ hne).trans (H.block k hk hne)⟩
  · by_cases e : t = i
    · subst e
      rw [World.cell?_setCell_same _ _ _ (H.cell t ht)]
      simp [hsz, ht]
    · have h4 : (W.setCell ⟨g, i, none⟩ (.int .u64 x)).cell? ⟨g, t, none⟩ = W.cell? ⟨g, t, none⟩ := World.cell?_setCell_other _ _ _ _ (by simp)
      rw [h4, H.cell t ht]
      congr 2
      simp [getElem!_def, Ne.symm e]
  · simp [World.setCell, Array.getElem?_modify, h2]
theorem AtO.swap (H : AtO g n w0 d W) (i j : Nat) (hi : i < n) (hj : j < n) : AtO g n w0 (swp d i j) ((W.setCell ⟨g, i, none⟩ (.int .u64 (d[j]!))).setCell ⟨g, j, none⟩ (.int .u64 (d[i]!))) :=
  (H.set i _ hi).set j _ hj
/-- the same by letters -/
theorem AtO.swapL (H : AtO g n w0 d W) {p q P Q : Nat} {x y : Int} (h : (p = P ∧ x = d[p]!) ∧ (q = Q ∧ y = d[q]!)) (hp : P < n) (hq : Q < n) (k : Nat) : AtO g n w0 (swp d P Q) (((W.drewN k).setCell ⟨g, p, none⟩ (.int .u64 y)).setCell ⟨g, q, none⟩ (.int .u64 x)) := by
  obtain ⟨⟨rfl, rfl⟩, rfl, rfl⟩ := h
  exact (H.drewN k).swap p q hp hq
/-- a cell of a block that was made since is set -/
theorem AtO.setNew (H : AtO g n w0 d W) {K i : Nat} {v : Value} (hK : w0.heap.size ≤ K) (hne : K ≠ g) : AtO g n w0 d (W.setCell ⟨K, i, none⟩ v) := by
  obtain ⟨c0, c, h1, h2, h3⟩ := H.shape
  have hb : ∀ k, k ≠ K → (W.setCell ⟨K, i, none⟩ v).heap[k]? = W.heap[k]? := fun k hk => Below.heap_setCell _ _ _ _ hk
  exact ⟨H.sz, fun t ht => (World.cell?_of_block (a := ⟨g, t, none⟩) (hb g hne.symm)).trans (H.cell t ht), ⟨c0, c, h1, (hb g hne.symm).trans h2, h3⟩, H.os, H.tape, H.output, by simpa using H.size, fun k hk h => (hb k (by omega)).trans (H.block k hk h)⟩
/-- beside the row a cell of its own in block K, made since: an int's or a u64's -/
structure CtO (g n : Nat) (w0 : World) (K : Nat) (d : Array Int) (v : Value) (W : World) : Prop where
  st : AtO g n w0 d W
  ne : K ≠ g
  new : w0.heap.size ≤ K
  lt : K < W.heap.size
  at_ : W.cell? ⟨K, 0, none⟩ = some v
  f : W.frozen? ⟨K, 0, none⟩ = false
theorem CtO.start {t : TypeId} (H : AtO g n w0 d W) (v : Value) : CtO g n w0 W.heap.size d v (W.alloc (.cells #[v] t)) := by
  have hb : Below W.heap.size W (W.alloc (.cells #[v] t)) := (Below.refl _ _).alloc (Nat.le_refl _) _
  refine ⟨H.below hb, by have := H.lt; omega, H.size, by simp, ?_, by simp⟩
  exact cell_of_row _ W.heap.size 0 #[v] t (0, 0) (heap_alloc_new W _)
theorem CtO.drewN {K : Nat} {v : Value} (H : CtO g n w0 K d v W) (q : Nat) : CtO g n w0 K d v (W.drewN q) := ⟨H.st.drewN q, H.ne, H.new, H.lt, by rw [World.cell?_drewN]; exact H.at_, by rw [World.frozen?_drewN]; exact H.f⟩
theorem CtO.turn {K : Nat} {v : Value} (H : CtO g n w0 K d v W) (v' : Value) : CtO g n w0 K d v' (W.setCell ⟨K, 0, none⟩ v') :=
  ⟨H.st.setNew H.new H.ne, H.ne, H.new, by simpa using H.lt, World.cell?_setCell_same _ _ _ H.at_, by simpa using H.f⟩
theorem CtO.swapL {K : Nat} {v : Value} (H : CtO g n w0 K d v W) {p q P Q : Nat} {x y : Int} (h : (p = P ∧ x = d[p]!) ∧ (q = Q ∧ y = d[q]!)) (hp : P < n) (hq : Q < n) (k : Nat) : CtO g n w0 K (swp d P Q) v (((W.drewN k).setCell ⟨g, p, none⟩ (.int .u64 y)).setCell ⟨g, q, none⟩ (.int .u64 x)) := by
  have hb : (((W.drewN k).setCell ⟨g, p, none⟩ (.int .u64 y)).setCell ⟨g, q, none⟩ (.int .u64 x)).heap[K]? = W.heap[K]? := (Below.heap_setCell _ _ _ _ H.ne).trans (Below.heap_setCell _ _ _ _ H.ne)
  exact ⟨H.st.swapL h hp hq k, H.ne, H.new, by simpa using H.lt, (World.cell?_of_block (a := ⟨K, 0, none⟩) hb).trans H.at_, (World.frozen?_of_block (a := ⟨K, 0, none⟩) hb).trans H.f⟩
end
end Go.Proofs.YtjnnhabfaophiaaDoor.So
