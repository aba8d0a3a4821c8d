import Derived.Test.YtdljphbfbiganaaDoorCommon
import Derived.Below
import Derived.Calls
import Derived.Sort.Lot0
import Derived.Sort.LotA
import Derived.Laws.World
import Derived.Deep.LoopGhost
import Derived.WalkKit
import Derived.BigCall
import Derived.BigGuard
import Derived.BigQuiet
import Derived.Deep.QuietTactic
import Derived.CellFam
import Derived.Sort.WalkA
import Derived.Deep.RegionHeld3
import Derived.Sort.WalkB2
import Derived.Deep.CutBlock
import Derived.Deep.DeepCutAuto
import Derived.Sort.WalkB3
import Derived.Shelf.Small.Bits
import Derived.Sort.Walk7a
import Derived.Sort.Walk7
/- The library's sort of a row of numbers (slices.Sort at []uint64): the row while it is sorted, and cmp.Less. -/
namespace Go.Proofs.YtdljphbfbiganaaDoor.So
open Go Go.RowKit Go.Sort

abbrev TU : Nat := 29
set_option maxRecDepth 20000 in
theorem nan_u (x : Int) (w : World) : Calls Tryd.prog 74 #[.int .u64 x] w fun e w' => e = .returned (.bool false) ∧ w' = w := by
  have h : (x != x) = false := by simp
  go_enter Tryd.func74, Tryd.ntmps74
  go_wp2
  go_ret
  exact ⟨rfl, rfl⟩
set_option maxRecDepth 20000 in
theorem less_u (x y : Int) (w : World) : Calls Tryd.prog 58 #[.int .u64 x, .int .u64 y] w fun e w' => e = .returned (.bool (ltInt x y)) ∧ w' = w := by
  unfold ltInt
  go_enter Tryd.func58, Tryd.ntmps58
  go_wp2_with fail
  refine (nan_u _ _).mono ?_
  rintro _ _ ⟨rfl, rfl⟩
  go_wp2
  go_ret
  exact ⟨rfl, rfl⟩
/-- the row in block g: d; all but it stands as in w0 -/
structure AtO (g n : Nat) (w0 : World) (d : Array Int) (W : World) : Prop where
  sz : d.size = n
  cell : ∀ t, t < n → W.cell? ⟨g, t, none⟩ = some (.int .u64 (d[t]!))
  shape : ∃ c0 c, w0.heap[g]? = some (.cells c0 TU (0, 0)) ∧ W.heap[g]? = some (.cells c TU (0, 0)) ∧ c.size = c0.size
  os : W.os = w0.os
  tape : W.tape = w0.tape
  output : W.output = w0.output
  size : w0.heap.size ≤ W.heap.size
  block : ∀ k, k < w0.heap.size → k ≠ g → W.heap[k]? = w0.heap[k]?
section
variable {g n : Nat} {w0 W V : World} {d : Array Int}
theorem AtO.start {c : Array Value} (hs : d.size = n) (hh : W.heap[g]? = some (.cells c TU (0, 0))) (hc : ∀ t, t < n → W.cell? ⟨g, t, none⟩ = some (.int .u64 (d[t]!))) : AtO g n W d W :=
  ⟨hs, hc, ⟨c, c, hh, hh, rfl⟩, rfl, rfl, rfl, Nat.le_refl _, fun _ _ _ => rfl⟩
theorem AtO.lt (H : AtO g n w0 d W) : g < W.heap.size := by
  obtain ⟨c0, c, h1, h2, h3⟩ := H.shape
  exact (Array.getElem?_eq_some_iff.1 h2).1
theorem AtO.frz (H : AtO g n w0 d W) (t : Nat) : W.frozen? ⟨g, t, none⟩ = false := by
  obtain ⟨c0, c, h1, h2, h3⟩ := H.shape
  simp [World.frozen?, h2]
theorem AtO.drewN (H : AtO g n w0 d W) (q : Nat) : AtO g n w0 d (W.drewN q) := ⟨H.sz, H.cell, H.shape, H.os, H.tape, H.output, H.size, H.block⟩
theorem AtO.below (H : AtO g n w0 d W) (b : Below W.heap.size W V) : AtO g n w0 d V := by
  have hl := H.lt
  obtain ⟨c0, c, h1, h2, h3⟩ := H.shape
  exact ⟨H.sz, fun t ht => (World.cell?_of_block (a := ⟨g, t, none⟩) (b.block g hl)).trans (H.cell t ht), ⟨c0, c, h1, (b.block g hl).trans h2, h3⟩, b.os.trans H.os, b.tape.trans H.tape, b.output.trans H.output, Nat.le_trans H.size b.size, fun k hk hne => (b.block k (Nat.lt_of_lt_of_le hk H.size)).trans (H.block k hk hne)⟩
theorem AtO.trans {d' : Array Int} (H : AtO g n w0 d W) (K : AtO g n W d' V) : AtO g n w0 d' V := by
  obtain ⟨c0, c, h1, h2, h3⟩ := H.shape
  obtain ⟨e0, e, k1, k2, k3⟩ := K.shape
  rw [h2] at k1
  injection k1 with k1
  injection k1 with k1 _ _
  subst k1
  exact ⟨K.sz, K.cell, ⟨c0, e, h1, k2, k3.trans h3⟩, K.os.trans H.os, K.tape.trans H.tape, K.output.trans H.output, Nat.le_trans H.size K.size, fun k hk hne => (K.block k (Nat.lt_of_lt_of_le hk H.size) hne).trans (H.block k hk hne)⟩
theorem AtO.set (H : AtO g n w0 d W) (i : Nat) (x : Int) (hi : i < n) : AtO g n w0 (d.setIfInBounds i x) (W.setCell ⟨g, i, none⟩ (.int .u64 x)) := by
  have hsz := H.sz
  obtain ⟨c0, c, h1, h2, h3⟩ := H.shape
  refine ⟨by simp [hsz], fun t ht => ?_, ⟨c0, c.setIfInBounds i (.int .u64 x), h1, ?_, by simp [h3]⟩, H.os, H.tape, H.output, by simpa using H.size, fun k hk hne => (Below.heap_setCell _ _ _ _ hne).trans (H.block k hk hne)⟩
  · by_cases e : t = i
    · subst e
      rw [World.cell?_setCell_same _ _ _ (H.cell t ht)]
      simp [hsz, ht]
    · have h4 : (W.setCell ⟨g, i, none⟩ (.int .u64 x)).cell? ⟨g, t, none⟩ = W.cell? ⟨g, t, none⟩ := World.cell?_setCell_other _ _ _ _ (by simp)
      rw [h4, H.cell t ht]
      congr 2
      simp [getElem!_def, Ne.symm e]
  · simp [World.setCell, Array.getElem?_modify, h2]
theorem AtO.swap (H : AtO g n w0 d W) (i j : Nat) (hi : i < n) (hj : j < n) : AtO g n w0 (swp d i j) ((W.setCell ⟨g, i, none⟩ (.int .u64 (d[j]!))).setCell ⟨g, j, none⟩ (.int .u64 (d[i]!))) :=
  (H.set i _ hi).set j _ hj
/-- the same by letters -/
theorem AtO.swapL (H : AtO g n w0 d W) {p q P Q : Nat} {x y : Int} (h : (p = P ∧ x = d[p]!) ∧ (q = Q ∧ y = d[q]!)) (hp : P < n) (hq : Q < n) (k : Nat) : AtO g n w0 (swp d P Q) (((W.drewN k).setCell ⟨g, p, none⟩ (.int .u64 y)).setCell ⟨g, q, none⟩ (.int .u64 x)) := by
  obtain ⟨⟨rfl, rfl⟩, rfl, rfl⟩ := h
  exact (H.drewN k).swap p q hp hq
/-- a cell of a block that was made since is set -/
theorem AtO.setNew (H : AtO g n w0 d W) {K i : Nat} {v : Value} (hK : w0.heap.size ≤ K) (hne : K ≠ g) : AtO g n w0 d (W.setCell ⟨K, i, none⟩ v) := by
  obtain ⟨c0, c, h1, h2, h3⟩ := H.shape
  have hb : ∀ k, k ≠ K → (W.setCell ⟨K, i, none⟩ v).heap[k]? = W.heap[k]? := fun k hk => Below.heap_setCell _ _ _ _ hk
  exact ⟨H.sz, fun t ht => (World.cell?_of_block (a := ⟨g, t, none⟩) (hb g hne.symm)).trans (H.cell t ht), ⟨c0, c, h1, (hb g hne.symm).trans h2, h3⟩, H.os, H.tape, H.output, by simpa using H.size, fun k hk h => (hb k (by omega)).trans (H.block k hk h)⟩
/-- beside the row a cell of its own in block K, made since: an int's or a u64's -/
structure CtO (g n : Nat) (w0 : World) (K : Nat) (d : Array Int) (v : Value) (W : World) : Prop where
  st : AtO g n w0 d W
  ne : K ≠ g
  new : w0.heap.size ≤ K
  lt : K < W.heap.size
  at_ : W.cell? ⟨K, 0, none⟩ = some v
  f : W.frozen? ⟨K, 0, none⟩ = false
theorem CtO.start {t : TypeId} (H : AtO g n w0 d W) (v : Value) : CtO g n w0 W.heap.size d v (W.alloc (.cells #[v] t)) := by
  have hb : Below W.heap.size W (W.alloc (.cells #[v] t)) := (Below.refl _ _).alloc (Nat.le_refl _) _
  refine ⟨H.below hb, by have := H.lt; omega, H.size, by simp, ?_, by simp⟩
  exact cell_of_row _ W.heap.size 0 #[v] t (0, 0) (heap_alloc_new W _)
theorem CtO.drewN {K : Nat} {v : Value} (H : CtO g n w0 K d v W) (q : Nat) : CtO g n w0 K d v (W.drewN q) := ⟨H.st.drewN q, H.ne, H.new, H.lt, by rw [World.cell?_drewN]; exact H.at_, by rw [World.frozen?_drewN]; exact H.f⟩
theorem CtO.turn {K : Nat} {v : Value} (H : CtO g n w0 K d v W) (v' : Value) : CtO g n w0 K d v' (W.setCell ⟨K, 0, none⟩ v') :=
  ⟨H.st.setNew H.new H.ne, H.ne, H.new, by simpa using H.lt, World.cell?_setCell_same _ _ _ H.at_, by simpa using H.f⟩
theorem CtO.swapL {K : Nat} {v : Value} (H : CtO g n w0 K d v W) {p q P Q : Nat} {x y : Int} (h : (p = P ∧ x = d[p]!) ∧ (q = Q ∧ y = d[q]!)) (hp : P < n) (hq : Q < n) (k : Nat) : CtO g n w0 K (swp d P Q) v (((W.drewN k).setCell ⟨g, p, none⟩ (.int .u64 y)).setCell ⟨g, q, none⟩ (.int .u64 x)) := by
  have hb : (((W.drewN k).setCell ⟨g, p, none⟩ (.int .u64 y)).setCell ⟨g, q, none⟩ (.int .u64 x)).heap[K]? = W.heap[K]? := (Below.heap_setCell _ _ _ _ H.ne).trans (Below.heap_setCell _ _ _ _ H.ne)
  exact ⟨H.st.swapL h hp hq k, H.ne, H.new, by simpa using H.lt, (World.cell?_of_block (a := ⟨K, 0, none⟩) hb).trans H.at_, (World.frozen?_of_block (a := ⟨K, 0, none⟩) hb).trans H.f⟩
end
end Go.Proofs.YtdljphbfbiganaaDoor.So
/- insertionSort -/
namespace Go.Proofs.YtdljphbfbiganaaDoor.So
open Go Go.RowKit Go.Sort
set_option linter.unusedVariables false

set_option maxHeartbeats 2000000 in
set_option maxRecDepth 20000 in
theorem ins_any (g n cap : Nat) (hn : n < 4611686018427387904) (a b : Nat) (hab : a ≤ b) (hb : b ≤ n) (d : Array Int) (w0 w : World) (H0 : AtO g n w0 d w) :
    Calls Tryd.prog 52 #[.slice (some ⟨g, 0, none⟩) n cap, .int .i64 (a : Int), .int .i64 (b : Int)] w fun e w' => e = .returned (.tuple #[]) ∧ AtO g n w0 (insertionSort ltInt d a b) w' := by
  go_enter Tryd.func52, Tryd.ntmps52
  have HH := Lib.hid H0
  clear H0
  go_wp2
  go_loopw [6] (fun vi wr => ∃ (i : Nat) (dk : Array Int), vi = .int .i64 (i : Int) ∧ a < i ∧ i ≤ b + 1 ∧ AtO g n w0 dk wr ∧ Hid (insOuter ltInt a b i dk = insOuter ltInt a b (a + 1) d)) (fun vi _ => b + 1 - (intOf vi).toNat)
  case atStart => exact ⟨a + 1, d, by go_num, by omega, by omega, HH.out, Lib.hid rfl⟩
  case round =>
    clear HH
    obtain ⟨i, dk, rfl, hai, hib, H, HO⟩ := hrel
    by_cases hlt : i < b
    · have d1 : decide ((i : Int) < (b : Int)) = true := decide_eq_true (by omega)
      have H1 := Lib.hid H
      clear H
      go_wp2
      go_loopw [7] (fun vj wr2 => ∃ (j : Nat) (dj : Array Int), vj = .int .i64 (j : Int) ∧ a ≤ j ∧ j ≤ i ∧ AtO g n w0 dj wr2 ∧ Hid (insInner ltInt a j dj = insInner ltInt a i dk)) (fun vj _ => (intOf vj).toNat)
      case atStart => exact ⟨i, dk, rfl, by omega, Nat.le_refl _, H1.out, Lib.hid rfl⟩
      case round =>
        clear H1
        obtain ⟨j, dj, rfl, haj, hji, H, HI⟩ := hrel
        have HD := Lib.hid H
        by_cases hja : a < j
        · have d2 : decide ((a : Int) < (j : Int)) = true := decide_eq_true (by omega)
          obtain ⟨p, hp⟩ : ∃ p, p + 1 = j := ⟨j - 1, by omega⟩
          have e1 : (j : Int) - 1 = (p : Int) := by omega
          have hj0 : (0 : Int) ≤ (j : Int) := by omega
          have hj1 : (j : Int) < (n : Int) := by omega
          have hp0 : (0 : Int) ≤ (p : Int) := by omega
          have hp1 : (p : Int) < (n : Int) := by omega
          have cj := H.cell j (by omega)
          have cp := H.cell p (by omega)
          have fz := H.frz
          obtain ⟨x, hx⟩ : ∃ x, x = dj[j]! := ⟨_, rfl⟩
          obtain ⟨y, hy⟩ : ∃ y, y = dj[p]! := ⟨_, rfl⟩
          rw [← hx] at cj
          rw [← hy] at cp
          have HV := Lib.hid (And.intro hx hy)
          have HP := Lib.hid hp
          clear H hx hy hp
          cases hl : ltInt x y with
          | true =>
            have HL := Lib.hid hl
            go_wp2_with fail
            go_quiet ((go_at_call 58; exact Calls.quiet_of_same (less_u _ _ _)))
            go_wp2_with fail
            go_region
            go_wp2
            go_roundw
            case rel =>
              refine ⟨p, swp dj j p, rfl, by omega, by omega, ?_, Lib.hid ?_⟩
              · have h9 := (HD.out.drewN (nq + 1)).swap j p (by omega) (by omega)
                rw [← HV.out.1, ← HV.out.2] at h9
                exact h9
              · have h9 := insInner_go ltInt a j dj hja (by rw [← HP.out, Nat.add_sub_cancel, HP.out, ← HV.out.1, ← HV.out.2]; exact HL.out)
                rw [show j - 1 = p by have := HP.out; omega] at h9
                rw [← HI.out, h9]
            case measure => simp [intOf]; have := HP.out; omega
          | false =>
            have HL := Lib.hid hl
            go_wp2_with fail
            go_quiet ((go_at_call 58; exact Calls.quiet_of_same (less_u _ _ _)))
            go_wp2
            go_roundw
            case rel => exact ⟨i + 1, dj, by go_num, by omega, by omega, HD.out.drewN _, Lib.hid (by rw [← HO.out, insOuter_go _ _ _ _ _ hlt, ← HI.out, insInner_stop _ _ _ _ (Or.inr (by rw [← HP.out, Nat.add_sub_cancel, HP.out, ← HV.out.1, ← HV.out.2]; exact HL.out))])⟩
            case measure => simp [intOf]; omega
        · have d2 : decide ((a : Int) < (j : Int)) = false := decide_eq_false (by omega)
          clear H
          go_wp2_with fail
          go_quiet ((go_at_call 58; exact Calls.quiet_of_same (less_u _ _ _)))
          go_wp2
          go_roundw
          case rel => exact ⟨i + 1, dj, by go_num, by omega, by omega, HD.out.drewN _, Lib.hid (by rw [← HO.out, insOuter_go _ _ _ _ _ hlt, ← HI.out, insInner_stop _ _ _ _ (Or.inl (by omega))])⟩
          case measure => simp [intOf]; omega
    · have d1 : decide ((i : Int) < (b : Int)) = false := decide_eq_false (by omega)
      have H1 := Lib.hid H
      clear H
      go_wp2
      exact bodyPost_end (results_none rfl _ _ _) rfl ⟨rfl, by unfold insertionSort; rw [← HO.out, insOuter_stop _ _ _ _ _ hlt]; exact H1.out⟩
end Go.Proofs.YtdljphbfbiganaaDoor.So
/- siftDown -/
namespace Go.Proofs.YtdljphbfbiganaaDoor.So
open Go Go.RowKit Go.Sort Go.Proofs
set_option linter.unusedVariables false

set_option maxHeartbeats 4000000 in
set_option maxRecDepth 20000 in
theorem sift_any (g n cap : Nat) (hn : n < 4611686018427387904) (lo hi first : Nat) (hlo : lo ≤ hi) (hb : first + hi ≤ n) (d : Array Int) (w0 w : World) (H0 : AtO g n w0 d w) :
    Calls Tryd.prog 69 #[.slice (some ⟨g, 0, none⟩) n cap, .int .i64 (lo : Int), .int .i64 (hi : Int), .int .i64 (first : Int)] w fun e w' => e = .returned (.tuple #[]) ∧ AtO g n w0 (siftDown ltInt hi first lo d) w' := by
  go_enter Tryd.func69, Tryd.ntmps69
  have HH := Lib.hid H0
  clear H0
  go_wp2
  go_loopg [8] (hi - lo) (fun kx s8 wr => ∃ (root : Nat) (dk : Array Int), s8 = .int .i64 (root : Int) ∧ root ≤ hi ∧ hi - root ≤ kx ∧ AtO g n w0 dk wr ∧ Hid (siftDown ltInt hi first root dk = siftDown ltInt hi first lo d))
  case atStart => exact ⟨lo, d, rfl, hlo, Nat.le_refl _, HH.out, Lib.hid rfl⟩
  case round =>
    clear HH
    obtain ⟨root, dk, rfl, hr, hkx, H, HE⟩ := hrel
    have HD := Lib.hid H
    by_cases h0 : hi ≤ 2 * root + 1
    · have d0 : decide ((hi : Int) ≤ 2 * (root : Int) + 1) = true := decide_eq_true (by omega)
      have h0z : (hi : Int) ≤ 2 * (root : Int) + 1 := by omega
      clear H
      go_wp2
      go_end0
      exact ⟨rfl, by rw [← HE.out, sd_end ltInt dk h0]; exact HD.out⟩
    · have d0 : decide ((hi : Int) ≤ 2 * (root : Int) + 1) = false := decide_eq_false (by omega)
      have h0z : ¬ ((hi : Int) ≤ 2 * (root : Int) + 1) := by omega
      by_cases h1 : 2 * root + 2 < hi
      · have h1z : 2 * (root : Int) + 1 + 1 < (hi : Int) := by omega
        have hw1 : IntKind.i64.wrap (2 * (root : Int) + 1 + 1) = 2 * (root : Int) + 1 + 1 := by rw [IntKind.wrap_i64]; omega
        have hw2 : IntKind.i64.wrap ((first : Int) + (2 * (root : Int) + 1) + 1) = (first : Int) + (2 * (root : Int) + 1) + 1 := by rw [IntKind.wrap_i64]; omega
        have hw3 : IntKind.i64.wrap ((first : Int) + (2 * (root : Int) + 1)) = (first : Int) + (2 * (root : Int) + 1) := by rw [IntKind.wrap_i64]; omega
        have hw4 : IntKind.i64.wrap ((first : Int) + (2 * (root : Int) + 1 + 1)) = (first : Int) + (2 * (root : Int) + 1 + 1) := by rw [IntKind.wrap_i64]; omega
        cases hL : ltInt dk[first + (2 * root + 1)]! dk[first + (2 * root + 2)]! with
        | true =>
          have HL := Lib.hid hL
          obtain ⟨lf, hlf⟩ : ∃ lf : Nat, lf = first + (2 * root + 1) := ⟨_, rfl⟩
          have elf : (first : Int) + (2 * (root : Int) + 1) = (lf : Int) := by omega
          have wlf : IntKind.i64.wrap (lf : Int) = (lf : Int) := by rw [IntKind.wrap_i64]; omega
          have lf0 : (0 : Int) ≤ (lf : Int) := by omega
          have lf1 : (lf : Int) < (n : Int) := by omega
          have clf := H.cell lf (by omega)
          obtain ⟨u, hu⟩ : ∃ u, u = (dk)[lf]! := ⟨_, rfl⟩
          rw [← hu] at clf
          obtain ⟨rg, hrg⟩ : ∃ rg : Nat, rg = first + (2 * root + 2) := ⟨_, rfl⟩
          have erg : (lf : Int) + 1 = (rg : Int) := by omega
          have wrg : IntKind.i64.wrap (rg : Int) = (rg : Int) := by rw [IntKind.wrap_i64]; omega
          have rg0 : (0 : Int) ≤ (rg : Int) := by omega
          have rg1 : (rg : Int) < (n : Int) := by omega
          have crg := H.cell rg (by omega)
          obtain ⟨z, hz⟩ : ∃ z, z = (dk)[rg]! := ⟨_, rfl⟩
          rw [← hz] at crg
          have HLR := Lib.hid (And.intro (And.intro hlf hu) (And.intro hrg hz))
          have fz := H.frz
          have hl : ltInt u z = true := by rw [hu, hlf, hz, hrg]; exact hL
          clear hu hz hlf hrg hL
          go_wp2_with fail
          go_quiet ((go_at_call 58; exact Calls.quiet_of_same (less_u _ _ _)))
          go_upto_region 5 with fail
          have HD2 := Lib.hid (H.drewN nq)
          obtain ⟨w2, hw2⟩ : ∃ X, X = wr.drewN nq := ⟨_, rfl⟩
          rw [← hw2] at HD2 ⊢
          clear hw2 H elf erg wlf wrg
          clear clf crg lf0 lf1 rg0 rg1 hl fz
          cases hG : ltInt dk[first + root]! dk[first + (2 * root + 2)]! with
          | true =>
            obtain ⟨rt, hrt⟩ : ∃ rt : Nat, rt = first + root := ⟨_, rfl⟩
            have ert : (first : Int) + (root : Int) = (rt : Int) := by omega
            have wrt : IntKind.i64.wrap (rt : Int) = (rt : Int) := by rw [IntKind.wrap_i64]; omega
            have rt0 : (0 : Int) ≤ (rt : Int) := by omega
            have rt1 : (rt : Int) < (n : Int) := by omega
            have crt := HD2.out.cell rt (by omega)
            obtain ⟨x, hx⟩ : ∃ x, x = (dk)[rt]! := ⟨_, rfl⟩
            rw [← hx] at crt
            obtain ⟨ch, hch⟩ : ∃ ch : Nat, ch = first + (2 * root + 2) := ⟨_, rfl⟩
            have ech : (first : Int) + (2 * (root : Int) + 1 + 1) = (ch : Int) := by omega
            have wch : IntKind.i64.wrap (ch : Int) = (ch : Int) := by rw [IntKind.wrap_i64]; omega
            have ch0 : (0 : Int) ≤ (ch : Int) := by omega
            have ch1 : (ch : Int) < (n : Int) := by omega
            have cch := HD2.out.cell ch (by omega)
            obtain ⟨y, hy⟩ : ∃ y, y = (dk)[ch]! := ⟨_, rfl⟩
            rw [← hy] at cch
            have HPQ := Lib.hid (And.intro (And.intro hrt hx) (And.intro hch hy))
            have fz := HD2.out.frz
            have hl : ltInt x y = true := by rw [hx, hrt, hy, hch]; exact hG
            have HG := Lib.hid hG
            clear hx hy hrt hch hG
            go_wp2_with fail
            go_quiet ((go_at_call 58; exact Calls.quiet_of_same (less_u _ _ _)))
            go_wp2_with fail
            go_region
            have H3 := HD2.out.swapL HPQ.out (by omega) (by omega)
            go_wp2
            go_roundg (hi - (2 * root + 2))
            case measure => omega
            case rel => exact ⟨2 * root + 2, _, by go_num, by omega, Nat.le_refl _, H3 _, Lib.hid (by rw [← HE.out, sd_right_go ltInt dk h1 HL.out HG.out])⟩
          | false =>
            obtain ⟨rt, hrt⟩ : ∃ rt : Nat, rt = first + root := ⟨_, rfl⟩
            have ert : (first : Int) + (root : Int) = (rt : Int) := by omega
            have wrt : IntKind.i64.wrap (rt : Int) = (rt : Int) := by rw [IntKind.wrap_i64]; omega
            have rt0 : (0 : Int) ≤ (rt : Int) := by omega
            have rt1 : (rt : Int) < (n : Int) := by omega
            have crt := HD2.out.cell rt (by omega)
            obtain ⟨x, hx⟩ : ∃ x, x = (dk)[rt]! := ⟨_, rfl⟩
            rw [← hx] at crt
            obtain ⟨ch, hch⟩ : ∃ ch : Nat, ch = first + (2 * root + 2) := ⟨_, rfl⟩
            have ech : (first : Int) + (2 * (root : Int) + 1 + 1) = (ch : Int) := by omega
            have wch : IntKind.i64.wrap (ch : Int) = (ch : Int) := by rw [IntKind.wrap_i64]; omega
            have ch0 : (0 : Int) ≤ (ch : Int) := by omega
            have ch1 : (ch : Int) < (n : Int) := by omega
            have cch := HD2.out.cell ch (by omega)
            obtain ⟨y, hy⟩ : ∃ y, y = (dk)[ch]! := ⟨_, rfl⟩
            rw [← hy] at cch
            have HPQ := Lib.hid (And.intro (And.intro hrt hx) (And.intro hch hy))
            have fz := HD2.out.frz
            have hl : ltInt x y = false := by rw [hx, hrt, hy, hch]; exact hG
            have HG := Lib.hid hG
            clear hx hy hrt hch hG
            go_wp2_with fail
            go_quiet ((go_at_call 58; exact Calls.quiet_of_same (less_u _ _ _)))
            go_wp2
            (try simp only [Exit.inBlock, Exit.then]); refine bodyPost_ret (results_none rfl _ _ _) rfl ?_
            exact ⟨rfl, by rw [← HE.out, sd_right_stop ltInt dk h1 HL.out HG.out]; exact HD2.out.drewN _⟩
        | false =>
          have HL := Lib.hid hL
          obtain ⟨lf, hlf⟩ : ∃ lf : Nat, lf = first + (2 * root + 1) := ⟨_, rfl⟩
          have elf : (first : Int) + (2 * (root : Int) + 1) = (lf : Int) := by omega
          have wlf : IntKind.i64.wrap (lf : Int) = (lf : Int) := by rw [IntKind.wrap_i64]; omega
          have lf0 : (0 : Int) ≤ (lf : Int) := by omega
          have lf1 : (lf : Int) < (n : Int) := by omega
          have clf := H.cell lf (by omega)
          obtain ⟨u, hu⟩ : ∃ u, u = (dk)[lf]! := ⟨_, rfl⟩
          rw [← hu] at clf
          obtain ⟨rg, hrg⟩ : ∃ rg : Nat, rg = first + (2 * root + 2) := ⟨_, rfl⟩
          have erg : (lf : Int) + 1 = (rg : Int) := by omega
          have wrg : IntKind.i64.wrap (rg : Int) = (rg : Int) := by rw [IntKind.wrap_i64]; omega
          have rg0 : (0 : Int) ≤ (rg : Int) := by omega
          have rg1 : (rg : Int) < (n : Int) := by omega
          have crg := H.cell rg (by omega)
          obtain ⟨z, hz⟩ : ∃ z, z = (dk)[rg]! := ⟨_, rfl⟩
          rw [← hz] at crg
          have HLR := Lib.hid (And.intro (And.intro hlf hu) (And.intro hrg hz))
          have fz := H.frz
          have hl : ltInt u z = false := by rw [hu, hlf, hz, hrg]; exact hL
          clear hu hz hlf hrg hL
          go_wp2_with fail
          go_quiet ((go_at_call 58; exact Calls.quiet_of_same (less_u _ _ _)))
          go_upto_region 5 with fail
          have HD2 := Lib.hid (H.drewN nq)
          obtain ⟨w2, hw2⟩ : ∃ X, X = wr.drewN nq := ⟨_, rfl⟩
          rw [← hw2] at HD2 ⊢
          clear hw2 H elf erg wlf wrg
          clear clf crg lf0 lf1 rg0 rg1 hl fz
          cases hG : ltInt dk[first + root]! dk[first + (2 * root + 1)]! with
          | true =>
            obtain ⟨rt, hrt⟩ : ∃ rt : Nat, rt = first + root := ⟨_, rfl⟩
            have ert : (first : Int) + (root : Int) = (rt : Int) := by omega
            have wrt : IntKind.i64.wrap (rt : Int) = (rt : Int) := by rw [IntKind.wrap_i64]; omega
            have rt0 : (0 : Int) ≤ (rt : Int) := by omega
            have rt1 : (rt : Int) < (n : Int) := by omega
            have crt := HD2.out.cell rt (by omega)
            obtain ⟨x, hx⟩ : ∃ x, x = (dk)[rt]! := ⟨_, rfl⟩
            rw [← hx] at crt
            obtain ⟨ch, hch⟩ : ∃ ch : Nat, ch = first + (2 * root + 1) := ⟨_, rfl⟩
            have ech : (first : Int) + (2 * (root : Int) + 1) = (ch : Int) := by omega
            have wch : IntKind.i64.wrap (ch : Int) = (ch : Int) := by rw [IntKind.wrap_i64]; omega
            have ch0 : (0 : Int) ≤ (ch : Int) := by omega
            have ch1 : (ch : Int) < (n : Int) := by omega
            have cch := HD2.out.cell ch (by omega)
            obtain ⟨y, hy⟩ : ∃ y, y = (dk)[ch]! := ⟨_, rfl⟩
            rw [← hy] at cch
            have HPQ := Lib.hid (And.intro (And.intro hrt hx) (And.intro hch hy))
            have fz := HD2.out.frz
            have hl : ltInt x y = true := by rw [hx, hrt, hy, hch]; exact hG
            have HG := Lib.hid hG
            clear hx hy hrt hch hG
            go_wp2_with fail
            go_quiet ((go_at_call 58; exact Calls.quiet_of_same (less_u _ _ _)))
            go_wp2_with fail
            go_region
            have H3 := HD2.out.swapL HPQ.out (by omega) (by omega)
            go_wp2
            go_roundg (hi - (2 * root + 1))
            case measure => omega
            case rel => exact ⟨2 * root + 1, _, by go_num, by omega, Nat.le_refl _, H3 _, Lib.hid (by rw [← HE.out, sd_left_go ltInt dk (by omega) (fun _ => HL.out) HG.out])⟩
          | false =>
            obtain ⟨rt, hrt⟩ : ∃ rt : Nat, rt = first + root := ⟨_, rfl⟩
            have ert : (first : Int) + (root : Int) = (rt : Int) := by omega
            have wrt : IntKind.i64.wrap (rt : Int) = (rt : Int) := by rw [IntKind.wrap_i64]; omega
            have rt0 : (0 : Int) ≤ (rt : Int) := by omega
            have rt1 : (rt : Int) < (n : Int) := by omega
            have crt := HD2.out.cell rt (by omega)
            obtain ⟨x, hx⟩ : ∃ x, x = (dk)[rt]! := ⟨_, rfl⟩
            rw [← hx] at crt
            obtain ⟨ch, hch⟩ : ∃ ch : Nat, ch = first + (2 * root + 1) := ⟨_, rfl⟩
            have ech : (first : Int) + (2 * (root : Int) + 1) = (ch : Int) := by omega
            have wch : IntKind.i64.wrap (ch : Int) = (ch : Int) := by rw [IntKind.wrap_i64]; omega
            have ch0 : (0 : Int) ≤ (ch : Int) := by omega
            have ch1 : (ch : Int) < (n : Int) := by omega
            have cch := HD2.out.cell ch (by omega)
            obtain ⟨y, hy⟩ : ∃ y, y = (dk)[ch]! := ⟨_, rfl⟩
            rw [← hy] at cch
            have HPQ := Lib.hid (And.intro (And.intro hrt hx) (And.intro hch hy))
            have fz := HD2.out.frz
            have hl : ltInt x y = false := by rw [hx, hrt, hy, hch]; exact hG
            have HG := Lib.hid hG
            clear hx hy hrt hch hG
            go_wp2_with fail
            go_quiet ((go_at_call 58; exact Calls.quiet_of_same (less_u _ _ _)))
            go_wp2
            (try simp only [Exit.inBlock, Exit.then]); refine bodyPost_ret (results_none rfl _ _ _) rfl ?_
            exact ⟨rfl, by rw [← HE.out, sd_left_stop ltInt dk (by omega) (fun _ => HL.out) HG.out]; exact HD2.out.drewN _⟩
      · have d1 : decide (2 * (root : Int) + 1 + 1 < (hi : Int)) = false := decide_eq_false (by omega)
        clear H
        go_wp2_with fail
        go_quiet ((go_at_call 58; exact Calls.quiet_of_same (less_u _ _ _)))
        go_upto_region 5 with fail
        have HD2 := Lib.hid (HD.out.drewN nq)
        obtain ⟨w2, hw2⟩ : ∃ X, X = wr.drewN nq := ⟨_, rfl⟩
        rw [← hw2] at HD2 ⊢
        clear hw2
        cases hG : ltInt dk[first + root]! dk[first + (2 * root + 1)]! with
        | true =>
          obtain ⟨rt, hrt⟩ : ∃ rt : Nat, rt = first + root := ⟨_, rfl⟩
          have ert : (first : Int) + (root : Int) = (rt : Int) := by omega
          have wrt : IntKind.i64.wrap (rt : Int) = (rt : Int) := by rw [IntKind.wrap_i64]; omega
          have rt0 : (0 : Int) ≤ (rt : Int) := by omega
          have rt1 : (rt : Int) < (n : Int) := by omega
          have crt := HD2.out.cell rt (by omega)
          obtain ⟨x, hx⟩ : ∃ x, x = (dk)[rt]! := ⟨_, rfl⟩
          rw [← hx] at crt
          obtain ⟨ch, hch⟩ : ∃ ch : Nat, ch = first + (2 * root + 1) := ⟨_, rfl⟩
          have ech : (first : Int) + (2 * (root : Int) + 1) = (ch : Int) := by omega
          have wch : IntKind.i64.wrap (ch : Int) = (ch : Int) := by rw [IntKind.wrap_i64]; omega
          have ch0 : (0 : Int) ≤ (ch : Int) := by omega
          have ch1 : (ch : Int) < (n : Int) := by omega
          have cch := HD2.out.cell ch (by omega)
          obtain ⟨y, hy⟩ : ∃ y, y = (dk)[ch]! := ⟨_, rfl⟩
          rw [← hy] at cch
          have HPQ := Lib.hid (And.intro (And.intro hrt hx) (And.intro hch hy))
          have fz := HD2.out.frz
          have hl : ltInt x y = true := by rw [hx, hrt, hy, hch]; exact hG
          have HG := Lib.hid hG
          clear hx hy hrt hch hG
          go_wp2_with fail
          go_quiet ((go_at_call 58; exact Calls.quiet_of_same (less_u _ _ _)))
          go_wp2_with fail
          go_region
          have H3 := HD2.out.swapL HPQ.out (by omega) (by omega)
          go_wp2
          go_roundg (hi - (2 * root + 1))
          case measure => omega
          case rel => exact ⟨2 * root + 1, _, by go_num, by omega, Nat.le_refl _, H3 _, Lib.hid (by rw [← HE.out, sd_left_go ltInt dk (by omega) (fun h => absurd h h1) HG.out])⟩
        | false =>
          obtain ⟨rt, hrt⟩ : ∃ rt : Nat, rt = first + root := ⟨_, rfl⟩
          have ert : (first : Int) + (root : Int) = (rt : Int) := by omega
          have wrt : IntKind.i64.wrap (rt : Int) = (rt : Int) := by rw [IntKind.wrap_i64]; omega
          have rt0 : (0 : Int) ≤ (rt : Int) := by omega
          have rt1 : (rt : Int) < (n : Int) := by omega
          have crt := HD2.out.cell rt (by omega)
          obtain ⟨x, hx⟩ : ∃ x, x = (dk)[rt]! := ⟨_, rfl⟩
          rw [← hx] at crt
          obtain ⟨ch, hch⟩ : ∃ ch : Nat, ch = first + (2 * root + 1) := ⟨_, rfl⟩
          have ech : (first : Int) + (2 * (root : Int) + 1) = (ch : Int) := by omega
          have wch : IntKind.i64.wrap (ch : Int) = (ch : Int) := by rw [IntKind.wrap_i64]; omega
          have ch0 : (0 : Int) ≤ (ch : Int) := by omega
          have ch1 : (ch : Int) < (n : Int) := by omega
          have cch := HD2.out.cell ch (by omega)
          obtain ⟨y, hy⟩ : ∃ y, y = (dk)[ch]! := ⟨_, rfl⟩
          rw [← hy] at cch
          have HPQ := Lib.hid (And.intro (And.intro hrt hx) (And.intro hch hy))
          have fz := HD2.out.frz
          have hl : ltInt x y = false := by rw [hx, hrt, hy, hch]; exact hG
          have HG := Lib.hid hG
          clear hx hy hrt hch hG
          go_wp2_with fail
          go_quiet ((go_at_call 58; exact Calls.quiet_of_same (less_u _ _ _)))
          go_wp2
          (try simp only [Exit.inBlock, Exit.then]); refine bodyPost_ret (results_none rfl _ _ _) rfl ?_
          exact ⟨rfl, by rw [← HE.out, sd_left_stop ltInt dk (by omega) (fun h => absurd h h1) HG.out]; exact HD2.out.drewN _⟩
end Go.Proofs.YtdljphbfbiganaaDoor.So
/- heapSort -/
namespace Go.Proofs.YtdljphbfbiganaaDoor.So
open Go Go.RowKit Go.Sort Go.Proofs
set_option linter.unusedVariables false

set_option maxHeartbeats 4000000 in
set_option maxRecDepth 20000 in
theorem heap_any (g n cap : Nat) (hn : n < 4611686018427387904) (a b : Nat) (hab : a ≤ b) (hb : b ≤ n) (d : Array Int) (w0 w : World) (H0 : AtO g n w0 d w) :
    Calls Tryd.prog 53 #[.slice (some ⟨g, 0, none⟩) n cap, .int .i64 (a : Int), .int .i64 (b : Int)] w fun e w' => e = .returned (.tuple #[]) ∧ AtO g n w0 (heapSort ltInt d a b) w' := by
  have ecast : ((b - a : Nat) : Int) = (b : Int) - (a : Int) := by omega
  have HH := Lib.hid H0
  clear H0
  go_enter Tryd.func53, Tryd.ntmps53
  go_wp2
  go_loopg [9] ((b - a - 1) / 2 + 1) (fun kx s9 wr => s9 = .int .i64 ((kx : Int) - 1) ∧ kx ≤ (b - a - 1) / 2 + 1 ∧ ∃ (dk : Array Int), AtO g n w0 dk wr ∧ Hid (heapBuild ltInt (b - a) a kx dk = heapBuild ltInt (b - a) a ((b - a - 1) / 2 + 1) d))
  case atStart => exact ⟨by rw [half_start hab], Nat.le_refl _, d, HH.out, Lib.hid rfl⟩
  case round =>
    clear HH
    obtain ⟨rfl, hkk, dk, H, HE⟩ := hrel
    cases gk with
    | zero =>
      have hB : Hid (dk = heapBuild ltInt (b - a) a ((b - a - 1) / 2 + 1) d) := Lib.hid HE.out
      have HX := Lib.hid H
      clear HE hkk H
      go_wp2
      go_loopg [10] (b - a) (fun kx s10 wr2 => s10 = .int .i64 ((kx : Int) - 1) ∧ kx ≤ b - a ∧ ∃ (dj : Array Int), AtO g n w0 dj wr2 ∧ Hid (heapPop ltInt a kx dj = heapPop ltInt a (b - a) dk))
      case atStart => exact ⟨by rw [ecast], Nat.le_refl _, dk, HX.out, Lib.hid rfl⟩
      case round =>
        clear HX
        obtain ⟨rfl, hkk, dj, H, HE2⟩ := hrel
        have HD := Lib.hid H
        cases gk with
        | zero =>
          clear H
          go_wp2
          go_end0
          have e : dj = heapSort ltInt d a b := by rw [heapSort, ← hB.out, ← HE2.out]; rfl
          rw [← e]
          exact ⟨rfl, HD.out⟩
        | succ kx =>
          have a0 : (0 : Int) ≤ (a : Int) := by omega
          have a1 : (a : Int) < (n : Int) := by omega
          have ca := H.cell a (by omega)
          obtain ⟨x, hx⟩ : ∃ x, x = (dj)[a]! := ⟨_, rfl⟩
          rw [← hx] at ca
          obtain ⟨ak, hak⟩ : ∃ ak : Nat, ak = a + kx := ⟨_, rfl⟩
          have eak : (a : Int) + (kx : Int) = (ak : Int) := by omega
          have wak : IntKind.i64.wrap (ak : Int) = (ak : Int) := by rw [IntKind.wrap_i64]; omega
          have ak0 : (0 : Int) ≤ (ak : Int) := by omega
          have ak1 : (ak : Int) < (n : Int) := by omega
          have cak := H.cell ak (by omega)
          obtain ⟨y, hy⟩ : ∃ y, y = (dj)[ak]! := ⟨_, rfl⟩
          rw [← hy] at cak
          have HPQ := Lib.hid (And.intro (And.intro (Eq.refl a) hx) (And.intro hak hy))
          have fz := H.frz
          clear hx hy hak H
          have HS := Lib.hid (HD.out.swapL HPQ.out (by omega) (by omega))
          by_cases hpq : a = ak
          · subst hpq
            obtain rfl : x = y := by have h1 := ca.symm.trans cak; injection h1 with h1; injection h1
            go_wp2_with fail
            go_region
            go_wp2_with fail
            refine (sift_any g n cap hn 0 kx a (Nat.zero_le _) (by omega) (swp dj a (a + kx)) w0 _ (HS.out _)).mono ?_
            rintro _ w3 ⟨rfl, h3⟩
            have H3 := Lib.hid h3
            clear h3
            go_wp2
            go_roundg kx
            case measure => omega
            case rel => exact ⟨by go_num, by omega, siftDown ltInt kx a 0 (swp dj a (a + kx)), H3.out, Lib.hid HE2.out⟩
          · have hqp : ¬ ak = a := fun e => hpq e.symm
            go_wp2_with fail
            go_region
            go_wp2_with fail
            refine (sift_any g n cap hn 0 kx a (Nat.zero_le _) (by omega) (swp dj a (a + kx)) w0 _ (HS.out _)).mono ?_
            rintro _ w3 ⟨rfl, h3⟩
            have H3 := Lib.hid h3
            clear h3
            go_wp2
            go_roundg kx
            case measure => omega
            case rel => exact ⟨by go_num, by omega, siftDown ltInt kx a 0 (swp dj a (a + kx)), H3.out, Lib.hid HE2.out⟩
    | succ kx =>
      have hcall := sift_any g n cap hn kx (b - a) a (by omega) (by omega) dk w0 wr H
      rw [ecast] at hcall
      have HC := Lib.hid hcall
      clear hcall H
      go_wp2_with fail
      refine HC.out.mono ?_
      rintro _ w3 ⟨rfl, h3⟩
      have H3 := Lib.hid h3
      clear h3
      go_wp2
      go_roundg kx
      case measure => omega
      case rel => exact ⟨by go_num, by omega, siftDown ltInt (b - a) a kx dk, H3.out, Lib.hid HE.out⟩
end Go.Proofs.YtdljphbfbiganaaDoor.So
/- math/bits.Len (the shelf's contract laid), slices.nextPowerOfTwo, the random numbers of slices. -/
namespace Go.Proofs.YtdljphbfbiganaaDoor.So
open Go Go.RowKit Go.Sort Go.Proofs Go.Shelf Go.Lib
set_option linter.unusedVariables false

def laysLen_ren : Go.Shelf.Ren := ⟨fun | 125 => 44 | 128 => 61 | 129 => 62 | n => n, fun | 3 => 3 | 4 => 4 | 5 => 5 | 9 => 9 | 46 => 98 | 51 => 73 | 53 => 29 | n => n, fun | n => n⟩
theorem laysLen : Go.Proofs.Lays.n125 Tryd.prog laysLen_ren := {
  mixed := by kernel_rfl
  f125 := Tryd.func44.trans (congrArg some (by kernel_rfl))
  f128 := Tryd.func61.trans (congrArg some (by kernel_rfl))
  f129 := Tryd.func62.trans (congrArg some (by kernel_rfl))
  t3 := Tryd.underlying3
  a3 := Tryd.isAgg3
  z3 := Tryd.sizeOf3
  v3 := Tryd.zeroValue3
  t4 := Tryd.underlying4
  a4 := Tryd.isAgg4
  z4 := Tryd.sizeOf4
  v4 := Tryd.zeroValue4
  t5 := Tryd.underlying5
  a5 := Tryd.isAgg5
  z5 := Tryd.sizeOf5
  v5 := Tryd.zeroValue5
  t9 := Tryd.underlying9
  a9 := Tryd.isAgg9
  z9 := Tryd.sizeOf9
  v9 := Tryd.zeroValue9
  t46 := Tryd.underlying98
  a46 := Tryd.isAgg98
  z46 := Tryd.sizeOf98
  v46 := Tryd.zeroValue98
  t51 := Tryd.underlying73
  a51 := Tryd.isAgg73
  z51 := Tryd.sizeOf73
  v51 := Tryd.zeroValue73
  t53 := Tryd.underlying29
  a53 := Tryd.isAgg29
  z53 := Tryd.sizeOf29
  v53 := Tryd.zeroValue29 }
theorem blen (n : Nat) (hn : n < 4611686018427387904) (w : World) : Calls Tryd.prog 44 #[.int .u64 (n : Int)] w fun e w' => e = .returned (.int .i64 (bitsLen n : Nat)) ∧ w' = w := by
  have h := Any.bits_Len laysLen (n : Int) w (by omega) (by omega)
  rwa [Int.toNat_natCast, bitLen_eq _ (by omega)] at h
set_option maxRecDepth 20000 in
theorem npot (n : Nat) (hn : n < 4611686018427387904) (w : World) : Calls Tryd.prog 70 #[.int .i64 (n : Int)] w fun e w' => e = .returned (.int .u64 ((1 <<< bitsLen n : Nat) : Int)) ∧ w' = w := by
  have hk : bitsLen n ≤ 62 := (bitsLen_le_iff n 62).2 (by omega)
  have hp := wrap_two_pow (bitsLen n) hk
  have wr : IntKind.u64.wrap (n : Int) = n := by simp [IntKind.wrap, IntKind.bits, IntKind.signed]; omega
  have HL := Lib.hid (blen n hn)
  go_enter Tryd.func70, Tryd.ntmps70
  go_wp2_with fail
  refine (HL.out _).mono ?_
  rintro _ _ ⟨rfl, rfl⟩
  go_wp2
  go_ret
  exact ⟨rfl, rfl⟩
set_option maxHeartbeats 2000000 in
set_option maxRecDepth 20000 in
theorem xnext (K X : Nat) (hX : X < 18446744073709551616) (w : World) (hc : w.cell? ⟨K, 0, none⟩ = some (.int .u64 X)) (hf : w.frozen? ⟨K, 0, none⟩ = false) :
    Calls Tryd.prog 71 #[.pointer (some ⟨K, 0, none⟩)] w fun e w' => e = .returned (.int .u64 (xorNextN X : Nat)) ∧ w' = (w.setCell ⟨K, 0, none⟩ (.int .u64 (xorNextN X : Nat))).drewN 3 := by
  obtain ⟨A, hA⟩ : ∃ A : Nat, A = X ^^^ (X * 8192 % 18446744073709551616) := ⟨_, rfl⟩
  obtain ⟨B, hB⟩ : ∃ B : Nat, B = A ^^^ (A / 128) := ⟨_, rfl⟩
  obtain ⟨C, hC⟩ : ∃ C : Nat, C = B ^^^ (B * 131072 % 18446744073709551616) := ⟨_, rfl⟩
  have lA : A < 18446744073709551616 := by rw [hA]; exact Nat.xor_lt_two_pow (n := 64) (by omega) (by omega)
  have lB : B < 18446744073709551616 := by rw [hB]; exact Nat.xor_lt_two_pow (n := 64) (by omega) (by omega)
  have e1 : bits .xor .u64 (X : Int) (IntKind.u64.wrap ((X : Int) * 8192)) = (A : Int) := by
    rw [IntKind.wrap_u64, show ((X : Int) * 8192 % 18446744073709551616) = ((X * 8192 % 18446744073709551616 : Nat) : Int) by omega, bits_xor_u64_nat _ _ hX (by omega), hA]
  have e2 : bits .xor .u64 (A : Int) ((A : Int) / 128) = (B : Int) := by
    rw [show ((A : Int) / 128) = ((A / 128 : Nat) : Int) by omega, bits_xor_u64_nat _ _ lA (by omega), hB]
  have e3 : bits .xor .u64 (B : Int) (IntKind.u64.wrap ((B : Int) * 131072)) = (C : Int) := by
    rw [IntKind.wrap_u64, show ((B : Int) * 131072 % 18446744073709551616) = ((B * 131072 % 18446744073709551616 : Nat) : Int) by omega, bits_xor_u64_nat _ _ lB (by omega), hC]
  have hv : xorNextN X = C := by unfold xorNextN; simp only []; rw [← hA, ← hB, ← hC]
  rw [hv]
  clear hA hB hC hv
  have hss : ∀ v v', (w.setCell ⟨K, 0, none⟩ v).setCell ⟨K, 0, none⟩ v' = w.setCell ⟨K, 0, none⟩ v' := setCell_setCell w K 0
  go_enter Tryd.func71, Tryd.ntmps71
  go_wp2
  go_region
  all_goals go_wp2
  all_goals go_region
  all_goals go_wp2
  all_goals go_region
  all_goals go_wp2
  go_ret
  exact ⟨rfl, rfl⟩
end Go.Proofs.YtdljphbfbiganaaDoor.So
