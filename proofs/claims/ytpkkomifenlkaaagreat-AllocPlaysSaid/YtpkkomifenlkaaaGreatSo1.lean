import Derived.Test.YtpkkomifenlkaaaGreatCommon
import Derived.Below
import Derived.Calls
import Derived.Sort.Lot0
import Derived.Sort.LotA
import Derived.Laws.World
import Derived.Deep.LoopGhost
import Derived.WalkKit
import Derived.BigCall
import Derived.BigGuard
import Derived.BigQuiet
import Derived.Deep.QuietTactic
import Derived.CellFam
import Derived.Sort.WalkA
import Derived.Deep.RegionHeld3
import Derived.Sort.WalkB2
import Derived.Deep.CutBlock
import Derived.Deep.DeepCutAuto
import Derived.Sort.WalkB3
import Derived.Shelf.Small.Bits
import Derived.Sort.Walk7a
import Derived.Sort.Walk7
import Derived.Sort.LotD4
import Derived.Sort.LotD1
import Derived.Sort.Walk11
import Derived.Shelf.GgSortFunc.LotD
/- The library's sort of a row of numbers (slices.Sort at []uint64): the row while it is sorted, and cmp.Less. -/
namespace Go.Proofs.YtpkkomifenlkaaaGreat.So
open Go Go.RowKit Go.Sort

abbrev TU : Nat := 22
set_option maxRecDepth 20000 in
theorem nan_u (x : Int) (w : World) : Calls Tryz.prog 130 #[.int .u64 x] w fun e w' => e = .returned (.bool false) ∧ w' = w := by
  have h : (x != x) = false := by simp
  go_enter Tryz.func130, Tryz.ntmps130
  go_wp2
  go_ret
  exact ⟨rfl, rfl⟩
set_option maxRecDepth 20000 in
theorem less_u (x y : Int) (w : World) : Calls Tryz.prog 117 #[.int .u64 x, .int .u64 y] w fun e w' => e = .returned (.bool (ltInt x y)) ∧ w' = w := by
  unfold ltInt
  go_enter Tryz.func117, Tryz.ntmps117
  go_wp2_with fail
  refine (nan_u _ _).mono ?_
  rintro _ _ ⟨rfl, rfl⟩
  go_wp2
  go_ret
  exact ⟨rfl, rfl⟩
/-- the row in block g: d; all but it stands as in w0 -/
structure AtO (g n : Nat) (w0 : World) (d : Array Int) (W : World) : Prop where
  sz : d.size = n
  cell : ∀ t, t < n → W.cell? ⟨g, t, none⟩ = some (.int .u64 (d[t]!))
  shape : ∃ c0 c, w0.heap[g]? = some (.cells c0 TU (0, 0)) ∧ W.heap[g]? = some (.cells c TU (0, 0)) ∧ c.size = c0.size
  os : W.os = w0.os
  tape : W.tape = w0.tape
  output : W.output = w0.output
  size : w0.heap.size ≤ W.heap.size
  block : ∀ k, k < w0.heap.size → k ≠ g → W.heap[k]? = w0.heap[k]?
section
variable {g n : Nat} {w0 W V : World} {d : Array Int}
theorem AtO.start {c : Array Value} (hs : d.size = n) (hh : W.heap[g]? = some (.cells c TU (0, 0))) (hc : ∀ t, t < n → W.cell? ⟨g, t, none⟩ = some (.int .u64 (d[t]!))) : AtO g n W d W :=
  ⟨hs, hc, ⟨c, c, hh, hh, rfl⟩, rfl, rfl, rfl, Nat.le_refl _, fun _ _ _ => rfl⟩
theorem AtO.lt (H : AtO g n w0 d W) : g < W.heap.size := by
  obtain ⟨c0, c, h1, h2, h3⟩ := H.shape
  exact (Array.getElem?_eq_some_iff.1 h2).1
theorem AtO.frz (H : AtO g n w0 d W) (t : Nat) : W.frozen? ⟨g, t, none⟩ = false := by
  obtain ⟨c0, c, h1, h2, h3⟩ := H.shape
  simp [World.frozen?, h2]
theorem AtO.drewN (H : AtO g n w0 d W) (q : Nat) : AtO g n w0 d (W.drewN q) := ⟨H.sz, H.cell, H.shape, H.os, H.tape, H.output, H.size, H.block⟩
theorem AtO.below (H : AtO g n w0 d W) (b : Below W.heap.size W V) : AtO g n w0 d V := by
  have hl := H.lt
  obtain ⟨c0, c, h1, h2, h3⟩ := H.shape
  exact ⟨H.sz, fun t ht => (World.cell?_of_block (a := ⟨g, t, none⟩) (b.block g hl)).trans (H.cell t ht), ⟨c0, c, h1, (b.block g hl).trans h2, h3⟩, b.os.trans H.os, b.tape.trans H.tape, b.output.trans H.output, Nat.le_trans H.size b.size, fun k hk hne => (b.block k (Nat.lt_of_lt_of_le hk H.size)).trans (H.block k hk hne)⟩
theorem AtO.trans {d' : Array Int} (H : AtO g n w0 d W) (K : AtO g n W d' V) : AtO g n w0 d' V := by
  obtain ⟨c0, c, h1, h2, h3⟩ := H.shape
  obtain ⟨e0, e, k1, k2, k3⟩ := K.shape
  rw [h2] at k1
  injection k1 with k1
  injection k1 with k1 _ _
  subst k1
  exact ⟨K.sz, K.cell, ⟨c0, e, h1, k2, k3.trans h3⟩, K.os.trans H.os, K.tape.trans H.tape, K.output.trans H.output, Nat.le_trans H.size K.size, fun k hk hne => (K.block k (Nat.lt_of_lt_of_le hk H.size) hne).trans (H.block k hk hne)⟩
theorem AtO.set (H : AtO g n w0 d W) (i : Nat) (x : Int) (hi : i < n) : AtO g n w0 (d.setIfInBounds i x) (W.setCell ⟨g, i, none⟩ (.int .u64 x)) := by
  have hsz := H.sz
  obtain ⟨c0, c, h1, h2, h3⟩ := H.shape
  refine ⟨by simp [hsz], fun t ht => ?_, ⟨c0, c.setIfInBounds i (.int .u64 x), h1, ?_, by simp [h3]⟩, H.os, H.tape, H.output, by simpa using H.size, fun k hk hne => (Below.heap_setCell _ _ _ _ hne).trans (H.block k hk hne)⟩
  · by_cases e : t = i
    · subst e
      rw [World.cell?_setCell_same _ _ _ (H.cell t ht)]
      simp [hsz, ht]
    · have h4 : (W.setCell ⟨g, i, none⟩ (.int .u64 x)).cell? ⟨g, t, none⟩ = W.cell? ⟨g, t, none⟩ := World.cell?_setCell_other _ _ _ _ (by simp)
      rw [h4, H.cell t ht]
      congr 2
      simp [getElem!_def, Ne.symm e]
  · simp [World.setCell, Array.getElem?_modify, h2]
theorem AtO.swap (H : AtO g n w0 d W) (i j : Nat) (hi : i < n) (hj : j < n) : AtO g n w0 (swp d i j) ((W.setCell ⟨g, i, none⟩ (.int .u64 (d[j]!))).setCell ⟨g, j, none⟩ (.int .u64 (d[i]!))) :=
  (H.set i _ hi).set j _ hj
/-- the same by letters -/
theorem AtO.swapL (H : AtO g n w0 d W) {p q P Q : Nat} {x y : Int} (h : (p = P ∧ x = d[p]!) ∧ (q = Q ∧ y = d[q]!)) (hp : P < n) (hq : Q < n) (k : Nat) : AtO g n w0 (swp d P Q) (((W.drewN k).setCell ⟨g, p, none⟩ (.int .u64 y)).setCell ⟨g, q, none⟩ (.int .u64 x)) := by
  obtain ⟨⟨rfl, rfl⟩, rfl, rfl⟩ := h
  exact (H.drewN k).swap p q hp hq
/-- a cell of a block that was made since is set -/
theorem AtO.setNew (H : AtO g n w0 d W) {K i : Nat} {v : Value} (hK : w0.heap.size ≤ K) (hne : K ≠ g) : AtO g n w0 d (W.setCell ⟨K, i, none⟩ v) := by
  obtain ⟨c0, c, h1, h2, h3⟩ := H.shape
  have hb : ∀ k, k ≠ K → (W.setCell ⟨K, i, none⟩ v).heap[k]? = W.heap[k]? := fun k hk => Below.heap_setCell _ _ _ _ hk
  exact ⟨H.sz, fun t ht => (World.cell?_of_block (a := ⟨g, t, none⟩) (hb g hne.symm)).trans (H.cell t ht), ⟨c0, c, h1, (hb g hne.symm).trans h2, h3⟩, H.os, H.tape, H.output, by simpa using H.size, fun k hk h => (hb k (by omega)).trans (H.block k hk h)⟩
/-- beside the row a cell of its own in block K, made since: an int's or a u64's -/
structure CtO (g n : Nat) (w0 : World) (K : Nat) (d : Array Int) (v : Value) (W : World) : Prop where
  st : AtO g n w0 d W
  ne : K ≠ g
  new : w0.heap.size ≤ K
  lt : K < W.heap.size
  at_ : W.cell? ⟨K, 0, none⟩ = some v
  f : W.frozen? ⟨K, 0, none⟩ = false
theorem CtO.start {t : TypeId} (H : AtO g n w0 d W) (v : Value) : CtO g n w0 W.heap.size d v (W.alloc (.cells #[v] t)) := by
  have hb : Below W.heap.size W (W.alloc (.cells #[v] t)) := (Below.refl _ _).alloc (Nat.le_refl _) _
  refine ⟨H.below hb, by have := H.lt; omega, H.size, by simp, ?_, by simp⟩
  exact cell_of_row _ W.heap.size 0 #[v] t (0, 0) (heap_alloc_new W _)
theorem CtO.drewN {K : Nat} {v : Value} (H : CtO g n w0 K d v W) (q : Nat) : CtO g n w0 K d v (W.drewN q) := ⟨H.st.drewN q, H.ne, H.new, H.lt, by rw [World.cell?_drewN]; exact H.at_, by rw [World.frozen?_drewN]; exact H.f⟩
theorem CtO.turn {K : Nat} {v : Value} (H : CtO g n w0 K d v W) (v' : Value) : CtO g n w0 K d v' (W.setCell ⟨K, 0, none⟩ v') :=
  ⟨H.st.setNew H.new H.ne, H.ne, H.new, by simpa using H.lt, World.cell?_setCell_same _ _ _ H.at_, by simpa using H.f⟩
theorem CtO.swapL {K : Nat} {v : Value} (H : CtO g n w0 K d v W) {p q P Q : Nat} {x y : Int} (h : (p = P ∧ x = d[p]!) ∧ (q = Q ∧ y = d[q]!)) (hp : P < n) (hq : Q < n) (k : Nat) : CtO g n w0 K (swp d P Q) v (((W.drewN k).setCell ⟨g, p, none⟩ (.int .u64 y)).setCell ⟨g, q, none⟩ (.int .u64 x)) := by
  have hb : (((W.drewN k).setCell ⟨g, p, none⟩ (.int .u64 y)).setCell ⟨g, q, none⟩ (.int .u64 x)).heap[K]? = W.heap[K]? := (Below.heap_setCell _ _ _ _ H.ne).trans (Below.heap_setCell _ _ _ _ H.ne)
  exact ⟨H.st.swapL h hp hq k, H.ne, H.new, by simpa using H.lt, (World.cell?_of_block (a := ⟨K, 0, none⟩) hb).trans H.at_, (World.frozen?_of_block (a := ⟨K, 0, none⟩) hb).trans H.f⟩
end
end Go.Proofs.YtpkkomifenlkaaaGreat.So
/- insertionSort -/
namespace Go.Proofs.YtpkkomifenlkaaaGreat.So
open Go Go.RowKit Go.Sort
set_option linter.unusedVariables false

set_option maxHeartbeats 2000000 in
set_option maxRecDepth 20000 in
theorem ins_any (g n cap : Nat) (hn : n < 4611686018427387904) (a b : Nat) (hab : a ≤ b) (hb : b ≤ n) (d : Array Int) (w0 w : World) (H0 : AtO g n w0 d w) :
    Calls Tryz.prog 111 #[.slice (some ⟨g, 0, none⟩) n cap, .int .i64 (a : Int), .int .i64 (b : Int)] w fun e w' => e = .returned (.tuple #[]) ∧ AtO g n w0 (insertionSort ltInt d a b) w' := by
  go_enter Tryz.func111, Tryz.ntmps111
  have HH := Lib.hid H0
  clear H0
  go_wp2
  go_loopw [6] (fun vi wr => ∃ (i : Nat) (dk : Array Int), vi = .int .i64 (i : Int) ∧ a < i ∧ i ≤ b + 1 ∧ AtO g n w0 dk wr ∧ Hid (insOuter ltInt a b i dk = insOuter ltInt a b (a + 1) d)) (fun vi _ => b + 1 - (intOf vi).toNat)
  case atStart => exact ⟨a + 1, d, by go_num, by omega, by omega, HH.out, Lib.hid rfl⟩
  case round =>
    clear HH
    obtain ⟨i, dk, rfl, hai, hib, H, HO⟩ := hrel
    by_cases hlt : i < b
    · have d1 : decide ((i : Int) < (b : Int)) = true := decide_eq_true (by omega)
      have H1 := Lib.hid H
      clear H
      go_wp2
      go_loopw [7] (fun vj wr2 => ∃ (j : Nat) (dj : Array Int), vj = .int .i64 (j : Int) ∧ a ≤ j ∧ j ≤ i ∧ AtO g n w0 dj wr2 ∧ Hid (insInner ltInt a j dj = insInner ltInt a i dk)) (fun vj _ => (intOf vj).toNat)
      case atStart => exact ⟨i, dk, rfl, by omega, Nat.le_refl _, H1.out, Lib.hid rfl⟩
      case round =>
        clear H1
        obtain ⟨j, dj, rfl, haj, hji, H, HI⟩ := hrel
        have HD := Lib.hid H
        by_cases hja : a < j
        · have d2 : decide ((a : Int) < (j : Int)) = true := decide_eq_true (by omega)
          obtain ⟨p, hp⟩ : ∃ p, p + 1 = j := ⟨j - 1, by omega⟩
          have e1 : (j : Int) - 1 = (p : Int) := by omega
          have hj0 : (0 : Int) ≤ (j : Int) := by omega
          have hj1 : (j : Int) < (n : Int) := by omega
          have hp0 : (0 : Int) ≤ (p : Int) := by omega
          have hp1 : (p : Int) < (n : Int) := by omega
          have cj := H.cell j (by omega)
          have cp := H.cell p (by omega)
          have fz := H.frz
          obtain ⟨x, hx⟩ : ∃ x, x = dj[j]! := ⟨_, rfl⟩
          obtain ⟨y, hy⟩ : ∃ y, y = dj[p]! := ⟨_, rfl⟩
          rw [← hx] at cj
          rw [← hy] at cp
          have HV := Lib.hid (And.intro hx hy)
          have HP := Lib.hid hp
          clear H hx hy hp
          cases hl : ltInt x y with
          | true =>
            have HL := Lib.hid hl
            go_wp2_with fail
            go_quiet ((go_at_call 117; exact Calls.quiet_of_same (less_u _ _ _)))
            go_wp2_with fail
            go_region
            go_wp2
            go_roundw
            case rel =>
              refine ⟨p, swp dj j p, rfl, by omega, by omega, ?_, Lib.hid ?_⟩
              · have h9 := (HD.out.drewN (nq + 1)).swap j p (by omega) (by omega)
                rw [← HV.out.1, ← HV.out.2] at h9
                exact h9
              · have h9 := insInner_go ltInt a j dj hja (by rw [← HP.out, Nat.add_sub_cancel, HP.out, ← HV.out.1, ← HV.out.2]; exact HL.out)
                rw [show j - 1 = p by have := HP.out; omega] at h9
                rw [← HI.out, h9]
            case measure => simp [intOf]; have := HP.out; omega
          | false =>
            have HL := Lib.hid hl
            go_wp2_with fail
            go_quiet ((go_at_call 117; exact Calls.quiet_of_same (less_u _ _ _)))
            go_wp2
            go_roundw
            case rel => exact ⟨i + 1, dj, by go_num, by omega, by omega, HD.out.drewN _, Lib.hid (by rw [← HO.out, insOuter_go _ _ _ _ _ hlt, ← HI.out, insInner_stop _ _ _ _ (Or.inr (by rw [← HP.out, Nat.add_sub_cancel, HP.out, ← HV.out.1, ← HV.out.2]; exact HL.out))])⟩
            case measure => simp [intOf]; omega
        · have d2 : decide ((a : Int) < (j : Int)) = false := decide_eq_false (by omega)
          clear H
          go_wp2_with fail
          go_quiet ((go_at_call 117; exact Calls.quiet_of_same (less_u _ _ _)))
          go_wp2
          go_roundw
          case rel => exact ⟨i + 1, dj, by go_num, by omega, by omega, HD.out.drewN _, Lib.hid (by rw [← HO.out, insOuter_go _ _ _ _ _ hlt, ← HI.out, insInner_stop _ _ _ _ (Or.inl (by omega))])⟩
          case measure => simp [intOf]; omega
    · have d1 : decide ((i : Int) < (b : Int)) = false := decide_eq_false (by omega)
      have H1 := Lib.hid H
      clear H
      go_wp2
      exact bodyPost_end (results_none rfl _ _ _) rfl ⟨rfl, by unfold insertionSort; rw [← HO.out, insOuter_stop _ _ _ _ _ hlt]; exact H1.out⟩
end Go.Proofs.YtpkkomifenlkaaaGreat.So
/- siftDown -/
namespace Go.Proofs.YtpkkomifenlkaaaGreat.So
open Go Go.RowKit Go.Sort Go.Proofs
set_option linter.unusedVariables false

set_option maxHeartbeats 4000000 in
set_option maxRecDepth 20000 in
theorem sift_any (g n cap : Nat) (hn : n < 4611686018427387904) (lo hi first : Nat) (hlo : lo ≤ hi) (hb : first + hi ≤ n) (d : Array Int) (w0 w : World) (H0 : AtO g n w0 d w) :
    Calls Tryz.prog 125 #[.slice (some ⟨g, 0, none⟩) n cap, .int .i64 (lo : Int), .int .i64 (hi : Int), .int .i64 (first : Int)] w fun e w' => e = .returned (.tuple #[]) ∧ AtO g n w0 (siftDown ltInt hi first lo d) w' := by
  go_enter Tryz.func125, Tryz.ntmps125
  have HH := Lib.hid H0
  clear H0
  go_wp2
  go_loopg [8] (hi - lo) (fun kx s8 wr => ∃ (root : Nat) (dk : Array Int), s8 = .int .i64 (root : Int) ∧ root ≤ hi ∧ hi - root ≤ kx ∧ AtO g n w0 dk wr ∧ Hid (siftDown ltInt hi first root dk = siftDown ltInt hi first lo d))
  case atStart => exact ⟨lo, d, rfl, hlo, Nat.le_refl _, HH.out, Lib.hid rfl⟩
  case round =>
    clear HH
    obtain ⟨root, dk, rfl, hr, hkx, H, HE⟩ := hrel
    have HD := Lib.hid H
    by_cases h0 : hi ≤ 2 * root + 1
    · have d0 : decide ((hi : Int) ≤ 2 * (root : Int) + 1) = true := decide_eq_true (by omega)
      have h0z : (hi : Int) ≤ 2 * (root : Int) + 1 := by omega
      clear H
      go_wp2
      go_end0
      exact ⟨rfl, by rw [← HE.out, sd_end ltInt dk h0]; exact HD.out⟩
    · have d0 : decide ((hi : Int) ≤ 2 * (root : Int) + 1) = false := decide_eq_false (by omega)
      have h0z : ¬ ((hi : Int) ≤ 2 * (root : Int) + 1) := by omega
      by_cases h1 : 2 * root + 2 < hi
      · have h1z : 2 * (root : Int) + 1 + 1 < (hi : Int) := by omega
        have hw1 : IntKind.i64.wrap (2 * (root : Int) + 1 + 1) = 2 * (root : Int) + 1 + 1 := by rw [IntKind.wrap_i64]; omega
        have hw2 : IntKind.i64.wrap ((first : Int) + (2 * (root : Int) + 1) + 1) = (first : Int) + (2 * (root : Int) + 1) + 1 := by rw [IntKind.wrap_i64]; omega
        have hw3 : IntKind.i64.wrap ((first : Int) + (2 * (root : Int) + 1)) = (first : Int) + (2 * (root : Int) + 1) := by rw [IntKind.wrap_i64]; omega
        have hw4 : IntKind.i64.wrap ((first : Int) + (2 * (root : Int) + 1 + 1)) = (first : Int) + (2 * (root : Int) + 1 + 1) := by rw [IntKind.wrap_i64]; omega
        cases hL : ltInt dk[first + (2 * root + 1)]! dk[first + (2 * root + 2)]! with
        | true =>
          have HL := Lib.hid hL
          obtain ⟨lf, hlf⟩ : ∃ lf : Nat, lf = first + (2 * root + 1) := ⟨_, rfl⟩
          have elf : (first : Int) + (2 * (root : Int) + 1) = (lf : Int) := by omega
          have wlf : IntKind.i64.wrap (lf : Int) = (lf : Int) := by rw [IntKind.wrap_i64]; omega
          have lf0 : (0 : Int) ≤ (lf : Int) := by omega
          have lf1 : (lf : Int) < (n : Int) := by omega
          have clf := H.cell lf (by omega)
          obtain ⟨u, hu⟩ : ∃ u, u = (dk)[lf]! := ⟨_, rfl⟩
          rw [← hu] at clf
          obtain ⟨rg, hrg⟩ : ∃ rg : Nat, rg = first + (2 * root + 2) := ⟨_, rfl⟩
          have erg : (lf : Int) + 1 = (rg : Int) := by omega
          have wrg : IntKind.i64.wrap (rg : Int) = (rg : Int) := by rw [IntKind.wrap_i64]; omega
          have rg0 : (0 : Int) ≤ (rg : Int) := by omega
          have rg1 : (rg : Int) < (n : Int) := by omega
          have crg := H.cell rg (by omega)
          obtain ⟨z, hz⟩ : ∃ z, z = (dk)[rg]! := ⟨_, rfl⟩
          rw [← hz] at crg
          have HLR := Lib.hid (And.intro (And.intro hlf hu) (And.intro hrg hz))
          have fz := H.frz
          have hl : ltInt u z = true := by rw [hu, hlf, hz, hrg]; exact hL
          clear hu hz hlf hrg hL
          go_wp2_with fail
          go_quiet ((go_at_call 117; exact Calls.quiet_of_same (less_u _ _ _)))
          go_upto_region 5 with fail
          have HD2 := Lib.hid (H.drewN nq)
          obtain ⟨w2, hw2⟩ : ∃ X, X = wr.drewN nq := ⟨_, rfl⟩
          rw [← hw2] at HD2 ⊢
          clear hw2 H elf erg wlf wrg
          clear clf crg lf0 lf1 rg0 rg1 hl fz
          cases hG : ltInt dk[first + root]! dk[first + (2 * root + 2)]! with
          | true =>
            obtain ⟨rt, hrt⟩ : ∃ rt : Nat, rt = first + root := ⟨_, rfl⟩
            have ert : (first : Int) + (root : Int) = (rt : Int) := by omega
            have wrt : IntKind.i64.wrap (rt : Int) = (rt : Int) := by rw [IntKind.wrap_i64]; omega
            have rt0 : (0 : Int) ≤ (rt : Int) := by omega
            have rt1 : (rt : Int) < (n : Int) := by omega
            have crt := HD2.out.cell rt (by omega)
            obtain ⟨x, hx⟩ : ∃ x, x = (dk)[rt]! := ⟨_, rfl⟩
            rw [← hx] at crt
            obtain ⟨ch, hch⟩ : ∃ ch : Nat, ch = first + (2 * root + 2) := ⟨_, rfl⟩
            have ech : (first : Int) + (2 * (root : Int) + 1 + 1) = (ch : Int) := by omega
            have wch : IntKind.i64.wrap (ch : Int) = (ch : Int) := by rw [IntKind.wrap_i64]; omega
            have ch0 : (0 : Int) ≤ (ch : Int) := by omega
            have ch1 : (ch : Int) < (n : Int) := by omega
            have cch := HD2.out.cell ch (by omega)
            obtain ⟨y, hy⟩ : ∃ y, y = (dk)[ch]! := ⟨_, rfl⟩
            rw [← hy] at cch
            have HPQ := Lib.hid (And.intro (And.intro hrt hx) (And.intro hch hy))
            have fz := HD2.out.frz
            have hl : ltInt x y = true := by rw [hx, hrt, hy, hch]; exact hG
            have HG := Lib.hid hG
            clear hx hy hrt hch hG
            go_wp2_with fail
            go_quiet ((go_at_call 117; exact Calls.quiet_of_same (less_u _ _ _)))
            go_wp2_with fail
            go_region
            have H3 := HD2.out.swapL HPQ.out (by omega) (by omega)
            go_wp2
            go_roundg (hi - (2 * root + 2))
            case measure => omega
            case rel => exact ⟨2 * root + 2, _, by go_num, by omega, Nat.le_refl _, H3 _, Lib.hid (by rw [← HE.out, sd_right_go ltInt dk h1 HL.out HG.out])⟩
          | false =>
            obtain ⟨rt, hrt⟩ : ∃ rt : Nat, rt = first + root := ⟨_, rfl⟩
            have ert : (first : Int) + (root : Int) = (rt : Int) := by omega
            have wrt : IntKind.i64.wrap (rt : Int) = (rt : Int) := by rw [IntKind.wrap_i64]; omega
            have rt0 : (0 : Int) ≤ (rt : Int) := by omega
            have rt1 : (rt : Int) < (n : Int) := by omega
            have crt := HD2.out.cell rt (by omega)
            obtain ⟨x, hx⟩ : ∃ x, x = (dk)[rt]! := ⟨_, rfl⟩
            rw [← hx] at crt
            obtain ⟨ch, hch⟩ : ∃ ch : Nat, ch = first + (2 * root + 2) := ⟨_, rfl⟩
            have ech : (first : Int) + (2 * (root : Int) + 1 + 1) = (ch : Int) := by omega
            have wch : IntKind.i64.wrap (ch : Int) = (ch : Int) := by rw [IntKind.wrap_i64]; omega
            have ch0 : (0 : Int) ≤ (ch : Int) := by omega
            have ch1 : (ch : Int) < (n : Int) := by omega
            have cch := HD2.out.cell ch (by omega)
            obtain ⟨y, hy⟩ : ∃ y, y = (dk)[ch]! := ⟨_, rfl⟩
            rw [← hy] at cch
            have HPQ := Lib.hid (And.intro (And.intro hrt hx) (And.intro hch hy))
            have fz := HD2.out.frz
            have hl : ltInt x y = false := by rw [hx, hrt, hy, hch]; exact hG
            have HG := Lib.hid hG
            clear hx hy hrt hch hG
            go_wp2_with fail
            go_quiet ((go_at_call 117; exact Calls.quiet_of_same (less_u _ _ _)))
            go_wp2
            (try simp only [Exit.inBlock, Exit.then]); refine bodyPost_ret (results_none rfl _ _ _) rfl ?_
            exact ⟨rfl, by rw [← HE.out, sd_right_stop ltInt dk h1 HL.out HG.out]; exact HD2.out.drewN _⟩
        | false =>
          have HL := Lib.hid hL
          obtain ⟨lf, hlf⟩ : ∃ lf : Nat, lf = first + (2 * root + 1) := ⟨_, rfl⟩
          have elf : (first : Int) + (2 * (root : Int) + 1) = (lf : Int) := by omega
          have wlf : IntKind.i64.wrap (lf : Int) = (lf : Int) := by rw [IntKind.wrap_i64]; omega
          have lf0 : (0 : Int) ≤ (lf : Int) := by omega
          have lf1 : (lf : Int) < (n : Int) := by omega
          have clf := H.cell lf (by omega)
          obtain ⟨u, hu⟩ : ∃ u, u = (dk)[lf]! := ⟨_, rfl⟩
          rw [← hu] at clf
          obtain ⟨rg, hrg⟩ : ∃ rg : Nat, rg = first + (2 * root + 2) := ⟨_, rfl⟩
          have erg : (lf : Int) + 1 = (rg : Int) := by omega
          have wrg : IntKind.i64.wrap (rg : Int) = (rg : Int) := by rw [IntKind.wrap_i64]; omega
          have rg0 : (0 : Int) ≤ (rg : Int) := by omega
          have rg1 : (rg : Int) < (n : Int) := by omega
          have crg := H.cell rg (by omega)
          obtain ⟨z, hz⟩ : ∃ z, z = (dk)[rg]! := ⟨_, rfl⟩
          rw [← hz] at crg
          have HLR := Lib.hid (And.intro (And.intro hlf hu) (And.intro hrg hz))
          have fz := H.frz
          have hl : ltInt u z = false := by rw [hu, hlf, hz, hrg]; exact hL
          clear hu hz hlf hrg hL
          go_wp2_with fail
          go_quiet ((go_at_call 117; exact Calls.quiet_of_same (less_u _ _ _)))
          go_upto_region 5 with fail
          have HD2 := Lib.hid (H.drewN nq)
          obtain ⟨w2, hw2⟩ : ∃ X, X = wr.drewN nq := ⟨_, rfl⟩
          rw [← hw2] at HD2 ⊢
          clear hw2 H elf erg wlf wrg
          clear clf crg lf0 lf1 rg0 rg1 hl fz
          cases hG : ltInt dk[first + root]! dk[first + (2 * root + 1)]! with
          | true =>
            obtain ⟨rt, hrt⟩ : ∃ rt : Nat, rt = first + root := ⟨_, rfl⟩
            have ert : (first : Int) + (root : Int) = (rt : Int) := by omega
            have wrt : IntKind.i64.wrap (rt : Int) = (rt : Int) := by rw [IntKind.wrap_i64]; omega
            have rt0 : (0 : Int) ≤ (rt : Int) := by omega
            have rt1 : (rt : Int) < (n : Int) := by omega
            have crt := HD2.out.cell rt (by omega)
            obtain ⟨x, hx⟩ : ∃ x, x = (dk)[rt]! := ⟨_, rfl⟩
            rw [← hx] at crt
            obtain ⟨ch, hch⟩ : ∃ ch : Nat, ch = first + (2 * root + 1) := ⟨_, rfl⟩
            have ech : (first : Int) + (2 * (root : Int) + 1) = (ch : Int) := by omega
            have wch : IntKind.i64.wrap (ch : Int) = (ch : Int) := by rw [IntKind.wrap_i64]; omega
            have ch0 : (0 : Int) ≤ (ch : Int) := by omega
            have ch1 : (ch : Int) < (n : Int) := by omega
            have cch := HD2.out.cell ch (by omega)
            obtain ⟨y, hy⟩ : ∃ y, y = (dk)[ch]! := ⟨_, rfl⟩
            rw [← hy] at cch
            have HPQ := Lib.hid (And.intro (And.intro hrt hx) (And.intro hch hy))
            have fz := HD2.out.frz
            have hl : ltInt x y = true := by rw [hx, hrt, hy, hch]; exact hG
            have HG := Lib.hid hG
            clear hx hy hrt hch hG
            go_wp2_with fail
            go_quiet ((go_at_call 117; exact Calls.quiet_of_same (less_u _ _ _)))
            go_wp2_with fail
            go_region
            have H3 := HD2.out.swapL HPQ.out (by omega) (by omega)
            go_wp2
            go_roundg (hi - (2 * root + 1))
            case measure => omega
            case rel => exact ⟨2 * root + 1, _, by go_num, by omega, Nat.le_refl _, H3 _, Lib.hid (by rw [← HE.out, sd_left_go ltInt dk (by omega) (fun _ => HL.out) HG.out])⟩
          | false =>
            obtain ⟨rt, hrt⟩ : ∃ rt : Nat, rt = first + root := ⟨_, rfl⟩
            have ert : (first : Int) + (root : Int) = (rt : Int) := by omega
            have wrt : IntKind.i64.wrap (rt : Int) = (rt : Int) := by rw [IntKind.wrap_i64]; omega
            have rt0 : (0 : Int) ≤ (rt : Int) := by omega
            have rt1 : (rt : Int) < (n : Int) := by omega
            have crt := HD2.out.cell rt (by omega)
            obtain ⟨x, hx⟩ : ∃ x, x = (dk)[rt]! := ⟨_, rfl⟩
            rw [← hx] at crt
            obtain ⟨ch, hch⟩ : ∃ ch : Nat, ch = first + (2 * root + 1) := ⟨_, rfl⟩
            have ech : (first : Int) + (2 * (root : Int) + 1) = (ch : Int) := by omega
            have wch : IntKind.i64.wrap (ch : Int) = (ch : Int) := by rw [IntKind.wrap_i64]; omega
            have ch0 : (0 : Int) ≤ (ch : Int) := by omega
            have ch1 : (ch : Int) < (n : Int) := by omega
            have cch := HD2.out.cell ch (by omega)
            obtain ⟨y, hy⟩ : ∃ y, y = (dk)[ch]! := ⟨_, rfl⟩
            rw [← hy] at cch
            have HPQ := Lib.hid (And.intro (And.intro hrt hx) (And.intro hch hy))
            have fz := HD2.out.frz
            have hl : ltInt x y = false := by rw [hx, hrt, hy, hch]; exact hG
            have HG := Lib.hid hG
            clear hx hy hrt hch hG
            go_wp2_with fail
            go_quiet ((go_at_call 117; exact Calls.quiet_of_same (less_u _ _ _)))
            go_wp2
            (try simp only [Exit.inBlock, Exit.then]); refine bodyPost_ret (results_none rfl _ _ _) rfl ?_
            exact ⟨rfl, by rw [← HE.out, sd_left_stop ltInt dk (by omega) (fun _ => HL.out) HG.out]; exact HD2.out.drewN _⟩
      · have d1 : decide (2 * (root : Int) + 1 + 1 < (hi : Int)) = false := decide_eq_false (by omega)
        clear H
        go_wp2_with fail
        go_quiet ((go_at_call 117; exact Calls.quiet_of_same (less_u _ _ _)))
        go_upto_region 5 with fail
        have HD2 := Lib.hid (HD.out.drewN nq)
        obtain ⟨w2, hw2⟩ : ∃ X, X = wr.drewN nq := ⟨_, rfl⟩
        rw [← hw2] at HD2 ⊢
        clear hw2
        cases hG : ltInt dk[first + root]! dk[first + (2 * root + 1)]! with
        | true =>
          obtain ⟨rt, hrt⟩ : ∃ rt : Nat, rt = first + root := ⟨_, rfl⟩
          have ert : (first : Int) + (root : Int) = (rt : Int) := by omega
          have wrt : IntKind.i64.wrap (rt : Int) = (rt : Int) := by rw [IntKind.wrap_i64]; omega
          have rt0 : (0 : Int) ≤ (rt : Int) := by omega
          have rt1 : (rt : Int) < (n : Int) := by omega
          have crt := HD2.out.cell rt (by omega)
          obtain ⟨x, hx⟩ : ∃ x, x = (dk)[rt]! := ⟨_, rfl⟩
          rw [← hx] at crt
          obtain ⟨ch, hch⟩ : ∃ ch : Nat, ch = first + (2 * root + 1) := ⟨_, rfl⟩
          have ech : (first : Int) + (2 * (root : Int) + 1) = (ch : Int) := by omega
          have wch : IntKind.i64.wrap (ch : Int) = (ch : Int) := by rw [IntKind.wrap_i64]; omega
          have ch0 : (0 : Int) ≤ (ch : Int) := by omega
          have ch1 : (ch : Int) < (n : Int) := by omega
          have cch := HD2.out.cell ch (by omega)
          obtain ⟨y, hy⟩ : ∃ y, y = (dk)[ch]! := ⟨_, rfl⟩
          rw [← hy] at cch
          have HPQ := Lib.hid (And.intro (And.intro hrt hx) (And.intro hch hy))
          have fz := HD2.out.frz
          have hl : ltInt x y = true := by rw [hx, hrt, hy, hch]; exact hG
          have HG := Lib.hid hG
          clear hx hy hrt hch hG
          go_wp2_with fail
          go_quiet ((go_at_call 117; exact Calls.quiet_of_same (less_u _ _ _)))
          go_wp2_with fail
          go_region
          have H3 := HD2.out.swapL HPQ.out (by omega) (by omega)
          go_wp2
          go_roundg (hi - (2 * root + 1))
          case measure => omega
          case rel => exact ⟨2 * root + 1, _, by go_num, by omega, Nat.le_refl _, H3 _, Lib.hid (by rw [← HE.out, sd_left_go ltInt dk (by omega) (fun h => absurd h h1) HG.out])⟩
        | false =>
          obtain ⟨rt, hrt⟩ : ∃ rt : Nat, rt = first + root := ⟨_, rfl⟩
          have ert : (first : Int) + (root : Int) = (rt : Int) := by omega
          have wrt : IntKind.i64.wrap (rt : Int) = (rt : Int) := by rw [IntKind.wrap_i64]; omega
          have rt0 : (0 : Int) ≤ (rt : Int) := by omega
          have rt1 : (rt : Int) < (n : Int) := by omega
          have crt := HD2.out.cell rt (by omega)
          obtain ⟨x, hx⟩ : ∃ x, x = (dk)[rt]! := ⟨_, rfl⟩
          rw [← hx] at crt
          obtain ⟨ch, hch⟩ : ∃ ch : Nat, ch = first + (2 * root + 1) := ⟨_, rfl⟩
          have ech : (first : Int) + (2 * (root : Int) + 1) = (ch : Int) := by omega
          have wch : IntKind.i64.wrap (ch : Int) = (ch : Int) := by rw [IntKind.wrap_i64]; omega
          have ch0 : (0 : Int) ≤ (ch : Int) := by omega
          have ch1 : (ch : Int) < (n : Int) := by omega
          have cch := HD2.out.cell ch (by omega)
          obtain ⟨y, hy⟩ : ∃ y, y = (dk)[ch]! := ⟨_, rfl⟩
          rw [← hy] at cch
          have HPQ := Lib.hid (And.intro (And.intro hrt hx) (And.intro hch hy))
          have fz := HD2.out.frz
          have hl : ltInt x y = false := by rw [hx, hrt, hy, hch]; exact hG
          have HG := Lib.hid hG
          clear hx hy hrt hch hG
          go_wp2_with fail
          go_quiet ((go_at_call 117; exact Calls.quiet_of_same (less_u _ _ _)))
          go_wp2
          (try simp only [Exit.inBlock, Exit.then]); refine bodyPost_ret (results_none rfl _ _ _) rfl ?_
          exact ⟨rfl, by rw [← HE.out, sd_left_stop ltInt dk (by omega) (fun h => absurd h h1) HG.out]; exact HD2.out.drewN _⟩
end Go.Proofs.YtpkkomifenlkaaaGreat.So
/- heapSort -/
namespace Go.Proofs.YtpkkomifenlkaaaGreat.So
open Go Go.RowKit Go.Sort Go.Proofs
set_option linter.unusedVariables false

set_option maxHeartbeats 4000000 in
set_option maxRecDepth 20000 in
theorem heap_any (g n cap : Nat) (hn : n < 4611686018427387904) (a b : Nat) (hab : a ≤ b) (hb : b ≤ n) (d : Array Int) (w0 w : World) (H0 : AtO g n w0 d w) :
    Calls Tryz.prog 112 #[.slice (some ⟨g, 0, none⟩) n cap, .int .i64 (a : Int), .int .i64 (b : Int)] w fun e w' => e = .returned (.tuple #[]) ∧ AtO g n w0 (heapSort ltInt d a b) w' := by
  have ecast : ((b - a : Nat) : Int) = (b : Int) - (a : Int) := by omega
  have HH := Lib.hid H0
  clear H0
  go_enter Tryz.func112, Tryz.ntmps112
  go_wp2
  go_loopg [9] ((b - a - 1) / 2 + 1) (fun kx s9 wr => s9 = .int .i64 ((kx : Int) - 1) ∧ kx ≤ (b - a - 1) / 2 + 1 ∧ ∃ (dk : Array Int), AtO g n w0 dk wr ∧ Hid (heapBuild ltInt (b - a) a kx dk = heapBuild ltInt (b - a) a ((b - a - 1) / 2 + 1) d))
  case atStart => exact ⟨by rw [half_start hab], Nat.le_refl _, d, HH.out, Lib.hid rfl⟩
  case round =>
    clear HH
    obtain ⟨rfl, hkk, dk, H, HE⟩ := hrel
    cases gk with
    | zero =>
      have hB : Hid (dk = heapBuild ltInt (b - a) a ((b - a - 1) / 2 + 1) d) := Lib.hid HE.out
      have HX := Lib.hid H
      clear HE hkk H
      go_wp2
      go_loopg [10] (b - a) (fun kx s10 wr2 => s10 = .int .i64 ((kx : Int) - 1) ∧ kx ≤ b - a ∧ ∃ (dj : Array Int), AtO g n w0 dj wr2 ∧ Hid (heapPop ltInt a kx dj = heapPop ltInt a (b - a) dk))
      case atStart => exact ⟨by rw [ecast], Nat.le_refl _, dk, HX.out, Lib.hid rfl⟩
      case round =>
        clear HX
        obtain ⟨rfl, hkk, dj, H, HE2⟩ := hrel
        have HD := Lib.hid H
        cases gk with
        | zero =>
          clear H
          go_wp2
          go_end0
          have e : dj = heapSort ltInt d a b := by rw [heapSort, ← hB.out, ← HE2.out]; rfl
          rw [← e]
          exact ⟨rfl, HD.out⟩
        | succ kx =>
          have a0 : (0 : Int) ≤ (a : Int) := by omega
          have a1 : (a : Int) < (n : Int) := by omega
          have ca := H.cell a (by omega)
          obtain ⟨x, hx⟩ : ∃ x, x = (dj)[a]! := ⟨_, rfl⟩
          rw [← hx] at ca
          obtain ⟨ak, hak⟩ : ∃ ak : Nat, ak = a + kx := ⟨_, rfl⟩
          have eak : (a : Int) + (kx : Int) = (ak : Int) := by omega
          have wak : IntKind.i64.wrap (ak : Int) = (ak : Int) := by rw [IntKind.wrap_i64]; omega
          have ak0 : (0 : Int) ≤ (ak : Int) := by omega
          have ak1 : (ak : Int) < (n : Int) := by omega
          have cak := H.cell ak (by omega)
          obtain ⟨y, hy⟩ : ∃ y, y = (dj)[ak]! := ⟨_, rfl⟩
          rw [← hy] at cak
          have HPQ := Lib.hid (And.intro (And.intro (Eq.refl a) hx) (And.intro hak hy))
          have fz := H.frz
          clear hx hy hak H
          have HS := Lib.hid (HD.out.swapL HPQ.out (by omega) (by omega))
          by_cases hpq : a = ak
          · subst hpq
            obtain rfl : x = y := by have h1 := ca.symm.trans cak; injection h1 with h1; injection h1
            go_wp2_with fail
            go_region
            go_wp2_with fail
            refine (sift_any g n cap hn 0 kx a (Nat.zero_le _) (by omega) (swp dj a (a + kx)) w0 _ (HS.out _)).mono ?_
            rintro _ w3 ⟨rfl, h3⟩
            have H3 := Lib.hid h3
            clear h3
            go_wp2
            go_roundg kx
            case measure => omega
            case rel => exact ⟨by go_num, by omega, siftDown ltInt kx a 0 (swp dj a (a + kx)), H3.out, Lib.hid HE2.out⟩
          · have hqp : ¬ ak = a := fun e => hpq e.symm
            go_wp2_with fail
            go_region
            go_wp2_with fail
            refine (sift_any g n cap hn 0 kx a (Nat.zero_le _) (by omega) (swp dj a (a + kx)) w0 _ (HS.out _)).mono ?_
            rintro _ w3 ⟨rfl, h3⟩
            have H3 := Lib.hid h3
            clear h3
            go_wp2
            go_roundg kx
            case measure => omega
            case rel => exact ⟨by go_num, by omega, siftDown ltInt kx a 0 (swp dj a (a + kx)), H3.out, Lib.hid HE2.out⟩
    | succ kx =>
      have hcall := sift_any g n cap hn kx (b - a) a (by omega) (by omega) dk w0 wr H
      rw [ecast] at hcall
      have HC := Lib.hid hcall
      clear hcall H
      go_wp2_with fail
      refine HC.out.mono ?_
      rintro _ w3 ⟨rfl, h3⟩
      have H3 := Lib.hid h3
      clear h3
      go_wp2
      go_roundg kx
      case measure => omega
      case rel => exact ⟨by go_num, by omega, siftDown ltInt (b - a) a kx dk, H3.out, Lib.hid HE.out⟩
end Go.Proofs.YtpkkomifenlkaaaGreat.So
/- math/bits.Len (the shelf's contract laid), slices.nextPowerOfTwo, the random numbers of slices. -/
namespace Go.Proofs.YtpkkomifenlkaaaGreat.So
open Go Go.RowKit Go.Sort Go.Proofs Go.Shelf Go.Lib
set_option linter.unusedVariables false

def laysLen_ren : Go.Shelf.Ren := ⟨fun | 125 => 72 | 128 => 101 | 129 => 102 | n => n, fun | 3 => 3 | 4 => 4 | 5 => 5 | 9 => 9 | 46 => 138 | 51 => 63 | 53 => 22 | n => n, fun | n => n⟩
theorem laysLen : Go.Proofs.Lays.n125 Tryz.prog laysLen_ren := {
  mixed := by kernel_rfl
  f125 := Tryz.func72.trans (congrArg some (by kernel_rfl))
  f128 := Tryz.func101.trans (congrArg some (by kernel_rfl))
  f129 := Tryz.func102.trans (congrArg some (by kernel_rfl))
  t3 := Tryz.underlying3
  a3 := Tryz.isAgg3
  z3 := Tryz.sizeOf3
  v3 := Tryz.zeroValue3
  t4 := Tryz.underlying4
  a4 := Tryz.isAgg4
  z4 := Tryz.sizeOf4
  v4 := Tryz.zeroValue4
  t5 := Tryz.underlying5
  a5 := Tryz.isAgg5
  z5 := Tryz.sizeOf5
  v5 := Tryz.zeroValue5
  t9 := Tryz.underlying9
  a9 := Tryz.isAgg9
  z9 := Tryz.sizeOf9
  v9 := Tryz.zeroValue9
  t46 := Tryz.underlying138
  a46 := Tryz.isAgg138
  z46 := Tryz.sizeOf138
  v46 := Tryz.zeroValue138
  t51 := Tryz.underlying63
  a51 := Tryz.isAgg63
  z51 := Tryz.sizeOf63
  v51 := Tryz.zeroValue63
  t53 := Tryz.underlying22
  a53 := Tryz.isAgg22
  z53 := Tryz.sizeOf22
  v53 := Tryz.zeroValue22 }
theorem blen (n : Nat) (hn : n < 4611686018427387904) (w : World) : Calls Tryz.prog 72 #[.int .u64 (n : Int)] w fun e w' => e = .returned (.int .i64 (bitsLen n : Nat)) ∧ w' = w := by
  have h := Any.bits_Len laysLen (n : Int) w (by omega) (by omega)
  rwa [Int.toNat_natCast, bitLen_eq _ (by omega)] at h
set_option maxRecDepth 20000 in
theorem npot (n : Nat) (hn : n < 4611686018427387904) (w : World) : Calls Tryz.prog 126 #[.int .i64 (n : Int)] w fun e w' => e = .returned (.int .u64 ((1 <<< bitsLen n : Nat) : Int)) ∧ w' = w := by
  have hk : bitsLen n ≤ 62 := (bitsLen_le_iff n 62).2 (by omega)
  have hp := wrap_two_pow (bitsLen n) hk
  have wr : IntKind.u64.wrap (n : Int) = n := by simp [IntKind.wrap, IntKind.bits, IntKind.signed]; omega
  have HL := Lib.hid (blen n hn)
  go_enter Tryz.func126, Tryz.ntmps126
  go_wp2_with fail
  refine (HL.out _).mono ?_
  rintro _ _ ⟨rfl, rfl⟩
  go_wp2
  go_ret
  exact ⟨rfl, rfl⟩
set_option maxHeartbeats 2000000 in
set_option maxRecDepth 20000 in
theorem xnext (K X : Nat) (hX : X < 18446744073709551616) (w : World) (hc : w.cell? ⟨K, 0, none⟩ = some (.int .u64 X)) (hf : w.frozen? ⟨K, 0, none⟩ = false) :
    Calls Tryz.prog 127 #[.pointer (some ⟨K, 0, none⟩)] w fun e w' => e = .returned (.int .u64 (xorNextN X : Nat)) ∧ w' = (w.setCell ⟨K, 0, none⟩ (.int .u64 (xorNextN X : Nat))).drewN 3 := by
  obtain ⟨A, hA⟩ : ∃ A : Nat, A = X ^^^ (X * 8192 % 18446744073709551616) := ⟨_, rfl⟩
  obtain ⟨B, hB⟩ : ∃ B : Nat, B = A ^^^ (A / 128) := ⟨_, rfl⟩
  obtain ⟨C, hC⟩ : ∃ C : Nat, C = B ^^^ (B * 131072 % 18446744073709551616) := ⟨_, rfl⟩
  have lA : A < 18446744073709551616 := by rw [hA]; exact Nat.xor_lt_two_pow (n := 64) (by omega) (by omega)
  have lB : B < 18446744073709551616 := by rw [hB]; exact Nat.xor_lt_two_pow (n := 64) (by omega) (by omega)
  have e1 : bits .xor .u64 (X : Int) (IntKind.u64.wrap ((X : Int) * 8192)) = (A : Int) := by
    rw [IntKind.wrap_u64, show ((X : Int) * 8192 % 18446744073709551616) = ((X * 8192 % 18446744073709551616 : Nat) : Int) by omega, bits_xor_u64_nat _ _ hX (by omega), hA]
  have e2 : bits .xor .u64 (A : Int) ((A : Int) / 128) = (B : Int) := by
    rw [show ((A : Int) / 128) = ((A / 128 : Nat) : Int) by omega, bits_xor_u64_nat _ _ lA (by omega), hB]
  have e3 : bits .xor .u64 (B : Int) (IntKind.u64.wrap ((B : Int) * 131072)) = (C : Int) := by
    rw [IntKind.wrap_u64, show ((B : Int) * 131072 % 18446744073709551616) = ((B * 131072 % 18446744073709551616 : Nat) : Int) by omega, bits_xor_u64_nat _ _ lB (by omega), hC]
  have hv : xorNextN X = C := by unfold xorNextN; simp only []; rw [← hA, ← hB, ← hC]
  rw [hv]
  clear hA hB hC hv
  have hss : ∀ v v', (w.setCell ⟨K, 0, none⟩ v).setCell ⟨K, 0, none⟩ v' = w.setCell ⟨K, 0, none⟩ v' := setCell_setCell w K 0
  go_enter Tryz.func127, Tryz.ntmps127
  go_wp2
  go_region
  all_goals go_wp2
  all_goals go_region
  all_goals go_wp2
  all_goals go_region
  all_goals go_wp2
  go_ret
  exact ⟨rfl, rfl⟩
end Go.Proofs.YtpkkomifenlkaaaGreat.So
/- order2, median, medianAdjacent, choosePivot -/
namespace Go.Proofs.YtpkkomifenlkaaaGreat.So
open Go Go.RowKit Go.Sort Go.Proofs Go.Lib
set_option linter.unusedVariables false

set_option maxHeartbeats 1000000 in
set_option maxRecDepth 20000 in
theorem ord_any (g n cap : Nat) (hn : n < 4611686018427387904) (a b K s : Nat) (ha : a < n) (hb : b < n) (hs : s < 4611686018427387904) (d : Array Int) (w0 w : World) (H0 : CtO g n w0 K d (.int .i64 (s : Int)) w) :
    Calls Tryz.prog 132 #[.slice (some ⟨g, 0, none⟩) n cap, .int .i64 (a : Int), .int .i64 (b : Int), .pointer (some ⟨K, 0, none⟩)] w fun e w' => e = .returned (.tuple #[.int .i64 ((order2 ltInt d a b s).1 : Int), .int .i64 ((order2 ltInt d a b s).2.1 : Int)]) ∧ CtO g n w0 K d (.int .i64 (((order2 ltInt d a b s).2.2 : Nat) : Int)) w' := by
  have HD := Lib.hid H0
  cases hlv : ltInt d[b]! d[a]! with
  | true =>
    have e2 : order2 ltInt d a b s = (b, a, s + 1) := by simp [order2, hlv]
    rw [e2]
    have b0 : (0 : Int) ≤ (b : Int) := by omega
    have b1 : (b : Int) < (n : Int) := by omega
    have cb := H0.st.cell b (by omega)
    obtain ⟨x, hx⟩ : ∃ x, x = (d)[b]! := ⟨_, rfl⟩
    rw [← hx] at cb
    have a0 : (0 : Int) ≤ (a : Int) := by omega
    have a1 : (a : Int) < (n : Int) := by omega
    have ca := H0.st.cell a (by omega)
    obtain ⟨y, hy⟩ : ∃ y, y = (d)[a]! := ⟨_, rfl⟩
    rw [← hy] at ca
    have HPQ := Lib.hid (And.intro (And.intro (Eq.refl b) hx) (And.intro (Eq.refl a) hy))
    have fz := H0.st.frz
    have hl : ltInt x y = true := by rw [hx, hy]; exact hlv
    clear hx hy hlv e2 H0
    go_enter Tryz.func132, Tryz.ntmps132
    go_wp2_with fail
    go_quiet ((go_at_call 117; exact Calls.quiet_of_same (less_u _ _ _)))
    rw [hl]
    have H1 := Lib.hid (HD.out.drewN nq)
    obtain ⟨w1, hw1⟩ : ∃ X, X = w.drewN nq := ⟨_, rfl⟩
    rw [← hw1] at H1 ⊢
    clear hw1
    have k0 := H1.out.at_
    have k1 := H1.out.f
    have H2 := Lib.hid (H1.out.turn (.int .i64 ((s : Int) + 1)))
    go_wp2
    refine bodyPost_ret (v := .tuple #[.int .i64 (b : Int), .int .i64 (a : Int)]) (by simp [results, Tryz.results132, go_sem]) rfl ?_
    refine ⟨rfl, ?_⟩
    show CtO g n w0 K d (.int .i64 ((s + 1 : Nat) : Int)) _
    rw [show ((s + 1 : Nat) : Int) = (s : Int) + 1 by omega]
    exact H2.out
  | false =>
    have e2 : order2 ltInt d a b s = (a, b, s) := by simp [order2, hlv]
    rw [e2]
    have b0 : (0 : Int) ≤ (b : Int) := by omega
    have b1 : (b : Int) < (n : Int) := by omega
    have cb := H0.st.cell b (by omega)
    obtain ⟨x, hx⟩ : ∃ x, x = (d)[b]! := ⟨_, rfl⟩
    rw [← hx] at cb
    have a0 : (0 : Int) ≤ (a : Int) := by omega
    have a1 : (a : Int) < (n : Int) := by omega
    have ca := H0.st.cell a (by omega)
    obtain ⟨y, hy⟩ : ∃ y, y = (d)[a]! := ⟨_, rfl⟩
    rw [← hy] at ca
    have HPQ := Lib.hid (And.intro (And.intro (Eq.refl b) hx) (And.intro (Eq.refl a) hy))
    have fz := H0.st.frz
    have hl : ltInt x y = false := by rw [hx, hy]; exact hlv
    clear hx hy hlv e2 H0
    go_enter Tryz.func132, Tryz.ntmps132
    go_wp2_with fail
    go_quiet ((go_at_call 117; exact Calls.quiet_of_same (less_u _ _ _)))
    rw [hl]
    have H1 := Lib.hid (HD.out.drewN nq)
    go_wp2
    refine bodyPost_ret (v := .tuple #[.int .i64 (a : Int), .int .i64 (b : Int)]) (by simp [results, Tryz.results132, go_sem]) rfl ?_
    exact ⟨rfl, H1.out⟩
set_option maxHeartbeats 1000000 in
set_option maxRecDepth 20000 in
theorem med_any (g n cap : Nat) (hn : n < 4611686018427387904) (a b c K s : Nat) (ha : a < n) (hb : b < n) (hc : c < n) (hs : s + 3 < 4611686018427387904) (d : Array Int) (w0 w : World) (H0 : CtO g n w0 K d (.int .i64 (s : Int)) w) :
    Calls Tryz.prog 129 #[.slice (some ⟨g, 0, none⟩) n cap, .int .i64 (a : Int), .int .i64 (b : Int), .int .i64 (c : Int), .pointer (some ⟨K, 0, none⟩)] w fun e w' => e = .returned (.int .i64 ((median ltInt d a b c s).1 : Int)) ∧ CtO g n w0 K d (.int .i64 (((median ltInt d a b c s).2 : Nat) : Int)) w' := by
  have l1 := order2_lt' ltInt d s ha hb
  have s1 := order2_swaps' ltInt d a b s
  have l2 := order2_lt' ltInt d (order2 ltInt d a b s).2.2 l1.2 hc
  have s2 := order2_swaps' ltInt d (order2 ltInt d a b s).2.1 c (order2 ltInt d a b s).2.2
  unfold median
  simp only []
  obtain ⟨p1, p2, p3, hp⟩ : ∃ p1 p2 p3, order2 ltInt d a b s = (p1, p2, p3) := ⟨_, _, _, rfl⟩
  have st1 := ord_any g n cap hn a b K s ha hb (by omega) d w0 w H0
  rw [hp] at l1 s1 l2 s2 st1 ⊢
  simp only [] at l1 s1 l2 s2 st1 ⊢
  obtain ⟨q1, q2, q3, hq⟩ : ∃ q1 q2 q3, order2 ltInt d p2 c p3 = (q1, q2, q3) := ⟨_, _, _, rfl⟩
  rw [hq] at l2 s2 ⊢
  simp only [] at l2 s2 ⊢
  obtain ⟨r1, r2, r3, hr⟩ : ∃ r1 r2 r3, order2 ltInt d p1 q1 q3 = (r1, r2, r3) := ⟨_, _, _, rfl⟩
  rw [hr]
  have HQ : Hid (order2 ltInt d p2 c p3 = (q1, q2, q3)) := Lib.hid hq
  have HR : Hid (order2 ltInt d p1 q1 q3 = (r1, r2, r3)) := Lib.hid hr
  have HS := Lib.hid st1
  have HL := Lib.hid (And.intro l1 (And.intro l2 (And.intro s1 s2)))
  clear hp hq hr st1 l1 l2 s1 s2 H0
  go_enter Tryz.func129, Tryz.ntmps129
  go_wp2_with fail
  refine HS.out.mono ?_
  rintro _ w1 ⟨rfl, h1⟩
  have st2 := ord_any g n cap hn p2 c K p3 HL.out.1.2 hc (by have := HL.out; omega) d w0 w1 h1
  rw [HQ.out] at st2
  have HS2 := Lib.hid st2
  clear st2 h1 HS
  go_wp2_with fail
  refine HS2.out.mono ?_
  rintro _ w2 ⟨rfl, h2⟩
  have st3 := ord_any g n cap hn p1 q1 K q3 HL.out.1.1 HL.out.2.1.1 (by have := HL.out; omega) d w0 w2 h2
  rw [HR.out] at st3
  have HS3 := Lib.hid st3
  clear st3 h2 HS2
  go_wp2_with fail
  refine HS3.out.mono ?_
  rintro _ w3 ⟨rfl, h3⟩
  have H3 := Lib.hid h3
  clear h3 HS3
  go_wp2
  go_ret
  exact ⟨rfl, H3.out⟩
set_option maxHeartbeats 1000000 in
set_option maxRecDepth 20000 in
theorem mad_any (g n cap : Nat) (hn : n < 4611686018427387904) (a K s : Nat) (ha1 : 1 ≤ a) (ha2 : a + 1 < n) (hs : s + 3 < 4611686018427387904) (d : Array Int) (w0 w : World) (H0 : CtO g n w0 K d (.int .i64 (s : Int)) w) :
    Calls Tryz.prog 128 #[.slice (some ⟨g, 0, none⟩) n cap, .int .i64 (a : Int), .pointer (some ⟨K, 0, none⟩)] w fun e w' => e = .returned (.int .i64 ((medianAdjacent ltInt d a s).1 : Int)) ∧ CtO g n w0 K d (.int .i64 (((medianAdjacent ltInt d a s).2 : Nat) : Int)) w' := by
  have hm := med_any g n cap hn (a - 1) a (a + 1) K s (by omega) (by omega) ha2 hs d w0 w H0
  rw [show ((a - 1 : Nat) : Int) = (a : Int) - 1 by omega, show ((a + 1 : Nat) : Int) = (a : Int) + 1 by omega] at hm
  unfold medianAdjacent
  generalize median ltInt d (a - 1) a (a + 1) s = m at hm ⊢
  have HM := Lib.hid hm
  clear hm H0
  go_enter Tryz.func128, Tryz.ntmps128
  go_wp2_with fail
  refine HM.out.mono ?_
  rintro _ w1 ⟨rfl, h1⟩
  have H1 := Lib.hid h1
  clear h1 HM
  go_wp2
  go_ret
  exact ⟨rfl, H1.out⟩
set_option maxHeartbeats 4000000 in
set_option maxRecDepth 20000 in
theorem piv_any (g n cap : Nat) (hn : n < 4611686018427387904) (a b : Nat) (hab : a < b) (hb : b ≤ n) (d : Array Int) (w0 w : World) (H0 : AtO g n w0 d w) :
    Calls Tryz.prog 114 #[.slice (some ⟨g, 0, none⟩) n cap, .int .i64 (a : Int), .int .i64 (b : Int)] w fun e w' => e = .returned (.tuple #[.int .i64 ((choosePivot ltInt d a b).1 : Int), .int .i64 (hintCode (choosePivot ltInt d a b).2)]) ∧ AtO g n w0 (d) w' := by
  have HS0 := Lib.hid (CtO.start (t := 3) H0 (.int .i64 ((0 : Nat) : Int)))
  obtain ⟨x, hx⟩ : ∃ x, x = w.heap.size := ⟨_, rfl⟩
  obtain ⟨w1, hw1⟩ : ∃ X, X = w.alloc (.cells #[.int .i64 0] 3) := ⟨_, rfl⟩
  rw [show (w.alloc (.cells #[.int .i64 ((0 : Nat) : Int)] 3)) = w1 from hw1.symm, ← hx] at HS0
  clear H0
  rw [choosePivot_eq]
  obtain ⟨I, hI⟩ : ∃ I : Nat, I = a + (b - a) / 4 * 1 := ⟨_, rfl⟩
  obtain ⟨J, hJ⟩ : ∃ J : Nat, J = a + (b - a) / 4 * 2 := ⟨_, rfl⟩
  obtain ⟨K, hK⟩ : ∃ K : Nat, K = a + (b - a) / 4 * 3 := ⟨_, rfl⟩
  have eI : ((a : Int) + ((b : Int) - (a : Int)) / 4) = (I : Int) := by omega
  have eJ : ((a : Int) + ((b : Int) - (a : Int)) / 4 * 2) = (J : Int) := by omega
  have eK : ((a : Int) + ((b : Int) - (a : Int)) / 4 * 3) = (K : Int) := by omega
  by_cases h8 : b - a ≥ 8
  · by_cases h50 : b - a ≥ 50
    · obtain ⟨i1, s1, h1⟩ : ∃ i1 s1, medianAdjacent ltInt d I 0 = (i1, s1) := ⟨_, _, rfl⟩
      obtain ⟨j1, s2, h2⟩ : ∃ j1 s2, medianAdjacent ltInt d J s1 = (j1, s2) := ⟨_, _, rfl⟩
      obtain ⟨k1, s3, h3⟩ : ∃ k1 s3, medianAdjacent ltInt d K s2 = (k1, s3) := ⟨_, _, rfl⟩
      obtain ⟨p, s, h4⟩ : ∃ p s, median ltInt d i1 j1 k1 s3 = (p, s) := ⟨_, _, rfl⟩
      have hraw : rawPivot ltInt d a b = (p, s) := by simp only [rawPivot, if_pos h8, if_pos h50, ← hI, ← hJ, ← hK, h1, h2, h3, h4]
      have m1 := medianAdjacent_mem ltInt d I 0; rw [h1] at m1
      have m2 := medianAdjacent_mem ltInt d J s1; rw [h2] at m2
      have m3 := medianAdjacent_mem ltInt d K s2; rw [h3] at m3
      have n1 := medianAdjacent_count ltInt d I 0; rw [h1] at n1
      have n2 := medianAdjacent_count ltInt d J s1; rw [h2] at n2
      have n3 := medianAdjacent_count ltInt d K s2; rw [h3] at n3
      simp only [] at m1 m2 m3 n1 n2 n3
      have N1 : Hid (∀ W, CtO g n w0 x d (.int .i64 ((0 : Nat) : Int)) W → Calls Tryz.prog 128 #[.slice (some ⟨g, 0, none⟩) n cap, .int .i64 (I : Int), .pointer (some ⟨x, 0, none⟩)] W fun e w' => e = .returned (.int .i64 (i1 : Int)) ∧ CtO g n w0 x d (.int .i64 ((s1 : Nat) : Int)) w') := Lib.hid (fun W h => by have h := mad_any g n cap hn I x 0 (by omega) (by omega) (by omega) d w0 W h; rw [h1] at h; exact h)
      have N2 : Hid (∀ W, CtO g n w0 x d (.int .i64 ((s1 : Nat) : Int)) W → Calls Tryz.prog 128 #[.slice (some ⟨g, 0, none⟩) n cap, .int .i64 (J : Int), .pointer (some ⟨x, 0, none⟩)] W fun e w' => e = .returned (.int .i64 (j1 : Int)) ∧ CtO g n w0 x d (.int .i64 ((s2 : Nat) : Int)) w') := Lib.hid (fun W h => by have h := mad_any g n cap hn J x s1 (by omega) (by omega) (by omega) d w0 W h; rw [h2] at h; exact h)
      have N3 : Hid (∀ W, CtO g n w0 x d (.int .i64 ((s2 : Nat) : Int)) W → Calls Tryz.prog 128 #[.slice (some ⟨g, 0, none⟩) n cap, .int .i64 (K : Int), .pointer (some ⟨x, 0, none⟩)] W fun e w' => e = .returned (.int .i64 (k1 : Int)) ∧ CtO g n w0 x d (.int .i64 ((s3 : Nat) : Int)) w') := Lib.hid (fun W h => by have h := mad_any g n cap hn K x s2 (by omega) (by omega) (by omega) d w0 W h; rw [h3] at h; exact h)
      have N4 : Hid (∀ W, CtO g n w0 x d (.int .i64 ((s3 : Nat) : Int)) W → Calls Tryz.prog 129 #[.slice (some ⟨g, 0, none⟩) n cap, .int .i64 (i1 : Int), .int .i64 (j1 : Int), .int .i64 (k1 : Int), .pointer (some ⟨x, 0, none⟩)] W fun e w' => e = .returned (.int .i64 (p : Int)) ∧ CtO g n w0 x d (.int .i64 ((s : Nat) : Int)) w') := Lib.hid (fun W h => by have h := med_any g n cap hn i1 j1 k1 x s3 (by omega) (by omega) (by omega) (by omega) d w0 W h; rw [h4] at h; exact h)
      rw [hraw]
      obtain ⟨Hc, hHc⟩ : ∃ Hc : Int, Hc = hintCode (hintOf s) := ⟨_, rfl⟩
      have hh0 : s = 0 → Hc = 1 := fun h => by rw [hHc, h]; rfl
      have hh12 : s = 12 → Hc = 2 := fun h => by rw [hHc, h]; rfl
      have hhx : s ≠ 0 → s ≠ 12 → Hc = 0 := fun h1 h2 => by rw [hHc]; unfold hintOf; rw [if_neg h1, if_neg h2]; rfl
      simp only []
      rw [← hHc]
      have HH := Lib.hid (And.intro hh0 (And.intro hh12 hhx))
      clear hHc hh0 hh12 hhx
      have h8z : (8 : Int) ≤ (b : Int) - (a : Int) := by omega
      have h50z : (50 : Int) ≤ (b : Int) - (a : Int) := by omega
      clear hraw h1 h2 h3 h4 hI hJ hK m1 m2 m3 n1 n2 n3
      go_enter Tryz.func114, Tryz.ntmps114
      go_upto_region 3 with fail
      rw [← hw1, ← hx]
      clear hw1 hx
      go_wp2_with fail
      refine (N1.out _ HS0.out).mono ?_
      rintro _ v1 ⟨rfl, h1⟩
      have H1 := Lib.hid h1
      clear h1
      go_wp2_with fail
      refine (N2.out _ H1.out).mono ?_
      rintro _ v2 ⟨rfl, h2⟩
      have H2 := Lib.hid h2
      clear h2
      go_wp2_with fail
      refine (N3.out _ H2.out).mono ?_
      rintro _ v3 ⟨rfl, h3⟩
      have H3 := Lib.hid h3
      clear h3
      go_wp2_with fail
      refine (N4.out _ H3.out).mono ?_
      rintro _ v4 ⟨rfl, h4⟩
      have H4 := Lib.hid h4
      clear h4
      have HF := Lib.hid H4.out
      clear H1 H2 H3 H4 N1 N2 N3 N4 HS0 eI eJ eK
      have k9 := HF.out.at_
      rcases (show s = 0 ∨ s = 12 ∨ (s ≠ 0 ∧ s ≠ 12) by omega) with hs0 | hs0 | ⟨hs0, hs1⟩
      · obtain rfl : Hc = 1 := HH.out.1 hs0
        have b0 : (s : Int) = 0 := by omega
        go_wp2
        refine bodyPost_ret (v := .tuple #[.int .i64 (p : Int), .int .i64 1]) (by simp [results, Tryz.results114, go_sem]) rfl ?_
        exact ⟨rfl, HF.out.st⟩
      · obtain rfl : Hc = 2 := HH.out.2.1 hs0
        have b0 : (s : Int) = 12 := by omega
        go_wp2
        refine bodyPost_ret (v := .tuple #[.int .i64 (p : Int), .int .i64 2]) (by simp [results, Tryz.results114, go_sem]) rfl ?_
        exact ⟨rfl, HF.out.st⟩
      · obtain rfl : Hc = 0 := HH.out.2.2 hs0 hs1
        have b0 : ((s : Int) == 0) = false := by simp; omega
        have b1 : ((s : Int) == 12) = false := by simp; omega
        have b2 : ¬ (s : Int) = 0 := by omega
        have b3 : ¬ (s : Int) = 12 := by omega
        go_wp2
        refine bodyPost_ret (v := .tuple #[.int .i64 (p : Int), .int .i64 0]) (by simp [results, Tryz.results114, go_sem]) rfl ?_
        exact ⟨rfl, HF.out.st⟩
    · obtain ⟨p, s, h4⟩ : ∃ p s, median ltInt d I J K 0 = (p, s) := ⟨_, _, rfl⟩
      have hraw : rawPivot ltInt d a b = (p, s) := by simp only [rawPivot, if_pos h8, if_neg h50, ← hI, ← hJ, ← hK, h4]
      have N4 : Hid (∀ W, CtO g n w0 x d (.int .i64 ((0 : Nat) : Int)) W → Calls Tryz.prog 129 #[.slice (some ⟨g, 0, none⟩) n cap, .int .i64 (I : Int), .int .i64 (J : Int), .int .i64 (K : Int), .pointer (some ⟨x, 0, none⟩)] W fun e w' => e = .returned (.int .i64 (p : Int)) ∧ CtO g n w0 x d (.int .i64 ((s : Nat) : Int)) w') := Lib.hid (fun W h => by have h := med_any g n cap hn I J K x 0 (by omega) (by omega) (by omega) (by omega) d w0 W h; rw [h4] at h; exact h)
      rw [hraw]
      obtain ⟨Hc, hHc⟩ : ∃ Hc : Int, Hc = hintCode (hintOf s) := ⟨_, rfl⟩
      have hh0 : s = 0 → Hc = 1 := fun h => by rw [hHc, h]; rfl
      have hh12 : s = 12 → Hc = 2 := fun h => by rw [hHc, h]; rfl
      have hhx : s ≠ 0 → s ≠ 12 → Hc = 0 := fun h1 h2 => by rw [hHc]; unfold hintOf; rw [if_neg h1, if_neg h2]; rfl
      simp only []
      rw [← hHc]
      have HH := Lib.hid (And.intro hh0 (And.intro hh12 hhx))
      clear hHc hh0 hh12 hhx
      have h8z : (8 : Int) ≤ (b : Int) - (a : Int) := by omega
      have h50z : ¬ (50 : Int) ≤ (b : Int) - (a : Int) := by omega
      clear hraw h4 hI hJ hK
      go_enter Tryz.func114, Tryz.ntmps114
      go_upto_region 3 with fail
      rw [← hw1, ← hx]
      clear hw1 hx
      go_wp2_with fail
      refine (N4.out _ HS0.out).mono ?_
      rintro _ v4 ⟨rfl, h4⟩
      have H4 := Lib.hid h4
      clear h4
      have HF := Lib.hid H4.out
      clear H4 N4 HS0 eI eJ eK
      have k9 := HF.out.at_
      rcases (show s = 0 ∨ s = 12 ∨ (s ≠ 0 ∧ s ≠ 12) by omega) with hs0 | hs0 | ⟨hs0, hs1⟩
      · obtain rfl : Hc = 1 := HH.out.1 hs0
        have b0 : (s : Int) = 0 := by omega
        go_wp2
        refine bodyPost_ret (v := .tuple #[.int .i64 (p : Int), .int .i64 1]) (by simp [results, Tryz.results114, go_sem]) rfl ?_
        exact ⟨rfl, HF.out.st⟩
      · obtain rfl : Hc = 2 := HH.out.2.1 hs0
        have b0 : (s : Int) = 12 := by omega
        go_wp2
        refine bodyPost_ret (v := .tuple #[.int .i64 (p : Int), .int .i64 2]) (by simp [results, Tryz.results114, go_sem]) rfl ?_
        exact ⟨rfl, HF.out.st⟩
      · obtain rfl : Hc = 0 := HH.out.2.2 hs0 hs1
        have b0 : ((s : Int) == 0) = false := by simp; omega
        have b1 : ((s : Int) == 12) = false := by simp; omega
        have b2 : ¬ (s : Int) = 0 := by omega
        have b3 : ¬ (s : Int) = 12 := by omega
        go_wp2
        refine bodyPost_ret (v := .tuple #[.int .i64 (p : Int), .int .i64 0]) (by simp [results, Tryz.results114, go_sem]) rfl ?_
        exact ⟨rfl, HF.out.st⟩
  · have hraw : rawPivot ltInt d a b = (J, 0) := by simp only [rawPivot, if_neg h8, ← hJ]
    have hh : hintCode (hintOf 0) = 1 := rfl
    rw [hraw]
    simp only []
    rw [hh]
    have h8z : ¬ (8 : Int) ≤ (b : Int) - (a : Int) := by omega
    have HF := Lib.hid HS0.out
    have k9 : w1.cell? ⟨x, 0, none⟩ = some (.int .i64 0) := HS0.out.at_
    clear hraw hh hI hJ hK
    go_enter Tryz.func114, Tryz.ntmps114
    go_upto_region 3 with fail
    rw [← hw1, ← hx]
    clear hw1 hx
    go_wp2
    refine bodyPost_ret (v := .tuple #[.int .i64 (J : Int), .int .i64 1]) (by simp [results, Tryz.results114, go_sem]) rfl ?_
    exact ⟨rfl, HF.out.st⟩
end Go.Proofs.YtpkkomifenlkaaaGreat.So
/- breakPatterns -/
namespace Go.Proofs.YtpkkomifenlkaaaGreat.So
open Go Go.RowKit Go.Sort Go.Proofs Go.Lib
set_option linter.unusedVariables false

set_option maxHeartbeats 4000000 in
set_option maxRecDepth 20000 in
/-- The arm 'length >= 8', b written as a + M. -/
theorem brk_go (g n cap : Nat) (hn : n < 4611686018427387904) (a M : Nat) (h8 : 8 ≤ M) (hb : a + M ≤ n) (d : Array Int) (w0 w : World) (H0 : AtO g n w0 d w) :
    Calls Tryz.prog 113 #[.slice (some ⟨g, 0, none⟩) n cap, .int .i64 (a : Int), .int .i64 ((a + M : Nat) : Int)] w fun e w' => e = .returned (.tuple #[]) ∧ AtO g n w0 (breakPatterns d a (a + M)) w' := by
  rw [breakPatterns_eq d a M h8]
  obtain ⟨Q, hQ⟩ : ∃ Q : Nat, Q = 1 <<< bitsLen M := ⟨_, rfl⟩
  have hQ1 : 1 ≤ Q := by rw [hQ, Nat.one_shiftLeft]; exact Nat.two_pow_pos _
  have hQ2 : Q ≤ 2 * M := by rw [hQ, Nat.one_shiftLeft]; exact two_pow_bitsLen_le (by omega)
  have HNP := Lib.hid (fun w => npot M (by omega) w)
  rw [← hQ] at HNP ⊢
  clear hQ
  have hMz : ((a : Int) + (M : Int) - (a : Int)) = (M : Int) := by omega
  have h8z : (8 : Int) ≤ (M : Int) := by omega
  have HS0 := Lib.hid (CtO.start (t := 180) H0 (.int .u64 (M : Int)))
  obtain ⟨K, hK⟩ : ∃ K, K = w.heap.size := ⟨_, rfl⟩
  obtain ⟨w1, hw1⟩ : ∃ X, X = w.alloc (.cells #[.int .u64 (M : Int)] 180) := ⟨_, rfl⟩
  rw [← hK, ← hw1] at HS0
  have hwM : IntKind.u64.wrap (M : Int) = (M : Int) := by rw [IntKind.wrap_u64]; omega
  clear H0
  go_enter Tryz.func113, Tryz.ntmps113
  go_upto_region 3 with fail
  rw [← hw1, ← hK]
  clear hw1 hK hwM
  go_wp2_with fail
  refine (HNP.out _).mono ?_
  rintro _ _ ⟨rfl, rfl⟩
  go_wp2
  go_loopg [9] 3 (fun g1 vi wr => ∃ (t : Nat) (r : UInt64) (dk : Array Int), vi = .int .i64 ((a : Int) + (M : Int) / 4 * 2 - 1 + (t : Int)) ∧ t ≤ 3 ∧ 3 - t ≤ g1 ∧ CtO g n w0 K dk (.int .u64 (r.toNat : Int)) wr ∧
      Hid (bpRest a M Q (a + M / 4 * 2 - 1) (3 - t) t (r, dk) = bpRest a M Q (a + M / 4 * 2 - 1) 3 0 (UInt64.ofNat M, d)))
  case atStart =>
    refine ⟨0, UInt64.ofNat M, d, by simp, by omega, by omega, ?_, Lib.hid rfl⟩
    rw [show (UInt64.ofNat M).toNat = M from by simp; omega]
    exact HS0.out
  case round =>
    clear HS0 HNP
    obtain ⟨t, r, dk, rfl, ht, hg1, H, HR⟩ := hrel
    by_cases ht3 : t < 3
    · have hle : (a : Int) + (M : Int) / 4 * 2 - 1 + (t : Int) ≤ (a : Int) + (M : Int) / 4 * 2 + 1 := by omega
      obtain ⟨R, hRr⟩ : ∃ R : Nat, R = r.toNat := ⟨_, rfl⟩
      have lR : R < 18446744073709551616 := by rw [hRr]; exact r.toNat_lt
      obtain ⟨R', hR'⟩ : ∃ R' : Nat, R' = xorNextN R := ⟨_, rfl⟩
      have lR' : R' < 18446744073709551616 := by rw [hR']; exact xorNextN_lt R lR
      obtain ⟨O, hO⟩ : ∃ O : Nat, O = R' &&& (Q - 1) := ⟨_, rfl⟩
      have lO : O ≤ Q - 1 := by rw [hO]; exact Nat.and_le_right
      have eAnd : bits .and .u64 (R' : Int) ((Q : Int) - 1) = (O : Int) := by
        rw [show ((Q : Int) - 1) = ((Q - 1 : Nat) : Int) by omega, bits_and_u64_nat _ _ lR' (by omega), hO]
      rw [← hRr] at H
      have hNext := xnext K R lR wr H.at_ H.f
      rw [← hR'] at hNext
      have HN : Hid (R' = (xorNext r).toNat ∧ O = (xorNext r).toNat &&& (Q - 1)) := Lib.hid (by
        have e : R' = (xorNext r).toNat := by rw [hR', hRr, xorNext_toNat]
        exact ⟨e, by rw [hO, e]⟩)
      have S2 := Lib.hid ((H.turn (.int .u64 (R' : Int))).drewN 3)
      clear hRr hR' hO
      generalize (wr.setCell ⟨K, 0, none⟩ (.int .u64 (R' : Int))).drewN 3 = w2 at hNext S2
      have HNx := Lib.hid hNext
      have hwO : IntKind.i64.wrap (O : Int) = (O : Int) := by rw [IntKind.wrap_i64]; omega
      have hwQ : IntKind.u64.wrap ((Q : Int) - 1) = (Q : Int) - 1 := by rw [IntKind.wrap_u64]; omega
      clear H hNext lR'
      by_cases hMO : M ≤ O
      · have hMOz : (M : Int) ≤ (O : Int) := by omega
        go_wp2_with fail
        refine HNx.out.mono ?_
        rintro _ _ ⟨rfl, rfl⟩
        go_upto_region 10 with fail
        obtain ⟨ix, hix⟩ : ∃ ix : Nat, ix = a + M / 4 * 2 - 1 + t := ⟨_, rfl⟩
        have eix : (a : Int) + (M : Int) / 4 * 2 - 1 + (t : Int) = (ix : Int) := by omega
        have wix : IntKind.i64.wrap (ix : Int) = (ix : Int) := by rw [IntKind.wrap_i64]; omega
        have ix0 : (0 : Int) ≤ (ix : Int) := by omega
        have ix1 : (ix : Int) < (n : Int) := by omega
        have cix := S2.out.st.cell ix (by omega)
        obtain ⟨x, hx⟩ : ∃ x, x = (dk)[ix]! := ⟨_, rfl⟩
        rw [← hx] at cix
        obtain ⟨ao, hao⟩ : ∃ ao : Nat, ao = a + (O - M) := ⟨_, rfl⟩
        have eao : (a : Int) + ((O : Int) - (M : Int)) = (ao : Int) := by omega
        have wao : IntKind.i64.wrap (ao : Int) = (ao : Int) := by rw [IntKind.wrap_i64]; omega
        have ao0 : (0 : Int) ≤ (ao : Int) := by omega
        have ao1 : (ao : Int) < (n : Int) := by omega
        have cao := S2.out.st.cell ao (by omega)
        obtain ⟨y, hy⟩ : ∃ y, y = (dk)[ao]! := ⟨_, rfl⟩
        rw [← hy] at cao
        have HPQ := Lib.hid (And.intro (And.intro hix hx) (And.intro hao hy))
        have fz := S2.out.st.frz
        clear hx hy hix hao HNx
        have HS := Lib.hid (S2.out.swapL HPQ.out (by omega) (by omega))
        by_cases hpq : ix = ao
        · subst hpq
          obtain rfl : x = y := by have h1 := cix.symm.trans cao; injection h1 with h1; injection h1
          go_region
          go_wp2
          go_roundg (3 - (t + 1))
          case measure => omega
          case rel => exact ⟨t + 1, xorNext r, swp dk (a + M / 4 * 2 - 1 + t) (a + (O - M)), by congr 1; push_cast; omega, by omega, Nat.le_refl _, by rw [← HN.out.1]; exact HS.out _,
            Lib.hid (by rw [← HR.out, bp_step a M Q _ t r dk (O - M) ht3 (by rw [← HN.out.2, if_pos (by omega)])])⟩
        · have hqp : ¬ ao = ix := fun e => hpq e.symm
          go_region
          go_wp2
          go_roundg (3 - (t + 1))
          case measure => omega
          case rel => exact ⟨t + 1, xorNext r, swp dk (a + M / 4 * 2 - 1 + t) (a + (O - M)), by congr 1; push_cast; omega, by omega, Nat.le_refl _, by rw [← HN.out.1]; exact HS.out _,
            Lib.hid (by rw [← HR.out, bp_step a M Q _ t r dk (O - M) ht3 (by rw [← HN.out.2, if_pos (by omega)])])⟩
      · have hMOz : ¬ (M : Int) ≤ (O : Int) := by omega
        go_wp2_with fail
        refine HNx.out.mono ?_
        rintro _ _ ⟨rfl, rfl⟩
        go_upto_region 10 with fail
        obtain ⟨ix, hix⟩ : ∃ ix : Nat, ix = a + M / 4 * 2 - 1 + t := ⟨_, rfl⟩
        have eix : (a : Int) + (M : Int) / 4 * 2 - 1 + (t : Int) = (ix : Int) := by omega
        have wix : IntKind.i64.wrap (ix : Int) = (ix : Int) := by rw [IntKind.wrap_i64]; omega
        have ix0 : (0 : Int) ≤ (ix : Int) := by omega
        have ix1 : (ix : Int) < (n : Int) := by omega
        have cix := S2.out.st.cell ix (by omega)
        obtain ⟨x, hx⟩ : ∃ x, x = (dk)[ix]! := ⟨_, rfl⟩
        rw [← hx] at cix
        obtain ⟨ao, hao⟩ : ∃ ao : Nat, ao = a + (O) := ⟨_, rfl⟩
        have eao : (a : Int) + (O : Int) = (ao : Int) := by omega
        have wao : IntKind.i64.wrap (ao : Int) = (ao : Int) := by rw [IntKind.wrap_i64]; omega
        have ao0 : (0 : Int) ≤ (ao : Int) := by omega
        have ao1 : (ao : Int) < (n : Int) := by omega
        have cao := S2.out.st.cell ao (by omega)
        obtain ⟨y, hy⟩ : ∃ y, y = (dk)[ao]! := ⟨_, rfl⟩
        rw [← hy] at cao
        have HPQ := Lib.hid (And.intro (And.intro hix hx) (And.intro hao hy))
        have fz := S2.out.st.frz
        clear hx hy hix hao HNx
        have HS := Lib.hid (S2.out.swapL HPQ.out (by omega) (by omega))
        by_cases hpq : ix = ao
        · subst hpq
          obtain rfl : x = y := by have h1 := cix.symm.trans cao; injection h1 with h1; injection h1
          go_region
          go_wp2
          go_roundg (3 - (t + 1))
          case measure => omega
          case rel => exact ⟨t + 1, xorNext r, swp dk (a + M / 4 * 2 - 1 + t) (a + (O)), by congr 1; push_cast; omega, by omega, Nat.le_refl _, by rw [← HN.out.1]; exact HS.out _,
            Lib.hid (by rw [← HR.out, bp_step a M Q _ t r dk (O) ht3 (by rw [← HN.out.2, if_neg (by omega)])])⟩
        · have hqp : ¬ ao = ix := fun e => hpq e.symm
          go_region
          go_wp2
          go_roundg (3 - (t + 1))
          case measure => omega
          case rel => exact ⟨t + 1, xorNext r, swp dk (a + M / 4 * 2 - 1 + t) (a + (O)), by congr 1; push_cast; omega, by omega, Nat.le_refl _, by rw [← HN.out.1]; exact HS.out _,
            Lib.hid (by rw [← HR.out, bp_step a M Q _ t r dk (O) ht3 (by rw [← HN.out.2, if_neg (by omega)])])⟩
    · obtain rfl : t = 3 := by omega
      have hle : ¬ ((a : Int) + (M : Int) / 4 * 2 - 1 + ((3 : Nat) : Int) ≤ (a : Int) + (M : Int) / 4 * 2 + 1) := by omega
      have HD := Lib.hid H
      clear H
      go_wp2
      refine bodyPost_end (results_none rfl _ _ _) rfl ⟨rfl, ?_⟩
      rw [← HR.out]
      exact HD.out.st
set_option maxHeartbeats 2000000 in
set_option maxRecDepth 20000 in
theorem brk_any (g n cap : Nat) (hn : n < 4611686018427387904) (a b : Nat) (hab : a ≤ b) (hb : b ≤ n) (d : Array Int) (w0 w : World) (H0 : AtO g n w0 d w) :
    Calls Tryz.prog 113 #[.slice (some ⟨g, 0, none⟩) n cap, .int .i64 (a : Int), .int .i64 (b : Int)] w fun e w' => e = .returned (.tuple #[]) ∧ AtO g n w0 (breakPatterns d a b) w' := by
  obtain ⟨M, rfl⟩ : ∃ M, b = a + M := ⟨b - a, by omega⟩
  by_cases h8 : 8 ≤ M
  · exact brk_go g n cap hn a M h8 hb d w0 w H0
  · have hv : breakPatterns d a (a + M) = d := by unfold breakPatterns; simp only [Nat.add_sub_cancel_left]; rw [if_neg h8]
    rw [hv]
    have hMz : ((a : Int) + (M : Int) - (a : Int)) = (M : Int) := by omega
    have h8z : ¬ (8 : Int) ≤ (M : Int) := by omega
    have HT0 := Lib.hid H0
    clear H0 hv
    go_enter Tryz.func113, Tryz.ntmps113
    go_wp2
    refine bodyPost_end (results_none rfl _ _ _) rfl ⟨rfl, HT0.out⟩
end Go.Proofs.YtpkkomifenlkaaaGreat.So
/- reverseRange -/
namespace Go.Proofs.YtpkkomifenlkaaaGreat.So
open Go Go.RowKit Go.Sort Go.Proofs
set_option linter.unusedVariables false

set_option maxHeartbeats 2000000 in
set_option maxRecDepth 20000 in
theorem rev_any (g n cap : Nat) (hn : n < 4611686018427387904) (a b : Nat) (hab : a ≤ b) (hb : b ≤ n) (d : Array Int) (w0 w : World) (H0 : AtO g n w0 d w) :
    Calls Tryz.prog 115 #[.slice (some ⟨g, 0, none⟩) n cap, .int .i64 (a : Int), .int .i64 (b : Int)] w fun e w' => e = .returned (.tuple #[]) ∧ AtO g n w0 (reverseRange d a b) w' := by
  go_enter Tryz.func115, Tryz.ntmps115
  have HH := Lib.hid H0
  clear H0
  go_wp2
  go_loopg [6, 7] (b - a) (fun k s6 s7 wr => ∃ (i jn : Nat) (jz : Int) (dk : Array Int), s6 = .int .i64 (i : Int) ∧ s7 = .int .i64 jz ∧ ((i : Int) < jz → jz = jn ∧ jn < n) ∧ (¬ (i : Int) < jz → ¬ i < jn) ∧ jn - i ≤ k ∧
    AtO g n w0 dk wr ∧ Hid (reverseLoop i jn dk = reverseLoop a (b - 1) d))
  case atStart => exact ⟨a, b - 1, (b : Int) - 1, d, rfl, rfl, fun h => ⟨by omega, by omega⟩, fun h => by omega, by omega, HH.out, Lib.hid rfl⟩
  case round =>
    clear HH
    obtain ⟨i, jn, jz, dk, rfl, rfl, h1, h2, hk, H, HR⟩ := hrel
    have HD := Lib.hid H
    by_cases hlt : (i : Int) < jz
    · obtain ⟨rfl, hjn⟩ := h1 hlt
      have hij : i < jn := by omega
      have d1 : decide ((i : Int) < (jn : Int)) = true := decide_eq_true hlt
      clear h1 h2
      have i0 : (0 : Int) ≤ (i : Int) := by omega
      have i1 : (i : Int) < (n : Int) := by omega
      have ci := H.cell i (by omega)
      obtain ⟨x, hx⟩ : ∃ x, x = (dk)[i]! := ⟨_, rfl⟩
      rw [← hx] at ci
      have jn0 : (0 : Int) ≤ (jn : Int) := by omega
      have jn1 : (jn : Int) < (n : Int) := by omega
      have cjn := H.cell jn (by omega)
      obtain ⟨y, hy⟩ : ∃ y, y = (dk)[jn]! := ⟨_, rfl⟩
      rw [← hy] at cjn
      have HPQ := Lib.hid (And.intro (And.intro (Eq.refl i) hx) (And.intro (Eq.refl jn) hy))
      have fz := H.frz
      clear hx hy H
      have H3 := HD.out.swapL HPQ.out (by omega) (by omega)
      have HS := Lib.hid H3
      clear H3
      go_wp2_with fail
      go_region
      go_wp2
      go_roundg (jn - 1 - (i + 1))
      case measure => omega
      case rel => exact ⟨i + 1, jn - 1, (jn : Int) - 1, swp dk i jn, by go_num, rfl, fun h => ⟨by omega, by omega⟩, fun h => by omega, Nat.le_refl _, HS.out _, Lib.hid (by rw [← HR.out]; conv => rhs; rw [reverseLoop, if_pos hij])⟩
    · have hnot := h2 hlt
      have d1 : decide ((i : Int) < jz) = false := decide_eq_false hlt
      clear H h1
      go_wp2
      refine bodyPost_end (results_none rfl _ _ _) rfl ⟨rfl, ?_⟩
      have e := HR.out
      rw [reverseLoop, if_neg hnot] at e
      rw [reverseRange, ← e]
      exact HD.out
end Go.Proofs.YtpkkomifenlkaaaGreat.So
