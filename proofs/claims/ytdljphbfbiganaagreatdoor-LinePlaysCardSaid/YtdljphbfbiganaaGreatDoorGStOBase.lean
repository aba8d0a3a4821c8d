import Derived.Test.YtdljphbfbiganaaGreatDoorGCommon
import Derived.Below
import Derived.Calls
import Derived.Sort.Lot0
import Derived.Sort.LotA
import Derived.Laws.World
import Derived.Deep.LoopGhost
import Derived.WalkKit
import Derived.BigCall
import Derived.BigGuard
import Derived.BigQuiet
import Derived.Deep.QuietTactic
import Derived.CellFam
import Derived.Sort.WalkA
import Derived.Deep.RegionHeld3
import Derived.Sort.Walk7
/- The library's sort of a row of numbers (slices.Sort at []uint64): the row while it is sorted, and cmp.Less. -/
namespace Go.Proofs.YtdljphbfbiganaaGreatDoor.So
open Go Go.RowKit Go.Sort

abbrev TU : Nat := 31
set_option maxRecDepth 20000 in
theorem nan_u (x : Int) (w : World) : Calls Tryz.prog 101 #[.int .u64 x] w fun e w' => e = .returned (.bool false) ∧ w' = w := by
  have h : (x != x) = false := by simp
  go_enter Tryz.func101, Tryz.ntmps101
  go_wp2
  go_ret
  exact ⟨rfl, rfl⟩
set_option maxRecDepth 20000 in
theorem less_u (x y : Int) (w : World) : Calls Tryz.prog 85 #[.int .u64 x, .int .u64 y] w fun e w' => e = .returned (.bool (ltInt x y)) ∧ w' = w := by
  unfold ltInt
  go_enter Tryz.func85, Tryz.ntmps85
  go_wp2_with fail
  refine (nan_u _ _).mono ?_
  rintro _ _ ⟨rfl, rfl⟩
  go_wp2
  go_ret
  exact ⟨rfl, rfl⟩
/-- the row in block g: d; all but it stands as in w0 -/
structure AtO (g n : Nat) (w0 : World) (d : Array Int) (W : World) : Prop where
  sz : d.size = n
  cell : ∀ t, t < n → W.cell? ⟨g, t, none⟩ = some (.int .u64 (d[t]!))
  shape : ∃ c0 c, w0.heap[g]? = some (.cells c0 TU (0, 0)) ∧ W.heap[g]? = some (.cells c TU (0, 0)) ∧ c.size = c0.size
  os : W.os = w0.os
  tape : W.tape = w0.tape
  output : W.output = w0.output
  size : w0.heap.size ≤ W.heap.size
  block : ∀ k, k < w0.heap.size → k ≠ g → W.heap[k]? = w0.heap[k]?
section
variable {g n : Nat} {w0 W V : World} {d : Array Int}
theorem AtO.start {c : Array Value} (hs : d.size = n) (hh : W.heap[g]? = some (.cells c TU (0, 0))) (hc : ∀ t, t < n → W.cell? ⟨g, t, none⟩ = some (.int .u64 (d[t]!))) : AtO g n W d W :=
  ⟨hs, hc, ⟨c, c, hh, hh, rfl⟩, rfl, rfl, rfl, Nat.le_refl _, fun _ _ _ => rfl⟩
theorem AtO.lt (H : AtO g n w0 d W) : g < W.heap.size := by
  obtain ⟨c0, c, h1, h2, h3⟩ := H.shape
  exact (Array.getElem?_eq_some_iff.1 h2).1
theorem AtO.frz (H : AtO g n w0 d W) (t : Nat) : W.frozen? ⟨g, t, none⟩ = false := by
  obtain ⟨c0, c, h1, h2, h3⟩ := H.shape
  simp [World.frozen?, h2]
theorem AtO.drewN (H : AtO g n w0 d W) (q : Nat) : AtO g n w0 d (W.drewN q) := ⟨H.sz, H.cell, H.shape, H.os, H.tape, H.output, H.size, H.block⟩
theorem AtO.below (H : AtO g n w0 d W) (b : Below W.heap.size W V) : AtO g n w0 d V := by
  have hl := H.lt
  obtain ⟨c0, c, h1, h2, h3⟩ := H.shape
  exact ⟨H.sz, fun t ht => (World.cell?_of_block (a := ⟨g, t, none⟩) (b.block g hl)).trans (H.cell t ht), ⟨c0, c, h1, (b.block g hl).trans h2, h3⟩, b.os.trans H.os, b.tape.trans H.tape, b.output.trans H.output, Nat.le_trans H.size b.size, fun k hk hne => (b.block k (Nat.lt_of_lt_of_le hk H.size)).trans (H.block k hk hne)⟩
theorem AtO.trans {d' : Array Int} (H : AtO g n w0 d W) (K : AtO g n W d' V) : AtO g n w0 d' V := by
  obtain ⟨c0, c, h1, h2, h3⟩ := H.shape
  obtain ⟨e0, e, k1, k2, k3⟩ := K.shape
  rw [h2] at k1
  injection k1 with k1
  injection k1 with k1 _ _
  subst k1
  exact ⟨K.sz, K.cell, ⟨c0, e, h1, k2, k3.trans h3⟩, K.os.trans H.os, K.tape.trans H.tape, K.output.trans H.output, Nat.le_trans H.size K.size, fun k hk hne => (K.block k (Nat.lt_of_lt_of_le hk H.size) hne).trans (H.block k hk hne)⟩
theorem AtO.set (H : AtO g n w0 d W) (i : Nat) (x : Int) (hi : i < n) : AtO g n w0 (d.setIfInBounds i x) (W.setCell ⟨g, i, none⟩ (.int .u64 x)) := by
  have hsz := H.sz
  obtain ⟨c0, c, h1, h2, h3⟩ := H.shape
  refine ⟨by simp [hsz], fun t ht => ?_, ⟨c0, c.setIfInBounds i (.int .u64 x), h1, ?_, by simp [h3]⟩, H.os, H.tape, H.output, by simpa using H.size, fun k hk hne => (Below.heap_setCell _ _ _ _ hne).trans (H.block k hk hne)⟩
  · by_cases e : t = i
    · subst e
      rw [World.cell?_setCell_same _ _ _ (H.cell t ht)]
      simp [hsz, ht]
    · have h4 : (W.setCell ⟨g, i, none⟩ (.int .u64 x)).cell? ⟨g, t, none⟩ = W.cell? ⟨g, t, none⟩ := World.cell?_setCell_other _ _ _ _ (by simp)
      rw [h4, H.cell t ht]
      congr 2
      simp [getElem!_def, Ne.symm e]
  · simp [World.setCell, Array.getElem?_modify, h2]
theorem AtO.swap (H : AtO g n w0 d W) (i j : Nat) (hi : i < n) (hj : j < n) : AtO g n w0 (swp d i j) ((W.setCell ⟨g, i, none⟩ (.int .u64 (d[j]!))).setCell ⟨g, j, none⟩ (.int .u64 (d[i]!))) :=
  (H.set i _ hi).set j _ hj
/-- the same by letters -/
theorem AtO.swapL (H : AtO g n w0 d W) {p q P Q : Nat} {x y : Int} (h : (p = P ∧ x = d[p]!) ∧ (q = Q ∧ y = d[q]!)) (hp : P < n) (hq : Q < n) (k : Nat) : AtO g n w0 (swp d P Q) (((W.drewN k).setCell ⟨g, p, none⟩ (.int .u64 y)).setCell ⟨g, q, none⟩ (.int .u64 x)) := by
  obtain ⟨⟨rfl, rfl⟩, rfl, rfl⟩ := h
  exact (H.drewN k).swap p q hp hq
/-- a cell of a block that was made since is set -/
theorem AtO.setNew (H : AtO g n w0 d W) {K i : Nat} {v : Value} (hK : w0.heap.size ≤ K) (hne : K ≠ g) : AtO g n w0 d (W.setCell ⟨K, i, none⟩ v) := by
  obtain ⟨c0, c, h1, h2, h3⟩ := H.shape
  have hb : ∀ k, k ≠ K → (W.setCell ⟨K, i, none⟩ v).heap[k]? = W.heap[k]? := fun k hk => Below.heap_setCell _ _ _ _ hk
  exact ⟨H.sz, fun t ht => (World.cell?_of_block (a := ⟨g, t, none⟩) (hb g hne.symm)).trans (H.cell t ht), ⟨c0, c, h1, (hb g hne.symm).trans h2, h3⟩, H.os, H.tape, H.output, by simpa using H.size, fun k hk h => (hb k (by omega)).trans (H.block k hk h)⟩
/-- beside the row a cell of its own in block K, made since: an int's or a u64's -/
structure CtO (g n : Nat) (w0 : World) (K : Nat) (d : Array Int) (v : Value) (W : World) : Prop where
  st : AtO g n w0 d W
  ne : K ≠ g
  new : w0.heap.size ≤ K
  lt : K < W.heap.size
  at_ : W.cell? ⟨K, 0, none⟩ = some v
  f : W.frozen? ⟨K, 0, none⟩ = false
theorem CtO.start {t : TypeId} (H : AtO g n w0 d W) (v : Value) : CtO g n w0 W.heap.size d v (W.alloc (.cells #[v] t)) := by
  have hb : Below W.heap.size W (W.alloc (.cells #[v] t)) := (Below.refl _ _).alloc (Nat.le_refl _) _
  refine ⟨H.below hb, by have := H.lt; omega, H.size, by simp, ?_, by simp⟩
  exact cell_of_row _ W.heap.size 0 #[v] t (0, 0) (heap_alloc_new W _)
theorem CtO.drewN {K : Nat} {v : Value} (H : CtO g n w0 K d v W) (q : Nat) : CtO g n w0 K d v (W.drewN q) := ⟨H.st.drewN q, H.ne, H.new, H.lt, by rw [World.cell?_drewN]; exact H.at_, by rw [World.frozen?_drewN]; exact H.f⟩
theorem CtO.turn {K : Nat} {v : Value} (H : CtO g n w0 K d v W) (v' : Value) : CtO g n w0 K d v' (W.setCell ⟨K, 0, none⟩ v') :=
  ⟨H.st.setNew H.new H.ne, H.ne, H.new, by simpa using H.lt, World.cell?_setCell_same _ _ _ H.at_, by simpa using H.f⟩
theorem CtO.swapL {K : Nat} {v : Value} (H : CtO g n w0 K d v W) {p q P Q : Nat} {x y : Int} (h : (p = P ∧ x = d[p]!) ∧ (q = Q ∧ y = d[q]!)) (hp : P < n) (hq : Q < n) (k : Nat) : CtO g n w0 K (swp d P Q) v (((W.drewN k).setCell ⟨g, p, none⟩ (.int .u64 y)).setCell ⟨g, q, none⟩ (.int .u64 x)) := by
  have hb : (((W.drewN k).setCell ⟨g, p, none⟩ (.int .u64 y)).setCell ⟨g, q, none⟩ (.int .u64 x)).heap[K]? = W.heap[K]? := (Below.heap_setCell _ _ _ _ H.ne).trans (Below.heap_setCell _ _ _ _ H.ne)
  exact ⟨H.st.swapL h hp hq k, H.ne, H.new, by simpa using H.lt, (World.cell?_of_block (a := ⟨K, 0, none⟩) hb).trans H.at_, (World.frozen?_of_block (a := ⟨K, 0, none⟩) hb).trans H.f⟩
end
end Go.Proofs.YtdljphbfbiganaaGreatDoor.So
/- insertionSort -/
namespace Go.Proofs.YtdljphbfbiganaaGreatDoor.So
open Go Go.RowKit Go.Sort
set_option linter.unusedVariables false

set_option maxHeartbeats 2000000 in
set_option maxRecDepth 20000 in
theorem ins_any (g n cap : Nat) (hn : n < 4611686018427387904) (a b : Nat) (hab : a ≤ b) (hb : b ≤ n) (d : Array Int) (w0 w : World) (H0 : AtO g n w0 d w) :
    Calls Tryz.prog 79 #[.slice (some ⟨g, 0, none⟩) n cap, .int .i64 (a : Int), .int .i64 (b : Int)] w fun e w' => e = .returned (.tuple #[]) ∧ AtO g n w0 (insertionSort ltInt d a b) w' := by
  go_enter Tryz.func79, Tryz.ntmps79
  have HH := Lib.hid H0
  clear H0
  go_wp2
  go_loopw [6] (fun vi wr => ∃ (i : Nat) (dk : Array Int), vi = .int .i64 (i : Int) ∧ a < i ∧ i ≤ b + 1 ∧ AtO g n w0 dk wr ∧ Hid (insOuter ltInt a b i dk = insOuter ltInt a b (a + 1) d)) (fun vi _ => b + 1 - (intOf vi).toNat)
  case atStart => exact ⟨a + 1, d, by go_num, by omega, by omega, HH.out, Lib.hid rfl⟩
  case round =>
    clear HH
    obtain ⟨i, dk, rfl, hai, hib, H, HO⟩ := hrel
    by_cases hlt : i < b
    · have d1 : decide ((i : Int) < (b : Int)) = true := decide_eq_true (by omega)
      have H1 := Lib.hid H
      clear H
      go_wp2
      go_loopw [7] (fun vj wr2 => ∃ (j : Nat) (dj : Array Int), vj = .int .i64 (j : Int) ∧ a ≤ j ∧ j ≤ i ∧ AtO g n w0 dj wr2 ∧ Hid (insInner ltInt a j dj = insInner ltInt a i dk)) (fun vj _ => (intOf vj).toNat)
      case atStart => exact ⟨i, dk, rfl, by omega, Nat.le_refl _, H1.out, Lib.hid rfl⟩
      case round =>
        clear H1
        obtain ⟨j, dj, rfl, haj, hji, H, HI⟩ := hrel
        have HD := Lib.hid H
        by_cases hja : a < j
        · have d2 : decide ((a : Int) < (j : Int)) = true := decide_eq_true (by omega)
          obtain ⟨p, hp⟩ : ∃ p, p + 1 = j := ⟨j - 1, by omega⟩
          have e1 : (j : Int) - 1 = (p : Int) := by omega
          have hj0 : (0 : Int) ≤ (j : Int) := by omega
          have hj1 : (j : Int) < (n : Int) := by omega
          have hp0 : (0 : Int) ≤ (p : Int) := by omega
          have hp1 : (p : Int) < (n : Int) := by omega
          have cj := H.cell j (by omega)
          have cp := H.cell p (by omega)
          have fz := H.frz
          obtain ⟨x, hx⟩ : ∃ x, x = dj[j]! := ⟨_, rfl⟩
          obtain ⟨y, hy⟩ : ∃ y, y = dj[p]! := ⟨_, rfl⟩
          rw [← hx] at cj
          rw [← hy] at cp
          have HV := Lib.hid (And.intro hx hy)
          have HP := Lib.hid hp
          clear H hx hy hp
          cases hl : ltInt x y with
          | true =>
            have HL := Lib.hid hl
            go_wp2_with fail
            go_quiet ((go_at_call 85; exact Calls.quiet_of_same (less_u _ _ _)))
            go_wp2_with fail
            go_region
            go_wp2
            go_roundw
            case rel =>
              refine ⟨p, swp dj j p, rfl, by omega, by omega, ?_, Lib.hid ?_⟩
              · have h9 := (HD.out.drewN (nq + 1)).swap j p (by omega) (by omega)
                rw [← HV.out.1, ← HV.out.2] at h9
                exact h9
              · have h9 := insInner_go ltInt a j dj hja (by rw [← HP.out, Nat.add_sub_cancel, HP.out, ← HV.out.1, ← HV.out.2]; exact HL.out)
                rw [show j - 1 = p by have := HP.out; omega] at h9
                rw [← HI.out, h9]
            case measure => simp [intOf]; have := HP.out; omega
          | false =>
            have HL := Lib.hid hl
            go_wp2_with fail
            go_quiet ((go_at_call 85; exact Calls.quiet_of_same (less_u _ _ _)))
            go_wp2
            go_roundw
            case rel => exact ⟨i + 1, dj, by go_num, by omega, by omega, HD.out.drewN _, Lib.hid (by rw [← HO.out, insOuter_go _ _ _ _ _ hlt, ← HI.out, insInner_stop _ _ _ _ (Or.inr (by rw [← HP.out, Nat.add_sub_cancel, HP.out, ← HV.out.1, ← HV.out.2]; exact HL.out))])⟩
            case measure => simp [intOf]; omega
        · have d2 : decide ((a : Int) < (j : Int)) = false := decide_eq_false (by omega)
          clear H
          go_wp2_with fail
          go_quiet ((go_at_call 85; exact Calls.quiet_of_same (less_u _ _ _)))
          go_wp2
          go_roundw
          case rel => exact ⟨i + 1, dj, by go_num, by omega, by omega, HD.out.drewN _, Lib.hid (by rw [← HO.out, insOuter_go _ _ _ _ _ hlt, ← HI.out, insInner_stop _ _ _ _ (Or.inl (by omega))])⟩
          case measure => simp [intOf]; omega
    · have d1 : decide ((i : Int) < (b : Int)) = false := decide_eq_false (by omega)
      have H1 := Lib.hid H
      clear H
      go_wp2
      exact bodyPost_end (results_none rfl _ _ _) rfl ⟨rfl, by unfold insertionSort; rw [← HO.out, insOuter_stop _ _ _ _ _ hlt]; exact H1.out⟩
end Go.Proofs.YtdljphbfbiganaaGreatDoor.So
/- reverseRange -/
namespace Go.Proofs.YtdljphbfbiganaaGreatDoor.So
open Go Go.RowKit Go.Sort Go.Proofs
set_option linter.unusedVariables false

set_option maxHeartbeats 2000000 in
set_option maxRecDepth 20000 in
theorem rev_any (g n cap : Nat) (hn : n < 4611686018427387904) (a b : Nat) (hab : a ≤ b) (hb : b ≤ n) (d : Array Int) (w0 w : World) (H0 : AtO g n w0 d w) :
    Calls Tryz.prog 83 #[.slice (some ⟨g, 0, none⟩) n cap, .int .i64 (a : Int), .int .i64 (b : Int)] w fun e w' => e = .returned (.tuple #[]) ∧ AtO g n w0 (reverseRange d a b) w' := by
  go_enter Tryz.func83, Tryz.ntmps83
  have HH := Lib.hid H0
  clear H0
  go_wp2
  go_loopg [6, 7] (b - a) (fun k s6 s7 wr => ∃ (i jn : Nat) (jz : Int) (dk : Array Int), s6 = .int .i64 (i : Int) ∧ s7 = .int .i64 jz ∧ ((i : Int) < jz → jz = jn ∧ jn < n) ∧ (¬ (i : Int) < jz → ¬ i < jn) ∧ jn - i ≤ k ∧
    AtO g n w0 dk wr ∧ Hid (reverseLoop i jn dk = reverseLoop a (b - 1) d))
  case atStart => exact ⟨a, b - 1, (b : Int) - 1, d, rfl, rfl, fun h => ⟨by omega, by omega⟩, fun h => by omega, by omega, HH.out, Lib.hid rfl⟩
  case round =>
    clear HH
    obtain ⟨i, jn, jz, dk, rfl, rfl, h1, h2, hk, H, HR⟩ := hrel
    have HD := Lib.hid H
    by_cases hlt : (i : Int) < jz
    · obtain ⟨rfl, hjn⟩ := h1 hlt
      have hij : i < jn := by omega
      have d1 : decide ((i : Int) < (jn : Int)) = true := decide_eq_true hlt
      clear h1 h2
      have i0 : (0 : Int) ≤ (i : Int) := by omega
      have i1 : (i : Int) < (n : Int) := by omega
      have ci := H.cell i (by omega)
      obtain ⟨x, hx⟩ : ∃ x, x = (dk)[i]! := ⟨_, rfl⟩
      rw [← hx] at ci
      have jn0 : (0 : Int) ≤ (jn : Int) := by omega
      have jn1 : (jn : Int) < (n : Int) := by omega
      have cjn := H.cell jn (by omega)
      obtain ⟨y, hy⟩ : ∃ y, y = (dk)[jn]! := ⟨_, rfl⟩
      rw [← hy] at cjn
      have HPQ := Lib.hid (And.intro (And.intro (Eq.refl i) hx) (And.intro (Eq.refl jn) hy))
      have fz := H.frz
      clear hx hy H
      have H3 := HD.out.swapL HPQ.out (by omega) (by omega)
      have HS := Lib.hid H3
      clear H3
      go_wp2_with fail
      go_region
      go_wp2
      go_roundg (jn - 1 - (i + 1))
      case measure => omega
      case rel => exact ⟨i + 1, jn - 1, (jn : Int) - 1, swp dk i jn, by go_num, rfl, fun h => ⟨by omega, by omega⟩, fun h => by omega, Nat.le_refl _, HS.out _, Lib.hid (by rw [← HR.out]; conv => rhs; rw [reverseLoop, if_pos hij])⟩
    · have hnot := h2 hlt
      have d1 : decide ((i : Int) < jz) = false := decide_eq_false hlt
      clear H h1
      go_wp2
      refine bodyPost_end (results_none rfl _ _ _) rfl ⟨rfl, ?_⟩
      have e := HR.out
      rw [reverseLoop, if_neg hnot] at e
      rw [reverseRange, ← e]
      exact HD.out
end Go.Proofs.YtdljphbfbiganaaGreatDoor.So
