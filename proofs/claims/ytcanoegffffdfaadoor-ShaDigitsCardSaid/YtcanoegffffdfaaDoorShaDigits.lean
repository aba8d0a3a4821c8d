/- The law ShaDigits. -/
import Derived.Test.YtcanoegffffdfaaDoorShaParse
import Derived.Test.YtcanoegffffdfaaDoorShaRHex
import Derived.Test.YtcanoegffffdfaaDoorShaAwake
import Derived.Test.YtcanoegffffdfaaDoorShaEq
namespace Go.Proofs.YtcanoegffffdfaaDoor.Sha
open Go Go.RowKit

theorem digits_long (l : List UInt8) (t : ByteArray) (hs : 200 < t.size) (w : World) (hg : Tab w) :
    Calls Tryd.prog 6 #[.agg (bcells l), .string t] w fun e w' => e = .returned (.bool true) ∧ Below w.heap.size w w' := by
  have HA := Lib.hid (fun (W : World) (hW : Below w.heap.size w W) => awake_any W (tab_below hg hW))
  have hs1 : (200 : Int) < (t.size : Int) := by omega
  clear hg
  go_enter Tryd.func6, Tryd.ntmps6
  go_wp2_with fail
  refine (HA.out _ ((Below.refl _ _).alloc (Nat.le_refl _) _)).mono ?_
  rintro e w1 ⟨rfl, hb1⟩
  have HB := Lib.hid (((Below.refl w.heap.size w).alloc (Nat.le_refl _) _).trans (hb1.mono (by simp)))
  clear hb1
  go_wp2
  go_ret
  exact ⟨rfl, HB.out⟩

theorem eq_bcells (l : List UInt8) (hl : l.length = 32) (W : World) : (Op.equalIn 10000 27 (.agg (bcells l)) (.agg (bcells l))).run Tryd.prog W = .ok true W := by
  have h := eq_row (P := Tryd.prog) W 9998 27 5 32 Tryd.underlying27 Tryd.underlying5 (fun w => by
    obtain ⟨i0, hi, _⟩ := info_parts infoB
    have h := run_sizeOf w hi
    rw [show Tryd.prog.cellsOf 5 = 1 by kernel_rfl] at h
    exact h) (l.map fun b => (b.toNat : Int)) (by rw [List.length_map]; exact hl)
  have e : ((l.map fun b => (b.toNat : Int)).map (Value.int .u8)).toArray = bcells l := by unfold bcells; rw [List.map_map]; rfl
  rw [e] at h
  exact h
theorem parse_any (s : ByteArray) (w : World) :
    Calls Tryd.prog 17 #[.string s] w fun e w' => e = .returned (.tuple #[.agg (bcells (parseL s.data.toList)), .int .i64 (parseE s.data.toList)]) ∧ Below w.heap.size w w' := by
  by_cases h : s.size = 64
  · exact parse_64 s h w
  · have hf : okT s.data.toList = false := by
      unfold okT
      rw [Bool.and_eq_false_iff]
      exact .inl (by simpa using h)
    rw [show parseL s.data.toList = List.replicate 32 0 by unfold parseL; rw [hf]; rfl, show parseE s.data.toList = 3 by unfold parseE; rw [hf]; rfl]
    exact parse_len s h w
theorem BW6 {w W0 W : World} {o : Obj} (h0 : W0 = w.alloc o) (hb : Below W0.heap.size W0 W) : Below w.heap.size w W :=
  (h0 ▸ (Below.refl w.heap.size w).alloc (Nat.le_refl _) o).trans (hb.mono (by rw [h0]; simp))
theorem parseL_len (l : List UInt8) : (parseL l).length = 32 := by unfold parseL; split; exact pl_len _ _; rfl
/-- what the law's own test says of a byte -/
theorem isHex_iff (b : UInt8) : isHex b = (decide (48 ≤ b.toNat ∧ b.toNat ≤ 57 ∨ 97 ≤ b.toNat ∧ b.toNat ≤ 102)) := by
  unfold isHex hidx
  refine decide_eq_decide.2 ?_
  by_cases h1 : 48 ≤ b.toNat ∧ b.toNat ≤ 57
  · rw [if_pos h1]; omega
  · rw [if_neg h1]
    by_cases h2 : 97 ≤ b.toNat ∧ b.toNat ≤ 102
    · rw [if_pos h2]; omega
    · rw [if_neg h2]; omega

set_option maxRecDepth 100000 in
set_option maxHeartbeats 1000000 in
theorem digits_short (l : List UInt8) (hl : l.length = 32) (t : ByteArray) (hs : t.size ≤ 200) (w : World) (hg : Tab w) :
    Calls Tryd.prog 6 #[.agg (bcells l), .string t] w fun e w' => e = .returned (.bool true) ∧ Below w.heap.size w w' := by
  have HT := Lib.hid hg
  have HL := Lib.hid hl
  have hs1 : (t.size : Int) ≤ 200 := by omega
  obtain ⟨C, hC⟩ : ∃ C, C = bcells l := ⟨_, rfl⟩
  obtain ⟨X, hX⟩ : ∃ X : ByteArray, X = ⟨(hexL l).toArray⟩ := ⟨_, rfl⟩
  have hhex : ∀ W, Calls Tryd.prog 16 #[.agg C] W fun e w' => e = .returned (.string X) ∧ Below W.heap.size W w' := by rw [hC, hX]; exact hex_any l hl
  have hrhex : ∀ W, Calls Tryd.prog 18 #[.agg C] W fun e w' => e = .returned (.string X) ∧ Below W.heap.size W w' := by rw [hC, hX]; exact rhex_any l hl
  have hparse : ∀ W, Calls Tryd.prog 17 #[.string X] W fun e w' => e = .returned (.tuple #[.agg C, .int .i64 0]) ∧ Below W.heap.size W w' := by
    intro W
    have hok : okT X.data.toList = true := by
      rw [hX]; unfold okT
      rw [show (⟨(hexL l).toArray⟩ : ByteArray).data.toList = hexL l from rfl, hex_all, hexL_len, hl]; rfl
    have := parse_any X W
    rw [show parseL X.data.toList = l by unfold parseL; rw [if_pos hok, hX]; exact pl_hex l hl, show parseE X.data.toList = 0 by unfold parseE; rw [if_pos hok], ← hC] at this
    exact this
  have heq : ∀ W, (Op.equalIn 10000 27 (.agg C) (.agg C)).run Tryd.prog W = .ok true W := by rw [hC]; exact eq_bcells l hl
  have hsz : C.size = 32 := by rw [hC, bcells_size, hl]
  have hon : C.all (·.oneCell') = true := by rw [hC]; exact bcells_one l
  rw [← hC]
  have HHex := Lib.hid hhex
  have HRHex := Lib.hid hrhex
  have HParse := Lib.hid hparse
  have HEq := Lib.hid heq
  have HSz := Lib.hid hsz
  have HOn := Lib.hid hon
  clear hhex hrhex hparse heq hsz hon hC hX hg hl
  go_enter Tryd.func6, Tryd.ntmps6
  go_upto_region 3 with fail
  obtain ⟨W0, hW0⟩ : ∃ X, X = w.alloc (.cells C 25) := ⟨_, rfl⟩
  rw [← hW0]
  have HW0 := Lib.hid hW0
  have hG0 : W0.heap[w.heap.size]? = some (.cells C 25 (0, 0)) := by rw [hW0]; exact Array.getElem?_push_size
  have hlt0 : w.heap.size < W0.heap.size := by rw [hW0]; simp
  have HG0 := Lib.hid hG0
  clear hW0 hG0
  refine wp_region_lit ?_
  refine wpList_load_rowg (by rfl) 25 _ rfl w.heap.size rfl 25 C (0, 0) _ HG0.out Tryd.underlying25 (isArr 32 5) (by rw [HSz.out]; kernel_rfl) ?_
  simp only [Act.put, List.setIfInBounds_toArray, List.set_cons_zero, List.set_cons_succ]
  go_wp2_with fail
  refine (HHex.out _).mono ?_
  rintro e w1 ⟨rfl, hb1⟩
  go_wp2_with fail
  refine (HParse.out _).mono ?_
  rintro e w2 ⟨rfl, hb2'⟩
  have hb2 : Below W0.heap.size W0 w2 := hb1.trans (hb2'.mono hb1.size)
  clear hb1 hb2'
  have HB2 := Lib.hid hb2
  clear hb2
  go_wp2_with fail
  rw [hstx w2 C HSz.out HOn.out]
  simp only [Result.andThen]
  rw [Oper.upon_skip]
  simp only [Act.put]
  obtain ⟨W3, hW3⟩ : ∃ X, X = (w2.alloc (.cells #[.int .u8 0, .int .u8 0, .int .u8 0, .int .u8 0, .int .u8 0, .int .u8 0, .int .u8 0, .int .u8 0, .int .u8 0, .int .u8 0, .int .u8 0, .int .u8 0, .int .u8 0, .int .u8 0, .int .u8 0, .int .u8 0, .int .u8 0, .int .u8 0, .int .u8 0, .int .u8 0, .int .u8 0, .int .u8 0, .int .u8 0, .int .u8 0, .int .u8 0, .int .u8 0, .int .u8 0, .int .u8 0, .int .u8 0, .int .u8 0, .int .u8 0, .int .u8 0] 27)).setRow w2.heap.size C := ⟨_, rfl⟩
  rw [← hW3]
  have hgW3 : W3.heap[w2.heap.size]? = some (.cells C 27 (0, 0)) := by rw [hW3]; exact setRow_heap _ _ _ _ _ _ (heap_alloc_new w2 _)
  have hbW3 : Below W0.heap.size W0 W3 := by rw [hW3]; exact below_setRow (HB2.out.alloc HB2.out.size _) HB2.out.size _
  have hkW3 : ∀ b, b < w2.heap.size → W3.heap[b]? = w2.heap[b]? := by
    intro b hb'; rw [hW3]; exact (setRow_other _ _ _ _ (Nat.ne_of_lt hb')).trans (Below.heap_alloc _ _ _ hb')
  have hlW3 : w2.heap.size < W3.heap.size := by rw [hW3]; simp
  clear hW3
  have HG3 := Lib.hid hgW3
  have HB3 := Lib.hid hbW3
  have hle2 := HB2.out.size
  clear hgW3 hbW3 hkW3
  obtain ⟨G1, hG1⟩ : ∃ G1, G1 = w2.heap.size := ⟨_, rfl⟩
  rw [← hG1] at HG3 hlW3 hle2 ⊢
  clear hG1 HB2
  go_upto_region 5 with fail
  refine wp_region_lit ?_
  refine wpList_step (fun K hK => ?_)
  go_simp
  refine hK _ _ ?_
  clear hK K
  refine wpList_load_rowg (by rfl) 25 _ rfl w.heap.size rfl 25 C (0, 0) _ ((HB3.out.block _ hlt0).trans HG0.out) Tryd.underlying25 (isArr 32 5) (by rw [HSz.out]; kernel_rfl) ?_
  simp only [Act.put, List.setIfInBounds_toArray, List.set_cons_zero, List.set_cons_succ]
  refine wpList_step (fun K hK => ?_)
  go_simp
  refine (HRHex.out _).mono ?_
  rintro e w4 ⟨rfl, hb4⟩
  have HB4 := Lib.hid (HB3.out.trans (hb4.mono HB3.out.size))
  have HG4 := Lib.hid ((hb4.block _ hlW3).trans HG3.out)
  have hl4 : G1 < w4.heap.size := Nat.lt_of_lt_of_le hlW3 hb4.size
  clear hb4 HB3 HG3 hlW3
  refine hK _ _ ?_
  clear hK K
  refine wpList_step (fun K hK => ?_)
  go_simp
  refine hK _ _ ?_
  clear hK K
  refine wpList_step (fun K hK => ?_)
  go_simp
  refine hK _ _ ?_
  clear hK K
  refine wpList_load_rowg (by rfl) 27 _ rfl G1 rfl 27 C (0, 0) _ HG4.out Tryd.underlying27 (isArr 32 5) (by rw [HSz.out]; kernel_rfl) ?_
  simp only [Act.put, List.setIfInBounds_toArray, List.set_cons_zero, List.set_cons_succ]
  refine wpList_load_rowg (by rfl) 25 _ rfl w.heap.size rfl 25 C (0, 0) _ ((HB4.out.block _ hlt0).trans HG0.out) Tryd.underlying25 (isArr 32 5) (by rw [HSz.out]; kernel_rfl) ?_
  simp only [Act.put, List.setIfInBounds_toArray, List.set_cons_zero, List.set_cons_succ]
  refine wpList_step (fun K hK => ?_)
  go_simp
  rw [HEq.out]
  go_simp
  refine hK _ _ ?_
  clear hK K
  go_wp2_with fail
  refine (parse_any t _).mono ?_
  rintro e w5 ⟨rfl, hb5⟩
  have HB5 := Lib.hid (HB4.out.trans (hb5.mono HB4.out.size))
  clear hb5 HB4 HG4 hl4
  obtain ⟨D, hD⟩ : ∃ D, D = bcells (parseL t.data.toList) := ⟨_, rfl⟩
  obtain ⟨E, hE⟩ : ∃ E, E = parseE t.data.toList := ⟨_, rfl⟩
  rw [← hD, ← hE]
  have hdz : D.size = 32 := by rw [hD, bcells_size, parseL_len]
  have hdo : D.all (·.oneCell') = true := by rw [hD]; exact bcells_one _
  have HD := Lib.hid hD
  have HE := Lib.hid hE
  have HDz := Lib.hid hdz
  have HDo := Lib.hid hdo
  clear hD hE hdz hdo
  go_wp2_with fail
  rw [hstx w5 D HDz.out HDo.out]
  simp only [Result.andThen]
  rw [Oper.upon_skip]
  simp only [Act.put]
  obtain ⟨W6, hW6⟩ : ∃ X, X = (w5.alloc (.cells #[.int .u8 0, .int .u8 0, .int .u8 0, .int .u8 0, .int .u8 0, .int .u8 0, .int .u8 0, .int .u8 0, .int .u8 0, .int .u8 0, .int .u8 0, .int .u8 0, .int .u8 0, .int .u8 0, .int .u8 0, .int .u8 0, .int .u8 0, .int .u8 0, .int .u8 0, .int .u8 0, .int .u8 0, .int .u8 0, .int .u8 0, .int .u8 0, .int .u8 0, .int .u8 0, .int .u8 0, .int .u8 0, .int .u8 0, .int .u8 0, .int .u8 0, .int .u8 0] 27)).setRow w5.heap.size D := ⟨_, rfl⟩
  rw [← hW6]
  have hgW6 : W6.heap[w5.heap.size]? = some (.cells D 27 (0, 0)) := by rw [hW6]; exact setRow_heap _ _ _ _ _ _ (heap_alloc_new w5 _)
  have hbW6 : Below W0.heap.size W0 W6 := by rw [hW6]; exact below_setRow (HB5.out.alloc HB5.out.size _) HB5.out.size _
  have hkW6 : ∀ b, b < w5.heap.size → W6.heap[b]? = w5.heap[b]? := by
    intro b hb'; rw [hW6]; exact (setRow_other _ _ _ _ (Nat.ne_of_lt hb')).trans (Below.heap_alloc _ _ _ hb')
  have hlW6 : w5.heap.size < W6.heap.size := by rw [hW6]; simp
  clear hW6
  have HG6 := Lib.hid hgW6
  have HB6 := Lib.hid hbW6
  clear hgW6 hbW6 hkW6 hle2
  obtain ⟨G2, hG2⟩ : ∃ G2, G2 = w5.heap.size := ⟨_, rfl⟩
  rw [← hG2] at HG6 hlW6 ⊢
  clear hG2 HB5
  go_wp2_with fail
  clear HParse HRHex
  go_loopw [10, 11] (fun r i wr => ∃ k : Nat, k ≤ t.size ∧ i = .int .i64 k ∧ r = .bool (decide (t.size = 64) && (t.data.toList.take k).all isHex) ∧ wr = W6) (fun _ i _ => t.size - (intOf i).toNat)
  case atStart => exact ⟨0, by omega, rfl, (by rw [List.take_zero, List.all_nil, Bool.and_true]; congr 1; exact decide_eq_decide.2 (by omega)), rfl⟩
  case round =>
    obtain ⟨k, hk, rfl, rfl, hwr⟩ := hrel
    obtain rfl := hwr.symm
    rcases Nat.lt_or_ge k t.size with hlt | hge
    · have x0 : (k : Int) < (t.size : Int) := by omega
      have hl : k < t.data.toList.length := hlt
      have hb := byte_at t k hlt
      have hx2 : t.data.toList.getD k 0 = t.data.toList[k] := by rw [List.getD_eq_getElem?_getD, List.getElem?_eq_getElem hl]; rfl
      have hnx : (decide (t.size = 64) && (t.data.toList.take (k + 1)).all isHex) = ((decide (t.size = 64) && (t.data.toList.take k).all isHex) && decide (48 ≤ (t[k]'hlt).toNat ∧ (t[k]'hlt).toNat ≤ 57 ∨ 97 ≤ (t[k]'hlt).toNat ∧ (t[k]'hlt).toNat ≤ 102)) := by
        rw [List.take_succ_eq_append_getElem hl, List.all_append, ← hx2, hb, ← isHex_iff, List.all_cons, List.all_nil, Bool.and_true, Bool.and_assoc]
      generalize (decide (t.size = 64) && (t.data.toList.take k).all isHex) = r at *
      have HN := Lib.hid hnx
      clear hnx hb hx2 hl
      cases r with
      | false =>
        go_wp2_with fail
        refine ⟨⟨k + 1, by omega, by go_num, by rw [HN.out]; rfl, trivial⟩, by simp [intOf]; omega⟩
      | true =>
        rcases (by omega : (t[k]'hlt).toNat < 48 ∨ (48 ≤ (t[k]'hlt).toNat ∧ (t[k]'hlt).toNat ≤ 57) ∨ (57 < (t[k]'hlt).toNat ∧ (t[k]'hlt).toNat < 97) ∨ (97 ≤ (t[k]'hlt).toNat ∧ (t[k]'hlt).toNat ≤ 102) ∨ 102 < (t[k]'hlt).toNat) with h | h | h | h | h
        · have g1 : ¬ (48 : Int) ≤ ((t[k]'hlt).toNat : Int) := by omega
          have g2 : ((t[k]'hlt).toNat : Int) ≤ 57 := by omega
          have g3 : ¬ (97 : Int) ≤ ((t[k]'hlt).toNat : Int) := by omega
          have g4 : ((t[k]'hlt).toNat : Int) ≤ 102 := by omega
          go_wp2_with fail
          refine ⟨⟨k + 1, by omega, by go_num, by rw [HN.out, Bool.true_and, decide_eq_false (by omega)], trivial⟩, by simp [intOf]; omega⟩
        · have g1 : (48 : Int) ≤ ((t[k]'hlt).toNat : Int) := by omega
          have g2 : ((t[k]'hlt).toNat : Int) ≤ 57 := by omega
          have g3 : ¬ (97 : Int) ≤ ((t[k]'hlt).toNat : Int) := by omega
          have g4 : ((t[k]'hlt).toNat : Int) ≤ 102 := by omega
          go_wp2_with fail
          refine ⟨⟨k + 1, by omega, by go_num, by rw [HN.out, Bool.true_and, decide_eq_true (by omega)], trivial⟩, by simp [intOf]; omega⟩
        · have g1 : (48 : Int) ≤ ((t[k]'hlt).toNat : Int) := by omega
          have g2 : ¬ ((t[k]'hlt).toNat : Int) ≤ 57 := by omega
          have g3 : ¬ (97 : Int) ≤ ((t[k]'hlt).toNat : Int) := by omega
          have g4 : ((t[k]'hlt).toNat : Int) ≤ 102 := by omega
          go_wp2_with fail
          refine ⟨⟨k + 1, by omega, by go_num, by rw [HN.out, Bool.true_and, decide_eq_false (by omega)], trivial⟩, by simp [intOf]; omega⟩
        · have g1 : (48 : Int) ≤ ((t[k]'hlt).toNat : Int) := by omega
          have g2 : ¬ ((t[k]'hlt).toNat : Int) ≤ 57 := by omega
          have g3 : (97 : Int) ≤ ((t[k]'hlt).toNat : Int) := by omega
          have g4 : ((t[k]'hlt).toNat : Int) ≤ 102 := by omega
          go_wp2_with fail
          refine ⟨⟨k + 1, by omega, by go_num, by rw [HN.out, Bool.true_and, decide_eq_true (by omega)], trivial⟩, by simp [intOf]; omega⟩
        · have g1 : (48 : Int) ≤ ((t[k]'hlt).toNat : Int) := by omega
          have g2 : ¬ ((t[k]'hlt).toNat : Int) ≤ 57 := by omega
          have g3 : (97 : Int) ≤ ((t[k]'hlt).toNat : Int) := by omega
          have g4 : ¬ ((t[k]'hlt).toNat : Int) ≤ 102 := by omega
          go_wp2_with fail
          refine ⟨⟨k + 1, by omega, by go_num, by rw [HN.out, Bool.true_and, decide_eq_false (by omega)], trivial⟩, by simp [intOf]; omega⟩
    · have hke : k = t.size := by omega
      subst hke
      have hok : (decide (t.size = 64) && (t.data.toList.take t.size).all isHex) = okT t.data.toList := by
        rw [List.take_of_length_le (by show t.size ≤ t.size; exact Nat.le_refl _)]
        rfl
      rw [hok]
      clear hok
      cases hr : okT t.data.toList with
      | false =>
        have hDD : D = bcells (List.replicate 32 0) := by rw [HD.out]; unfold parseL; rw [hr]; rfl
        have hEE : E = 3 := by rw [HE.out]; unfold parseE; rw [hr]; rfl
        subst hEE
        have HDD := Lib.hid hDD
        clear hDD
        go_upto_region 14 with fail
        refine wp_region_lit ?_
        refine wpList_step (fun K hK => ?_)
        go_simp
        refine (awake_any _ (tab_below HT.out (BW6 HW0.out HB6.out))).mono ?_
        rintro e w7 ⟨rfl, hb7⟩
        have HB7 := Lib.hid ((BW6 HW0.out HB6.out).trans (hb7.mono (BW6 HW0.out HB6.out).size))
        have HG7 := Lib.hid ((hb7.block _ hlW6).trans HG6.out)
        clear hb7
        refine hK _ _ ?_
        clear hK K
        refine wpList_step (fun K hK => ?_)
        go_simp
        refine hK _ _ ?_
        clear hK K
        refine wpList_load_rowg (by rfl) 27 _ rfl G2 rfl 27 D (0, 0) _ HG7.out Tryd.underlying27 (isArr 32 5) (by rw [HDz.out]; kernel_rfl) ?_
        simp only [Act.put, List.setIfInBounds_toArray, List.set_cons_zero, List.set_cons_succ]
        refine wpList_step (fun K hK => ?_)
        go_simp
        refine hK _ _ ?_
        clear hK K
        rw [show (Value.agg #[.int .u8 0, .int .u8 0, .int .u8 0, .int .u8 0, .int .u8 0, .int .u8 0, .int .u8 0, .int .u8 0, .int .u8 0, .int .u8 0, .int .u8 0, .int .u8 0, .int .u8 0, .int .u8 0, .int .u8 0, .int .u8 0, .int .u8 0, .int .u8 0, .int .u8 0, .int .u8 0, .int .u8 0, .int .u8 0, .int .u8 0, .int .u8 0, .int .u8 0, .int .u8 0, .int .u8 0, .int .u8 0, .int .u8 0, .int .u8 0, .int .u8 0, .int .u8 0]) = .agg D by rw [HDD.out]; rfl]
        refine wpList_step (fun K hK => ?_)
        go_simp
        rw [show (Op.equalIn 10000 27 (.agg D) (.agg D)).run Tryd.prog w7 = .ok true w7 by rw [HDD.out]; exact eq_bcells _ rfl _]
        go_simp
        refine hK _ _ ?_
        clear hK K
        go_wp2
        go_ret
        exact ⟨rfl, HB7.out⟩
      | true =>
        have hDD : D = bcells (pl t.data.toList 64) := by rw [HD.out]; unfold parseL; rw [hr]; rfl
        have hEE : E = 0 := by rw [HE.out]; unfold parseE; rw [hr]; rfl
        subst hEE
        have hlen : t.data.toList.length = 64 ∧ t.data.toList.all isHex = true := by
          unfold okT at hr
          rw [Bool.and_eq_true] at hr
          exact ⟨by simpa using hr.1, hr.2⟩
        have hhex2 : ∀ W, Calls Tryd.prog 16 #[.agg D] W fun e w' => e = .returned (.string t) ∧ Below W.heap.size W w' := by
          intro W
          have := hex_any (pl t.data.toList 64) (pl_len _ _) W
          rw [← hDD, hex_pl t.data.toList hlen.1 hlen.2] at this
          exact this
        have HH2 := Lib.hid hhex2
        clear hDD hhex2 hlen hr HHex
        go_upto_region 15 with fail
        refine wp_region_lit ?_
        refine wpList_step (fun K hK => ?_)
        go_simp
        refine (awake_any _ (tab_below HT.out (BW6 HW0.out HB6.out))).mono ?_
        rintro e w7 ⟨rfl, hb7⟩
        have HB7 := Lib.hid ((BW6 HW0.out HB6.out).trans (hb7.mono (BW6 HW0.out HB6.out).size))
        have HG7 := Lib.hid ((hb7.block _ hlW6).trans HG6.out)
        clear hb7
        refine hK _ _ ?_
        clear hK K
        refine wpList_step (fun K hK => ?_)
        go_simp
        refine hK _ _ ?_
        clear hK K
        refine wpList_step (fun K hK => ?_)
        go_simp
        refine hK _ _ ?_
        clear hK K
        refine wpList_step (fun K hK => ?_)
        go_simp
        refine hK _ _ ?_
        clear hK K
        refine wpList_step (fun K hK => ?_)
        go_simp
        refine hK _ _ ?_
        clear hK K
        refine wpList_step (fun K hK => ?_)
        go_simp
        refine hK _ _ ?_
        clear hK K
        refine wpList_load_rowg (by rfl) 27 _ rfl G2 rfl 27 D (0, 0) _ HG7.out Tryd.underlying27 (isArr 32 5) (by rw [HDz.out]; kernel_rfl) ?_
        simp only [Act.put, List.setIfInBounds_toArray, List.set_cons_zero, List.set_cons_succ]
        go_wp2_with fail
        refine (HH2.out _).mono ?_
        rintro e w8 ⟨rfl, hb8⟩
        have HB8 := Lib.hid (HB7.out.trans (hb8.mono HB7.out.size))
        clear hb8
        go_wp2
        go_ret
        exact ⟨rfl, HB8.out⟩
end Go.Proofs.YtcanoegffffdfaaDoor.Sha
