import Derived.Test.YtdljphbfbiganaaGreatDoorGStOBase
import Derived.Shelf.Small.Bits
import Derived.Sort.Walk7a
import Derived.Sort.Walk7
import Derived.Deep.RegionHeld3
import Derived.Deep.CutBlock
import Derived.Deep.DeepCutAuto
/- math/bits.Len (the shelf's contract laid), slices.nextPowerOfTwo, the random numbers of slices. -/
namespace Go.Proofs.YtdljphbfbiganaaGreatDoor.So
open Go Go.RowKit Go.Sort Go.Proofs Go.Shelf Go.Lib
set_option linter.unusedVariables false

def laysLen_ren : Go.Shelf.Ren := ⟨fun | 125 => 70 | 128 => 88 | 129 => 89 | n => n, fun | 3 => 3 | 4 => 4 | 5 => 5 | 9 => 9 | 46 => 114 | 51 => 85 | 53 => 31 | n => n, fun | n => n⟩
theorem laysLen : Go.Proofs.Lays.n125 Tryz.prog laysLen_ren := {
  mixed := by kernel_rfl
  f125 := Tryz.func70.trans (congrArg some (by kernel_rfl))
  f128 := Tryz.func88.trans (congrArg some (by kernel_rfl))
  f129 := Tryz.func89.trans (congrArg some (by kernel_rfl))
  t3 := Tryz.underlying3
  a3 := Tryz.isAgg3
  z3 := Tryz.sizeOf3
  v3 := Tryz.zeroValue3
  t4 := Tryz.underlying4
  a4 := Tryz.isAgg4
  z4 := Tryz.sizeOf4
  v4 := Tryz.zeroValue4
  t5 := Tryz.underlying5
  a5 := Tryz.isAgg5
  z5 := Tryz.sizeOf5
  v5 := Tryz.zeroValue5
  t9 := Tryz.underlying9
  a9 := Tryz.isAgg9
  z9 := Tryz.sizeOf9
  v9 := Tryz.zeroValue9
  t46 := Tryz.underlying114
  a46 := Tryz.isAgg114
  z46 := Tryz.sizeOf114
  v46 := Tryz.zeroValue114
  t51 := Tryz.underlying85
  a51 := Tryz.isAgg85
  z51 := Tryz.sizeOf85
  v51 := Tryz.zeroValue85
  t53 := Tryz.underlying31
  a53 := Tryz.isAgg31
  z53 := Tryz.sizeOf31
  v53 := Tryz.zeroValue31 }
theorem blen (n : Nat) (hn : n < 4611686018427387904) (w : World) : Calls Tryz.prog 70 #[.int .u64 (n : Int)] w fun e w' => e = .returned (.int .i64 (bitsLen n : Nat)) ∧ w' = w := by
  have h := Any.bits_Len laysLen (n : Int) w (by omega) (by omega)
  rwa [Int.toNat_natCast, bitLen_eq _ (by omega)] at h
set_option maxRecDepth 20000 in
theorem npot (n : Nat) (hn : n < 4611686018427387904) (w : World) : Calls Tryz.prog 97 #[.int .i64 (n : Int)] w fun e w' => e = .returned (.int .u64 ((1 <<< bitsLen n : Nat) : Int)) ∧ w' = w := by
  have hk : bitsLen n ≤ 62 := (bitsLen_le_iff n 62).2 (by omega)
  have hp := wrap_two_pow (bitsLen n) hk
  have wr : IntKind.u64.wrap (n : Int) = n := by simp [IntKind.wrap, IntKind.bits, IntKind.signed]; omega
  have HL := Lib.hid (blen n hn)
  go_enter Tryz.func97, Tryz.ntmps97
  go_wp2_with fail
  refine (HL.out _).mono ?_
  rintro _ _ ⟨rfl, rfl⟩
  go_wp2
  go_ret
  exact ⟨rfl, rfl⟩
set_option maxHeartbeats 2000000 in
set_option maxRecDepth 20000 in
theorem xnext (K X : Nat) (hX : X < 18446744073709551616) (w : World) (hc : w.cell? ⟨K, 0, none⟩ = some (.int .u64 X)) (hf : w.frozen? ⟨K, 0, none⟩ = false) :
    Calls Tryz.prog 98 #[.pointer (some ⟨K, 0, none⟩)] w fun e w' => e = .returned (.int .u64 (xorNextN X : Nat)) ∧ w' = (w.setCell ⟨K, 0, none⟩ (.int .u64 (xorNextN X : Nat))).drewN 3 := by
  obtain ⟨A, hA⟩ : ∃ A : Nat, A = X ^^^ (X * 8192 % 18446744073709551616) := ⟨_, rfl⟩
  obtain ⟨B, hB⟩ : ∃ B : Nat, B = A ^^^ (A / 128) := ⟨_, rfl⟩
  obtain ⟨C, hC⟩ : ∃ C : Nat, C = B ^^^ (B * 131072 % 18446744073709551616) := ⟨_, rfl⟩
  have lA : A < 18446744073709551616 := by rw [hA]; exact Nat.xor_lt_two_pow (n := 64) (by omega) (by omega)
  have lB : B < 18446744073709551616 := by rw [hB]; exact Nat.xor_lt_two_pow (n := 64) (by omega) (by omega)
  have e1 : bits .xor .u64 (X : Int) (IntKind.u64.wrap ((X : Int) * 8192)) = (A : Int) := by
    rw [IntKind.wrap_u64, show ((X : Int) * 8192 % 18446744073709551616) = ((X * 8192 % 18446744073709551616 : Nat) : Int) by omega, bits_xor_u64_nat _ _ hX (by omega), hA]
  have e2 : bits .xor .u64 (A : Int) ((A : Int) / 128) = (B : Int) := by
    rw [show ((A : Int) / 128) = ((A / 128 : Nat) : Int) by omega, bits_xor_u64_nat _ _ lA (by omega), hB]
  have e3 : bits .xor .u64 (B : Int) (IntKind.u64.wrap ((B : Int) * 131072)) = (C : Int) := by
    rw [IntKind.wrap_u64, show ((B : Int) * 131072 % 18446744073709551616) = ((B * 131072 % 18446744073709551616 : Nat) : Int) by omega, bits_xor_u64_nat _ _ lB (by omega), hC]
  have hv : xorNextN X = C := by unfold xorNextN; simp only []; rw [← hA, ← hB, ← hC]
  rw [hv]
  clear hA hB hC hv
  have hss : ∀ v v', (w.setCell ⟨K, 0, none⟩ v).setCell ⟨K, 0, none⟩ v' = w.setCell ⟨K, 0, none⟩ v' := setCell_setCell w K 0
  go_enter Tryz.func98, Tryz.ntmps98
  go_wp2
  go_region
  all_goals go_wp2
  all_goals go_region
  all_goals go_wp2
  all_goals go_region
  all_goals go_wp2
  go_ret
  exact ⟨rfl, rfl⟩
end Go.Proofs.YtdljphbfbiganaaGreatDoor.So
/- breakPatterns -/
namespace Go.Proofs.YtdljphbfbiganaaGreatDoor.So
open Go Go.RowKit Go.Sort Go.Proofs Go.Lib
set_option linter.unusedVariables false

set_option maxHeartbeats 4000000 in
set_option maxRecDepth 20000 in
/-- The arm 'length >= 8', b written as a + M. -/
theorem brk_go (g n cap : Nat) (hn : n < 4611686018427387904) (a M : Nat) (h8 : 8 ≤ M) (hb : a + M ≤ n) (d : Array Int) (w0 w : World) (H0 : AtO g n w0 d w) :
    Calls Tryz.prog 81 #[.slice (some ⟨g, 0, none⟩) n cap, .int .i64 (a : Int), .int .i64 ((a + M : Nat) : Int)] w fun e w' => e = .returned (.tuple #[]) ∧ AtO g n w0 (breakPatterns d a (a + M)) w' := by
  rw [breakPatterns_eq d a M h8]
  obtain ⟨Q, hQ⟩ : ∃ Q : Nat, Q = 1 <<< bitsLen M := ⟨_, rfl⟩
  have hQ1 : 1 ≤ Q := by rw [hQ, Nat.one_shiftLeft]; exact Nat.two_pow_pos _
  have hQ2 : Q ≤ 2 * M := by rw [hQ, Nat.one_shiftLeft]; exact two_pow_bitsLen_le (by omega)
  have HNP := Lib.hid (fun w => npot M (by omega) w)
  rw [← hQ] at HNP ⊢
  clear hQ
  have hMz : ((a : Int) + (M : Int) - (a : Int)) = (M : Int) := by omega
  have h8z : (8 : Int) ≤ (M : Int) := by omega
  have HS0 := Lib.hid (CtO.start (t := 140) H0 (.int .u64 (M : Int)))
  obtain ⟨K, hK⟩ : ∃ K, K = w.heap.size := ⟨_, rfl⟩
  obtain ⟨w1, hw1⟩ : ∃ X, X = w.alloc (.cells #[.int .u64 (M : Int)] 140) := ⟨_, rfl⟩
  rw [← hK, ← hw1] at HS0
  have hwM : IntKind.u64.wrap (M : Int) = (M : Int) := by rw [IntKind.wrap_u64]; omega
  clear H0
  go_enter Tryz.func81, Tryz.ntmps81
  go_upto_region 3 with fail
  rw [← hw1, ← hK]
  clear hw1 hK hwM
  go_wp2_with fail
  refine (HNP.out _).mono ?_
  rintro _ _ ⟨rfl, rfl⟩
  go_wp2
  go_loopg [9] 3 (fun g1 vi wr => ∃ (t : Nat) (r : UInt64) (dk : Array Int), vi = .int .i64 ((a : Int) + (M : Int) / 4 * 2 - 1 + (t : Int)) ∧ t ≤ 3 ∧ 3 - t ≤ g1 ∧ CtO g n w0 K dk (.int .u64 (r.toNat : Int)) wr ∧
      Hid (bpRest a M Q (a + M / 4 * 2 - 1) (3 - t) t (r, dk) = bpRest a M Q (a + M / 4 * 2 - 1) 3 0 (UInt64.ofNat M, d)))
  case atStart =>
    refine ⟨0, UInt64.ofNat M, d, by simp, by omega, by omega, ?_, Lib.hid rfl⟩
    rw [show (UInt64.ofNat M).toNat = M from by simp; omega]
    exact HS0.out
  case round =>
    clear HS0 HNP
    obtain ⟨t, r, dk, rfl, ht, hg1, H, HR⟩ := hrel
    by_cases ht3 : t < 3
    · have hle : (a : Int) + (M : Int) / 4 * 2 - 1 + (t : Int) ≤ (a : Int) + (M : Int) / 4 * 2 + 1 := by omega
      obtain ⟨R, hRr⟩ : ∃ R : Nat, R = r.toNat := ⟨_, rfl⟩
      have lR : R < 18446744073709551616 := by rw [hRr]; exact r.toNat_lt
      obtain ⟨R', hR'⟩ : ∃ R' : Nat, R' = xorNextN R := ⟨_, rfl⟩
      have lR' : R' < 18446744073709551616 := by rw [hR']; exact xorNextN_lt R lR
      obtain ⟨O, hO⟩ : ∃ O : Nat, O = R' &&& (Q - 1) := ⟨_, rfl⟩
      have lO : O ≤ Q - 1 := by rw [hO]; exact Nat.and_le_right
      have eAnd : bits .and .u64 (R' : Int) ((Q : Int) - 1) = (O : Int) := by
        rw [show ((Q : Int) - 1) = ((Q - 1 : Nat) : Int) by omega, bits_and_u64_nat _ _ lR' (by omega), hO]
      rw [← hRr] at H
      have hNext := xnext K R lR wr H.at_ H.f
      rw [← hR'] at hNext
      have HN : Hid (R' = (xorNext r).toNat ∧ O = (xorNext r).toNat &&& (Q - 1)) := Lib.hid (by
        have e : R' = (xorNext r).toNat := by rw [hR', hRr, xorNext_toNat]
        exact ⟨e, by rw [hO, e]⟩)
      have S2 := Lib.hid ((H.turn (.int .u64 (R' : Int))).drewN 3)
      clear hRr hR' hO
      generalize (wr.setCell ⟨K, 0, none⟩ (.int .u64 (R' : Int))).drewN 3 = w2 at hNext S2
      have HNx := Lib.hid hNext
      have hwO : IntKind.i64.wrap (O : Int) = (O : Int) := by rw [IntKind.wrap_i64]; omega
      have hwQ : IntKind.u64.wrap ((Q : Int) - 1) = (Q : Int) - 1 := by rw [IntKind.wrap_u64]; omega
      clear H hNext lR'
      by_cases hMO : M ≤ O
      · have hMOz : (M : Int) ≤ (O : Int) := by omega
        go_wp2_with fail
        refine HNx.out.mono ?_
        rintro _ _ ⟨rfl, rfl⟩
        go_upto_region 10 with fail
        obtain ⟨ix, hix⟩ : ∃ ix : Nat, ix = a + M / 4 * 2 - 1 + t := ⟨_, rfl⟩
        have eix : (a : Int) + (M : Int) / 4 * 2 - 1 + (t : Int) = (ix : Int) := by omega
        have wix : IntKind.i64.wrap (ix : Int) = (ix : Int) := by rw [IntKind.wrap_i64]; omega
        have ix0 : (0 : Int) ≤ (ix : Int) := by omega
        have ix1 : (ix : Int) < (n : Int) := by omega
        have cix := S2.out.st.cell ix (by omega)
        obtain ⟨x, hx⟩ : ∃ x, x = (dk)[ix]! := ⟨_, rfl⟩
        rw [← hx] at cix
        obtain ⟨ao, hao⟩ : ∃ ao : Nat, ao = a + (O - M) := ⟨_, rfl⟩
        have eao : (a : Int) + ((O : Int) - (M : Int)) = (ao : Int) := by omega
        have wao : IntKind.i64.wrap (ao : Int) = (ao : Int) := by rw [IntKind.wrap_i64]; omega
        have ao0 : (0 : Int) ≤ (ao : Int) := by omega
        have ao1 : (ao : Int) < (n : Int) := by omega
        have cao := S2.out.st.cell ao (by omega)
        obtain ⟨y, hy⟩ : ∃ y, y = (dk)[ao]! := ⟨_, rfl⟩
        rw [← hy] at cao
        have HPQ := Lib.hid (And.intro (And.intro hix hx) (And.intro hao hy))
        have fz := S2.out.st.frz
        clear hx hy hix hao HNx
        have HS := Lib.hid (S2.out.swapL HPQ.out (by omega) (by omega))
        by_cases hpq : ix = ao
        · subst hpq
          obtain rfl : x = y := by have h1 := cix.symm.trans cao; injection h1 with h1; injection h1
          go_region
          go_wp2
          go_roundg (3 - (t + 1))
          case measure => omega
          case rel => exact ⟨t + 1, xorNext r, swp dk (a + M / 4 * 2 - 1 + t) (a + (O - M)), by congr 1; push_cast; omega, by omega, Nat.le_refl _, by rw [← HN.out.1]; exact HS.out _,
            Lib.hid (by rw [← HR.out, bp_step a M Q _ t r dk (O - M) ht3 (by rw [← HN.out.2, if_pos (by omega)])])⟩
        · have hqp : ¬ ao = ix := fun e => hpq e.symm
          go_region
          go_wp2
          go_roundg (3 - (t + 1))
          case measure => omega
          case rel => exact ⟨t + 1, xorNext r, swp dk (a + M / 4 * 2 - 1 + t) (a + (O - M)), by congr 1; push_cast; omega, by omega, Nat.le_refl _, by rw [← HN.out.1]; exact HS.out _,
            Lib.hid (by rw [← HR.out, bp_step a M Q _ t r dk (O - M) ht3 (by rw [← HN.out.2, if_pos (by omega)])])⟩
      · have hMOz : ¬ (M : Int) ≤ (O : Int) := by omega
        go_wp2_with fail
        refine HNx.out.mono ?_
        rintro _ _ ⟨rfl, rfl⟩
        go_upto_region 10 with fail
        obtain ⟨ix, hix⟩ : ∃ ix : Nat, ix = a + M / 4 * 2 - 1 + t := ⟨_, rfl⟩
        have eix : (a : Int) + (M : Int) / 4 * 2 - 1 + (t : Int) = (ix : Int) := by omega
        have wix : IntKind.i64.wrap (ix : Int) = (ix : Int) := by rw [IntKind.wrap_i64]; omega
        have ix0 : (0 : Int) ≤ (ix : Int) := by omega
        have ix1 : (ix : Int) < (n : Int) := by omega
        have cix := S2.out.st.cell ix (by omega)
        obtain ⟨x, hx⟩ : ∃ x, x = (dk)[ix]! := ⟨_, rfl⟩
        rw [← hx] at cix
        obtain ⟨ao, hao⟩ : ∃ ao : Nat, ao = a + (O) := ⟨_, rfl⟩
        have eao : (a : Int) + (O : Int) = (ao : Int) := by omega
        have wao : IntKind.i64.wrap (ao : Int) = (ao : Int) := by rw [IntKind.wrap_i64]; omega
        have ao0 : (0 : Int) ≤ (ao : Int) := by omega
        have ao1 : (ao : Int) < (n : Int) := by omega
        have cao := S2.out.st.cell ao (by omega)
        obtain ⟨y, hy⟩ : ∃ y, y = (dk)[ao]! := ⟨_, rfl⟩
        rw [← hy] at cao
        have HPQ := Lib.hid (And.intro (And.intro hix hx) (And.intro hao hy))
        have fz := S2.out.st.frz
        clear hx hy hix hao HNx
        have HS := Lib.hid (S2.out.swapL HPQ.out (by omega) (by omega))
        by_cases hpq : ix = ao
        · subst hpq
          obtain rfl : x = y := by have h1 := cix.symm.trans cao; injection h1 with h1; injection h1
          go_region
          go_wp2
          go_roundg (3 - (t + 1))
          case measure => omega
          case rel => exact ⟨t + 1, xorNext r, swp dk (a + M / 4 * 2 - 1 + t) (a + (O)), by congr 1; push_cast; omega, by omega, Nat.le_refl _, by rw [← HN.out.1]; exact HS.out _,
            Lib.hid (by rw [← HR.out, bp_step a M Q _ t r dk (O) ht3 (by rw [← HN.out.2, if_neg (by omega)])])⟩
        · have hqp : ¬ ao = ix := fun e => hpq e.symm
          go_region
          go_wp2
          go_roundg (3 - (t + 1))
          case measure => omega
          case rel => exact ⟨t + 1, xorNext r, swp dk (a + M / 4 * 2 - 1 + t) (a + (O)), by congr 1; push_cast; omega, by omega, Nat.le_refl _, by rw [← HN.out.1]; exact HS.out _,
            Lib.hid (by rw [← HR.out, bp_step a M Q _ t r dk (O) ht3 (by rw [← HN.out.2, if_neg (by omega)])])⟩
    · obtain rfl : t = 3 := by omega
      have hle : ¬ ((a : Int) + (M : Int) / 4 * 2 - 1 + ((3 : Nat) : Int) ≤ (a : Int) + (M : Int) / 4 * 2 + 1) := by omega
      have HD := Lib.hid H
      clear H
      go_wp2
      refine bodyPost_end (results_none rfl _ _ _) rfl ⟨rfl, ?_⟩
      rw [← HR.out]
      exact HD.out.st
set_option maxHeartbeats 2000000 in
set_option maxRecDepth 20000 in
theorem brk_any (g n cap : Nat) (hn : n < 4611686018427387904) (a b : Nat) (hab : a ≤ b) (hb : b ≤ n) (d : Array Int) (w0 w : World) (H0 : AtO g n w0 d w) :
    Calls Tryz.prog 81 #[.slice (some ⟨g, 0, none⟩) n cap, .int .i64 (a : Int), .int .i64 (b : Int)] w fun e w' => e = .returned (.tuple #[]) ∧ AtO g n w0 (breakPatterns d a b) w' := by
  obtain ⟨M, rfl⟩ : ∃ M, b = a + M := ⟨b - a, by omega⟩
  by_cases h8 : 8 ≤ M
  · exact brk_go g n cap hn a M h8 hb d w0 w H0
  · have hv : breakPatterns d a (a + M) = d := by unfold breakPatterns; simp only [Nat.add_sub_cancel_left]; rw [if_neg h8]
    rw [hv]
    have hMz : ((a : Int) + (M : Int) - (a : Int)) = (M : Int) := by omega
    have h8z : ¬ (8 : Int) ≤ (M : Int) := by omega
    have HT0 := Lib.hid H0
    clear H0 hv
    go_enter Tryz.func81, Tryz.ntmps81
    go_wp2
    refine bodyPost_end (results_none rfl _ _ _) rfl ⟨rfl, HT0.out⟩
end Go.Proofs.YtdljphbfbiganaaGreatDoor.So
