import Derived.Test.YtlpnecmcncekcaaGreatPgT
import Derived.Test.YtlpnecmcncekcaaGreatTabCO
/- The page's table: Count, out of what its All is. -/
namespace Go.Proofs.YtlpnecmcncekcaaGreat.Mk
open Go Go.RowKit Go.MuLone

set_option maxRecDepth 20000 in
set_option maxHeartbeats 2000000 in
theorem pcount (T : Nat) (s : Int) (L : List En) (hL : L.length ≤ 1000) (w : World)
    (hall : Calls Tryz.prog 44 #[.pointer (some ⟨T, 0, none⟩)] w fun e w' => ∃ v, e = .returned v ∧ RowE w.heap.size w' v L ∧ Below w.heap.size w w') :
    Calls Tryz.prog 25 #[.pointer (some ⟨T, 0, none⟩), .int .i64 s] w fun e w' => e = .returned (.int .i64 (cntS s L : Int)) ∧ Below w.heap.size w w' := by
  have HA := Lib.hid hall
  clear hall
  go_enter Tryz.func25, Tryz.ntmps25
  go_wp2_with fail
  refine HA.out.mono ?_
  rintro _ w1 ⟨v, rfl, hre, hB⟩
  obtain ⟨A, c, rfl⟩ := hre.form
  have HX := Lib.hid (And.intro hre hB)
  obtain ⟨m, hmd⟩ : ∃ m, m = L.length := ⟨_, rfl⟩
  have HM := Lib.hid hmd
  rw [← hmd] at HX hL ⊢
  clear hre hB hmd HA
  go_wp2_with fail
  go_loopw [6, 7] (fun nv iv wr => ∃ k : Nat, nv = .int .i64 (cntS s (L.take k) : Int) ∧ iv = .int .i64 (k : Int) ∧ k ≤ m ∧ Below w1.heap.size w1 wr) (fun _ iv _ => m - (intOf iv).toNat)
  case atStart => exact ⟨0, by simp [cntS], rfl, Nat.zero_le _, Below.refl _ _⟩
  case round =>
    obtain ⟨k, rfl, rfl, hk, hB⟩ := hrel
    have HB := Lib.hid hB
    clear hB
    by_cases hkm : k < m
    · have hk0 : (0 : Int) ≤ (k : Int) := by omega
      have hk1 : (k : Int) < (m : Int) := by omega
      have hc1 := cntS_le s (L.take k)
      rw [List.length_take] at hc1
      have ht := cntS_take s L k (by have := HM.out; omega)
      obtain ⟨g, c9, hv, -, -, he⟩ := (HX.out.1.below HB.out).at k (by have := HM.out; omega)
      injection hv with hv hvn hv2
      clear hvn
      subst hv hv2
      generalize L[k]'(by have := HM.out; omega) = x at ht he
      generalize hz : cntS s (L.take k) = z at ht hc1 ⊢
      clear hz
      obtain ⟨⟨kc, kf, ks⟩, st, ow⟩ := x
      obtain ⟨e0, e1, e2, e3, e4⟩ := he
      dsimp only at ht e0 e1 e2 e3 e4
      have hz8 : z ≤ 1000 := by omega
      clear hc1
      by_cases hs : st = s
      · rw [if_pos hs] at ht
        have HT := Lib.hid ht
        subst hs
        clear ht
        go_wp2
        go_roundw
        case rel => exact ⟨k + 1, by rw [HT.out]; go_num, by go_num, hkm, HB.out⟩
        case measure => simp [intOf]; omega
      · rw [if_neg hs] at ht
        have HT := Lib.hid ht
        clear ht
        go_wp2
        go_roundw
        case rel => exact ⟨k + 1, by rw [HT.out], by go_num, hkm, HB.out⟩
        case measure => simp [intOf]; omega
    · obtain rfl : k = m := by omega
      have hend : cntS s (L.take k) = cntS s L := by rw [HM.out, List.take_length]
      have HE := Lib.hid (And.intro hend (HX.out.2.trans (HB.out.mono HX.out.2.size)))
      clear hend
      go_wp2
      go_ret
      exact ⟨by rw [HE.out.1]; rfl, HE.out.2⟩
end Go.Proofs.YtlpnecmcncekcaaGreat.Mk
/- The page's table: Owned, out of what its All is. -/
namespace Go.Proofs.YtlpnecmcncekcaaGreat.Mk
open Go Go.RowKit Go.MuLone

set_option maxRecDepth 20000 in
set_option maxHeartbeats 4000000 in
theorem powned (T : Nat) (who : Int) (L : List En) (hL : L.length ≤ 1000) (w : World)
    (hall : Calls Tryz.prog 44 #[.pointer (some ⟨T, 0, none⟩)] w fun e w' => ∃ v, e = .returned v ∧ RowE w.heap.size w' v L ∧ Below w.heap.size w w') :
    Calls Tryz.prog 22 #[.pointer (some ⟨T, 0, none⟩), .int .i64 who] w fun e w' => ∃ v, e = .returned v ∧ w'.ownsRow w.heap.size 41 3 v (keysOf who L).length (kcs (keysOf who L)) ∧ Below w.heap.size w w' := by
  obtain ⟨i0, hinf, hz0, hz1, hz2⟩ := info_partsE infoKy
  have HA := Lib.hid hall
  clear hall
  go_enter Tryz.func22, Tryz.ntmps22
  go_wp2_with fail
  refine HA.out.mono ?_
  rintro _ w1 ⟨v, rfl, hre, hB⟩
  obtain ⟨A, c, rfl⟩ := hre.form
  have HX := Lib.hid (And.intro hre hB)
  obtain ⟨m, hmd⟩ : ∃ m, m = L.length := ⟨_, rfl⟩
  have HM := Lib.hid hmd
  rw [← hmd] at HX hL ⊢
  clear hre hB hmd HA
  go_wp2_with fail
  go_loopw [6, 7] (fun lv iv wr => ∃ (k : Nat) (B : Option Addr) (n d : Nat), lv = .slice B n d ∧ iv = .int .i64 (k : Int) ∧ k ≤ m ∧ Below w1.heap.size w1 wr ∧ wr.ownsRow w1.heap.size 41 3 (.slice B n d) (keysOf who (L.take k)).length (kcs (keysOf who (L.take k)))) (fun _ iv _ => m - (intOf iv).toNat)
  case atStart => exact ⟨0, none, 0, 0, rfl, rfl, Nat.zero_le _, Below.refl _ _, World.ownsRow_nil _ _ _ _⟩
  case round =>
    obtain ⟨k, B, n, d, rfl, rfl, hk, hB, hO⟩ := hrel
    have HB := Lib.hid hB
    have HO := Lib.hid hO
    clear hB hO
    by_cases hkm : k < m
    · have hk0 : (0 : Int) ≤ (k : Int) := by omega
      have hk1 : (k : Int) < (m : Int) := by omega
      have hc1 := keys_le who (L.take k)
      rw [List.length_take] at hc1
      have ht := keys_take who L k (by have := HM.out; omega)
      obtain ⟨g, c9, hv, -, -, he⟩ := (HX.out.1.below HB.out).at k (by have := HM.out; omega)
      injection hv with hv hvn hv2
      clear hvn
      subst hv hv2
      generalize L[k]'(by have := HM.out; omega) = x at ht he
      generalize keysOf who (L.take k) = z at ht hc1 HO
      have hzl : z.length ≤ 1000 := by omega
      have HZl := Lib.hid hzl
      clear hc1 hzl
      obtain ⟨⟨kc, kf, ks⟩, st, ow⟩ := x
      obtain ⟨e0, e1, e2, e3, e4⟩ := he
      dsimp only at ht e0 e1 e2 e3 e4
      by_cases hs : st = 2 ∧ ow = who
      · rw [if_pos hs] at ht
        have HT := Lib.hid ht
        obtain ⟨hs1, hs2⟩ := hs
        have hs3 := hs2.symm
        clear hs2
        subst hs1
        subst hs3
        clear ht
        have bl6 := (Below.refl _ wr).alloc (Nat.le_refl _) (.cells #[.int .i64 kc, .int .i64 kf, .int .u64 ks] 41)
        have HN := Lib.hid (World.news_of_block (heap_alloc_new wr (.cells #[.int .i64 kc, .int .i64 kf, .int .u64 ks] 41)))
        have hO6 : (wr.alloc (.cells #[.int .i64 kc, .int .i64 kf, .int .u64 ks] 41)).ownsRow w1.heap.size 41 3 (.slice B n d) z.length (kcs z) := by
          refine ⟨HO.out.1, ?_⟩
          rcases HO.out.2 with h2 | ⟨g', cap, cur, hv, hg, hh, r⟩
          · exact Or.inl h2
          · exact Or.inr ⟨g', cap, cur, hv, hg, (bl6.block g' (Array.getElem?_eq_some_iff.1 hh).1).trans hh, r⟩
        have HO6 := Lib.hid hO6
        have HB6 := Lib.hid (HB.out.trans (bl6.mono HB.out.size))
        have HSz : Hid (w1.heap.size ≤ (wr.alloc (.cells #[.int .i64 kc, .int .i64 kf, .int .u64 ks] 41)).heap.size) := HB6.out.size
        clear bl6 hO6
        go_wp2_with (at_builtin; refine wpList_append_lies _ rfl _ _ 58 rfl w1.heap.size 41 i0 (.agg #[.int .i64 0, .int .i64 0, .int .u64 0]) 3 24 Tryz.underlying58 hinf hz0 hz1 hz2 rfl (by decide) _ _ _ rfl HO6.out ⟨wr.heap.size, 0, none⟩ 1 1 [.int .i64 kc, .int .i64 kf, .int .u64 ks] rfl rfl HN.out (by intro u hu; simp at hu; rcases hu with rfl | rfl | rfl <;> rfl) (by decide) (by have := HZl.out; unfold maxLen; omega) (by have := HZl.out; omega) HSz.out _ rfl ?_)
        intro g1 cap1 w6 hown hg hat _
        have hB7 : Below w1.heap.size w1 w6 := HB6.out.grown hg HB6.out.size fun k hk => own_ge HO6.out k hk
        have hO7 : w6.ownsRow w1.heap.size 41 3 (.slice (some ⟨g1, 0, none⟩) (z.length + 1) cap1) (keysOf who (L.take (k + 1))).length (kcs (keysOf who (L.take (k + 1)))) := by
          rw [HT.out, kcs_append, List.length_append, List.length_singleton]
          exact hown
        have H7 := Lib.hid (And.intro hB7 hO7)
        clear hown hg hat hB7 hO7 HN HO6 HB6
        go_wp2
        go_roundw
        case rel => exact ⟨k + 1, _, _, _, rfl, by go_num, hkm, H7.out⟩
        case measure => simp [intOf]; omega
      · rw [if_neg hs] at ht
        have HT := Lib.hid ht
        clear ht
        have H7 : Hid (Below w1.heap.size w1 wr ∧ wr.ownsRow w1.heap.size 41 3 (.slice B n d) (keysOf who (L.take (k + 1))).length (kcs (keysOf who (L.take (k + 1))))) := Lib.hid ⟨HB.out, by rw [HT.out]; exact HO.out⟩
        by_cases hs1 : st = 2
        · subst hs1
          have hs2 : ¬ ow = who := fun e => hs ⟨rfl, e⟩
          have hs3 : (ow == who) = false := by simp [hs2]
          have hs4 : decide (ow = who) = false := by simp [hs2]
          clear hs
          go_wp2
          go_roundw
          case rel => exact ⟨k + 1, _, _, _, rfl, by go_num, hkm, H7.out⟩
          case measure => simp [intOf]; omega
        · clear hs
          go_wp2
          go_roundw
          case rel => exact ⟨k + 1, _, _, _, rfl, by go_num, hkm, H7.out⟩
          case measure => simp [intOf]; omega
    · obtain rfl : k = m := by omega
      have hO := HO.out
      rw [HM.out, List.take_length] at hO
      have hOw : wr.ownsRow w.heap.size 41 3 (.slice B n d) (keysOf who L).length (kcs (keysOf who L)) := by
        refine ⟨hO.1, ?_⟩
        rcases hO.2 with h2 | ⟨g', cap, cur, hv, hg, r⟩
        · exact Or.inl h2
        · exact Or.inr ⟨g', cap, cur, hv, Nat.le_trans HX.out.2.size hg, r⟩
      have HE := Lib.hid (And.intro hOw (HX.out.2.trans (HB.out.mono HX.out.2.size)))
      clear hO hOw
      go_wp2
      go_ret
      exact ⟨_, rfl, HE.out⟩
end Go.Proofs.YtlpnecmcncekcaaGreat.Mk
