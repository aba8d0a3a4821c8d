import Derived.Test.YtlpnecmcncekcaaGreatTabAll
/- A table's Count. -/
namespace Go.Proofs.YtlpnecmcncekcaaGreat.Mk
open Go Go.RowKit Go.MuLone Conf

/-- how many entries are of a state -/
def cntS (s : Int) (l : List En) : Nat := (l.filter fun e => decide (e.st = s)).length
theorem cntS_perm {s : Int} {a b : List En} (h : a.Perm b) : cntS s a = cntS s b := (h.filter _).length_eq
theorem cntS_take (s : Int) (l : List En) (k : Nat) (h : k < l.length) : cntS s (l.take (k + 1)) = if l[k].st = s then cntS s (l.take k) + 1 else cntS s (l.take k) := by
  unfold cntS
  rw [List.take_succ_eq_append_getElem h, List.filter_append, List.length_append]
  by_cases e : l[k].st = s <;> simp [e]
theorem cntS_le (s : Int) (l : List En) : cntS s l ≤ l.length := List.length_filter_le _ _
section
variable {W : World} {y : Lay} {M : Maps}
set_option maxRecDepth 20000 in
set_option maxHeartbeats 2000000 in
theorem tcount (s : Int) (h : WT W y M) (hy : y.ok) (hm : MapsOk y M) (hhi : y.hi ≤ W.heap.size) :
    Calls Tryz.prog 24 #[.pointer (some ⟨y.T, 0, none⟩), .int .i64 s] W fun e w' => e = .returned (.int .i64 (cntS s (allE M y.n) : Int)) ∧ WT w' y M ∧ Rng y.lo y.hi W w' := by
  have HA := Lib.hid (tall h hy hm hhi)
  have HL := Lib.hid (allE_len hm hy y.n (Nat.le_refl _))
  have HY := Lib.hid hy
  clear h hy hm hhi
  go_enter Tryz.func24, Tryz.ntmps24
  go_wp2_with fail
  refine HA.out.mono ?_
  rintro _ w1 ⟨v, ls, rfl, hre, hpm, hpw, hwt, hR⟩
  obtain ⟨A, c, rfl⟩ := hre.form
  have HX := Lib.hid (And.intro hre (And.intro hpm (And.intro hwt hR)))
  obtain ⟨m, hmd⟩ : ∃ m, m = ls.length := ⟨_, rfl⟩
  have HM := Lib.hid hmd
  have h8 : m ≤ 1000 := by
    have h1 := hpm.length_eq
    have h2 := HL.out
    have h3 := HY.out.n8
    omega
  rw [← hmd] at HX ⊢
  clear hre hpm hpw hwt hR hmd HA
  go_wp2_with fail
  go_loopw [5, 11] (fun nv iv wr => ∃ k : Nat, nv = .int .i64 (cntS s (ls.take k) : Int) ∧ iv = .int .i64 (k : Int) ∧ k ≤ m ∧ Below w1.heap.size w1 wr) (fun _ iv _ => m - (intOf iv).toNat)
  case atStart => exact ⟨0, by simp [cntS], rfl, Nat.zero_le _, Below.refl _ _⟩
  case round =>
    obtain ⟨k, rfl, rfl, hk, hB⟩ := hrel
    have HB := Lib.hid hB
    clear hB
    by_cases hkm : k < m
    · have hk0 : (0 : Int) ≤ (k : Int) := by omega
      have hk1 : (k : Int) < (m : Int) := by omega
      have hc1 := cntS_le s (ls.take k)
      rw [List.length_take] at hc1
      have ht := cntS_take s ls k (by have := HM.out; omega)
      obtain ⟨g, c9, hv, -, -, he⟩ := (HX.out.1.below HB.out).at k (by have := HM.out; omega)
      injection hv with hv hvn hv2
      clear hvn
      subst hv hv2
      generalize ls[k]'(by have := HM.out; omega) = x at ht he
      generalize hz : cntS s (ls.take k) = z at ht hc1 ⊢
      have HZ := Lib.hid hz
      clear hz
      obtain ⟨⟨kc, kf, ks⟩, st, ow⟩ := x
      obtain ⟨e0, e1, e2, e3, e4⟩ := he
      dsimp only at ht e0 e1 e2 e3 e4
      have hbl := HB.out.alloc HB.out.size (.cells #[.int .i64 kc, .int .i64 kf, .int .u64 ks, .int .i64 st, .int .i64 ow] 54)
      have HBl := Lib.hid hbl
      clear hbl
      by_cases hs : st = s
      · rw [if_pos hs] at ht
        have HT := Lib.hid ht
        subst hs
        clear ht
        go_wp2
        go_roundw
        case rel => exact ⟨k + 1, by rw [HT.out]; go_num, by go_num, hkm, HBl.out⟩
        case measure => simp [intOf]; omega
      · rw [if_neg hs] at ht
        have HT := Lib.hid ht
        clear ht
        go_wp2
        go_roundw
        case rel => exact ⟨k + 1, by rw [HT.out], by go_num, hkm, HBl.out⟩
        case measure => simp [intOf]; omega
    · obtain rfl : k = m := by omega
      have hend : cntS s (ls.take k) = cntS s (allE M y.n) := by rw [HM.out, List.take_length]; exact cntS_perm HX.out.2.1
      have hW := HX.out.2.2.1.below HY.out HB.out
      have hR := HX.out.2.2.2.trans (Rng.of_below (lo := y.lo) (hi := y.hi) HB.out)
      have HE := Lib.hid (And.intro hend (And.intro hW hR))
      clear hend hW hR
      go_wp2
      go_ret
      exact ⟨by rw [HE.out.1]; rfl, HE.out.2⟩
end
end Go.Proofs.YtlpnecmcncekcaaGreat.Mk
/- A table's Owned. -/
namespace Go.Proofs.YtlpnecmcncekcaaGreat.Mk
open Go Go.RowKit Go.MuLone Conf

/-- the keys of the entries that somebody has claimed -/
def keysOf (who : Int) (l : List En) : List K3 := (l.filter fun e => decide (e.st = 2) && decide (e.ow = who)).map (·.k)
def kcs (l : List K3) : List Value := l.flatMap fun k => [.int .i64 k.c, .int .i64 k.f, .int .u64 k.s]
theorem kcs_append (a : List K3) (k : K3) : kcs (a ++ [k]) = kcs a ++ [.int .i64 k.c, .int .i64 k.f, .int .u64 k.s] := by simp [kcs]
theorem keys_take (who : Int) (l : List En) (k : Nat) (h : k < l.length) : keysOf who (l.take (k + 1)) = if l[k].st = 2 ∧ l[k].ow = who then keysOf who (l.take k) ++ [l[k].k] else keysOf who (l.take k) := by
  unfold keysOf
  rw [List.take_succ_eq_append_getElem h, List.filter_append, List.map_append]
  by_cases e : l[k].st = 2 <;> by_cases e2 : l[k].ow = who <;> simp [e, e2]
theorem keys_le (who : Int) (l : List En) : (keysOf who l).length ≤ l.length := by
  unfold keysOf; rw [List.length_map]; exact List.length_filter_le _ _
theorem infoKy : (Tryz.prog.info? 41).map (fun i => (i.zero, i.size, i.bytes)) = some (some (.agg #[.int .i64 0, .int .i64 0, .int .u64 0]), 3, 24) := by kernel_rfl
section
variable {W : World} {y : Lay} {M : Maps}
set_option maxRecDepth 20000 in
set_option maxHeartbeats 4000000 in
theorem towned (who : Int) (h : WT W y M) (hy : y.ok) (hm : MapsOk y M) (hhi : y.hi ≤ W.heap.size) :
    Calls Tryz.prog 21 #[.pointer (some ⟨y.T, 0, none⟩), .int .i64 who] W fun e w' => ∃ v ls, e = .returned v ∧ ls.Perm (allE M y.n) ∧ ls.Pairwise (fun a b => ltE b a = false) ∧ w'.ownsRow W.heap.size 41 3 v (keysOf who ls).length (kcs (keysOf who ls)) ∧ WT w' y M ∧ Rng y.lo y.hi W w' := by
  obtain ⟨i0, hinf, hz0, hz1, hz2⟩ := info_partsE infoKy
  have HA := Lib.hid (tall h hy hm hhi)
  have HL := Lib.hid (allE_len hm hy y.n (Nat.le_refl _))
  have HY := Lib.hid hy
  clear h hy hm hhi
  go_enter Tryz.func21, Tryz.ntmps21
  go_wp2_with fail
  refine HA.out.mono ?_
  rintro _ w1 ⟨v, ls, rfl, hre, hpm, hpw, hwt, hR⟩
  obtain ⟨A, c, rfl⟩ := hre.form
  have HX := Lib.hid (And.intro hre (And.intro hpm (And.intro hpw (And.intro hwt hR))))
  obtain ⟨m, hmd⟩ : ∃ m, m = ls.length := ⟨_, rfl⟩
  have HM := Lib.hid hmd
  have h8 : m ≤ 1000 := by
    have h1 := hpm.length_eq
    have h2 := HL.out
    have h3 := HY.out.n8
    omega
  rw [← hmd] at HX ⊢
  clear hre hpm hpw hwt hR hmd HA
  go_wp2_with fail
  go_loopw [5, 11] (fun lv iv wr => ∃ (k : Nat) (B : Option Addr) (n d : Nat), lv = .slice B n d ∧ iv = .int .i64 (k : Int) ∧ k ≤ m ∧ Below w1.heap.size w1 wr ∧ wr.ownsRow w1.heap.size 41 3 (.slice B n d) (keysOf who (ls.take k)).length (kcs (keysOf who (ls.take k)))) (fun _ iv _ => m - (intOf iv).toNat)
  case atStart => exact ⟨0, none, 0, 0, rfl, rfl, Nat.zero_le _, Below.refl _ _, World.ownsRow_nil _ _ _ _⟩
  case round =>
    obtain ⟨k, B, n, d, rfl, rfl, hk, hB, hO⟩ := hrel
    have HB := Lib.hid hB
    have HO := Lib.hid hO
    clear hB hO
    by_cases hkm : k < m
    · have hk0 : (0 : Int) ≤ (k : Int) := by omega
      have hk1 : (k : Int) < (m : Int) := by omega
      have hc1 := keys_le who (ls.take k)
      rw [List.length_take] at hc1
      have ht := keys_take who ls k (by have := HM.out; omega)
      obtain ⟨g, c9, hv, -, -, he⟩ := (HX.out.1.below HB.out).at k (by have := HM.out; omega)
      injection hv with hv hvn hv2
      clear hvn
      subst hv hv2
      generalize ls[k]'(by have := HM.out; omega) = x at ht he
      generalize keysOf who (ls.take k) = z at ht hc1 HO
      have hzl : z.length ≤ 1000 := by omega
      have HZl := Lib.hid hzl
      clear hc1 hzl
      obtain ⟨⟨kc, kf, ks⟩, st, ow⟩ := x
      obtain ⟨e0, e1, e2, e3, e4⟩ := he
      dsimp only at ht e0 e1 e2 e3 e4
      have bl := (Below.refl _ wr).alloc (Nat.le_refl _) (.cells #[.int .i64 kc, .int .i64 kf, .int .u64 ks, .int .i64 st, .int .i64 ow] TEn)
      have hE := heap_alloc_new wr (.cells #[.int .i64 kc, .int .i64 kf, .int .u64 ks, .int .i64 st, .int .i64 ow] TEn)
      go_upto_region 5 with fail
      obtain ⟨E1, hE1⟩ : ∃ E1, E1 = wr.heap.size := ⟨_, rfl⟩
      obtain ⟨w5, hw5⟩ : ∃ V : World, V = wr.alloc (.cells #[.int .i64 kc, .int .i64 kf, .int .u64 ks, .int .i64 st, .int .i64 ow] TEn) := ⟨_, rfl⟩
      have HB5 := Lib.hid (HB.out.trans (bl.mono HB.out.size))
      have hO5 : w5.ownsRow w1.heap.size 41 3 (.slice B n d) z.length (kcs z) := by
        rw [hw5]
        refine ⟨HO.out.1, ?_⟩
        rcases HO.out.2 with h2 | ⟨g', cap, cur, hv, hg, hh, r⟩
        · exact Or.inl h2
        · exact Or.inr ⟨g', cap, cur, hv, hg, (bl.block g' (Array.getElem?_eq_some_iff.1 hh).1).trans hh, r⟩
      have HO5 := Lib.hid hO5
      rw [← hw5] at hE HB5 ⊢
      rw [← hE1] at hE ⊢
      clear hw5 hE1 bl e0 e1 e2 e3 e4 hO5 HO HB
      have f0 := cell_of_row w5 E1 0 _ _ (0, 0) hE
      have f1 := cell_of_row w5 E1 1 _ _ (0, 0) hE
      have f2 := cell_of_row w5 E1 2 _ _ (0, 0) hE
      have f3 := cell_of_row w5 E1 3 _ _ (0, 0) hE
      have f4 := cell_of_row w5 E1 4 _ _ (0, 0) hE
      clear hE
      by_cases hs : st = 2 ∧ ow = who
      · rw [if_pos hs] at ht
        have HT := Lib.hid ht
        obtain ⟨hs1, hs2⟩ := hs
        have hs3 := hs2.symm
        clear hs2
        subst hs1
        subst hs3
        clear ht
        have bl6 := (Below.refl _ w5).alloc (Nat.le_refl _) (.cells #[.int .i64 kc, .int .i64 kf, .int .u64 ks] 41)
        have HN := Lib.hid (World.news_of_block (heap_alloc_new w5 (.cells #[.int .i64 kc, .int .i64 kf, .int .u64 ks] 41)))
        have hO6 : (w5.alloc (.cells #[.int .i64 kc, .int .i64 kf, .int .u64 ks] 41)).ownsRow w1.heap.size 41 3 (.slice B n d) z.length (kcs z) := by
          refine ⟨HO5.out.1, ?_⟩
          rcases HO5.out.2 with h2 | ⟨g', cap, cur, hv, hg, hh, r⟩
          · exact Or.inl h2
          · exact Or.inr ⟨g', cap, cur, hv, hg, (bl6.block g' (Array.getElem?_eq_some_iff.1 hh).1).trans hh, r⟩
        have HO6 := Lib.hid hO6
        have HB6 := Lib.hid (HB5.out.trans (bl6.mono HB5.out.size))
        have HSz : Hid (w1.heap.size ≤ (w5.alloc (.cells #[.int .i64 kc, .int .i64 kf, .int .u64 ks] 41)).heap.size) := HB6.out.size
        clear bl6 hO6
        go_wp2_with (at_builtin; refine wpList_append_lies _ rfl _ _ 58 rfl w1.heap.size 41 i0 (.agg #[.int .i64 0, .int .i64 0, .int .u64 0]) 3 24 Tryz.underlying58 hinf hz0 hz1 hz2 rfl (by decide) _ _ _ rfl HO6.out ⟨w5.heap.size, 0, none⟩ 1 1 [.int .i64 kc, .int .i64 kf, .int .u64 ks] rfl rfl HN.out (by intro u hu; simp at hu; rcases hu with rfl | rfl | rfl <;> rfl) (by decide) (by have := HZl.out; unfold maxLen; omega) (by have := HZl.out; omega) HSz.out _ rfl ?_)
        intro g1 cap1 w6 hown hg hat _
        have hB7 : Below w1.heap.size w1 w6 := HB6.out.grown hg HB6.out.size fun k hk => own_ge HO6.out k hk
        have hO7 : w6.ownsRow w1.heap.size 41 3 (.slice (some ⟨g1, 0, none⟩) (z.length + 1) cap1) (keysOf who (ls.take (k + 1))).length (kcs (keysOf who (ls.take (k + 1)))) := by
          rw [HT.out, kcs_append, List.length_append, List.length_singleton]
          exact hown
        have H7 := Lib.hid (And.intro hB7 hO7)
        clear hown hg hat hB7 hO7 HN HO6 HB6
        go_wp2
        go_roundw
        case rel => exact ⟨k + 1, _, _, _, rfl, by go_num, hkm, H7.out⟩
        case measure => simp [intOf]; omega
      · rw [if_neg hs] at ht
        have HT := Lib.hid ht
        clear ht
        have H7 : Hid (Below w1.heap.size w1 w5 ∧ w5.ownsRow w1.heap.size 41 3 (.slice B n d) (keysOf who (ls.take (k + 1))).length (kcs (keysOf who (ls.take (k + 1))))) := Lib.hid ⟨HB5.out, by rw [HT.out]; exact HO5.out⟩
        by_cases hs1 : st = 2
        · subst hs1
          have hs2 : ¬ ow = who := fun e => hs ⟨rfl, e⟩
          have hs3 : (ow == who) = false := by simp [hs2]
          have hs4 : decide (ow = who) = false := by simp [hs2]
          clear hs
          go_wp2
          go_roundw
          case rel => exact ⟨k + 1, _, _, _, rfl, by go_num, hkm, H7.out⟩
          case measure => simp [intOf]; omega
        · clear hs
          go_wp2
          go_roundw
          case rel => exact ⟨k + 1, _, _, _, rfl, by go_num, hkm, H7.out⟩
          case measure => simp [intOf]; omega
    · obtain rfl : k = m := by omega
      have hO := HO.out
      rw [HM.out, List.take_length] at hO
      have hW := HX.out.2.2.2.1.below HY.out HB.out
      have hR := HX.out.2.2.2.2.trans (Rng.of_below (lo := y.lo) (hi := y.hi) HB.out)
      have hOw : wr.ownsRow W.heap.size 41 3 (.slice B n d) (keysOf who ls).length (kcs (keysOf who ls)) := by
        refine ⟨hO.1, ?_⟩
        rcases hO.2 with h2 | ⟨g', cap, cur, hv, hg, r⟩
        · exact Or.inl h2
        · exact Or.inr ⟨g', cap, cur, hv, Nat.le_trans HX.out.2.2.2.2.size hg, r⟩
      have HE := Lib.hid (And.intro hOw (And.intro hW hR))
      clear hO hOw hW hR
      go_wp2
      go_ret
      exact ⟨_, ls, rfl, HX.out.2.1, HX.out.2.2.1, HE.out⟩
end
end Go.Proofs.YtlpnecmcncekcaaGreat.Mk
