import Derived.Test.YtlpnecmcncekcaaGreatTabWhole
import Derived.Test.YtlpnecmcncekcaaGreatAllSort
import Derived.Test.YtlpnecmcncekcaaGreatSnapA
import Derived.Test.YtlpnecmcncekcaaGreatEnSame
import Derived.Test.YtlpnecmcncekcaaGreatHeld
import Derived.Test.YtlpnecmcncekcaaGreatHeld
/- A table's Snapshot of a shard, and its All. -/
namespace Go.Proofs.YtlpnecmcncekcaaGreat.Mk
open Go Go.RowKit Go.MuLone Conf

theorem RowE.news {base : Nat} {V : World} {v : Value} {ls : List En} (h : RowE base V v ls) : ∃ A c, v = .slice A ls.length c ∧ (A = none → ls.length = 0 ∧ c = 0) ∧ ∀ ad, A = some ad → ∀ j u, (ecs ls)[j]? = some u → V.cell? (ad.add j) = some u := by
  have hat := fun i hi => h.at i hi
  rcases h with ⟨h1, h2⟩ | ⟨g, c, h1, h2, h3, h4⟩
  · exact ⟨none, 0, by rw [h1, h2]; rfl, fun _ => ⟨by rw [h2]; rfl, rfl⟩, fun ad ha => by cases ha⟩
  · refine ⟨some ⟨g, 0, none⟩, c, h1, fun h => by (cases h), fun ad ha j u hu => ?_⟩
    injection ha with ha
    subst ha
    have hj := (List.getElem?_eq_some_iff.1 hu).1
    rw [ecs_len] at hj
    have hq : j / 5 < ls.length := by omega
    have hj2 : j = j / 5 * 5 + j % 5 := by omega
    obtain ⟨g', c', hv, _, _, he⟩ := hat (j / 5) hq
    rw [h1] at hv
    injection hv with hv
    injection hv with hv
    injection hv with hv
    subst hv
    rw [hj2, ecs_get ls (j / 5) (j % 5) hq (by omega)] at hu
    have ea : (⟨g, 0, none⟩ : Addr).add j = ⟨g, j / 5 * 5 + j % 5, none⟩ := by unfold Addr.add; by_cases h : j = 0 <;> simp [h]; omega
    rw [ea]
    have hm : j % 5 = 0 ∨ j % 5 = 1 ∨ j % 5 = 2 ∨ j % 5 = 3 ∨ j % 5 = 4 := by omega
    generalize ls[j / 5] = x at hu he
    rcases hm with e | e | e | e | e <;> rw [e] at hu ⊢ <;> simp [encE, En.cells] at hu <;> subst hu
    · exact he.c
    · exact he.f
    · exact he.s
    · exact he.st
    · exact he.ow
section
variable {V V' W : World} {y : Lay} {M : Maps}
set_option maxRecDepth 20000 in
theorem tsnap (h : WT V y M) (hy : y.ok) (hm : MapsOk y M) (i : Nat) (hi : i < y.n) :
    Calls Tryz.prog 10 #[.pointer (some ⟨y.T, 0, none⟩), .int .i64 (i : Int)] V fun e w' => ∃ v ls, e = .returned v ∧ RowE V.heap.size w' v ls ∧ ls.Perm (ens (M i).1) ∧ ls.Pairwise (fun a b => ltE b a = false) ∧ WT w' y M ∧ Only2 (y.sh i) (y.mp i) V w' := by
  have HA := Lib.hid (at_n h.tn i hi)
  have HS := Lib.hid (snap_any (y.sh i) (y.mp i) y.room (M i).1 (M i).2 V (h.is i hi) (hm.ok i hi) (by have := hm.len i hi; have := hy.r64; omega))
  have HF : Hid (∀ w', ShIs w' (y.sh i) (y.mp i) y.room (M i).1 (M i).2 0 → Only2 (y.sh i) (y.mp i) V w' → WT w' y M) := fun w' h1 h2 => by
    have := h.turn hy hi (x := M i) h1 h2
    rwa [upd_self] at this
  clear h hm hi
  go_enter Tryz.func10, Tryz.ntmps10
  go_wp2_with fail
  refine HA.out.mono ?_
  rintro _ w' ⟨rfl, rfl⟩
  go_wp2_with fail
  refine HS.out.mono ?_
  rintro _ w3 ⟨v, ls, rfl, h1, h2, h3, h4, h5⟩
  have HX := Lib.hid (And.intro h1 (And.intro h2 (And.intro h3 (And.intro (HF.out w3 h4 h5) h5))))
  clear h1 h2 h3 h4 h5
  go_wp2
  go_ret
  exact ⟨v, ls, rfl, HX.out⟩
/-- the first k shards' entries -/
def allE (M : Maps) : Nat → List En
  | 0 => []
  | k + 1 => allE M k ++ ens (M k).1
theorem allE_len (hm : MapsOk y M) (hy : y.ok) : ∀ k, k ≤ y.n → (allE M k).length ≤ k * 64
  | 0, _ => by simp [allE]
  | k + 1, hk => by
    have := allE_len hm hy k (by omega)
    have := hm.len k (by omega)
    have := hy.r64
    simp only [allE, List.length_append, ens, List.length_map]
    omega
/-- All's world -/
structure AllW (W V : World) (y : Lay) (M : Maps) (X : Nat) (v : Value) (acc : List En) : Prop where
  wt : WT V y M
  box : V.heap[X]? = some (.cells #[v] TLn (0, 0))
  row : V.ownsRow (X + 1) TEn 5 v acc.length (ecs acc)
  rng : Rng y.lo y.hi W V
  lo : y.hi ≤ W.heap.size ∧ W.heap.size ≤ X
variable {X : Nat} {v : Value} {acc : List En}
theorem AllW.lt (h : AllW W V y M X v acc) : X + 1 ≤ V.heap.size := (Array.getElem?_eq_some_iff.1 h.box).1
theorem AllW.snap (h : AllW W V y M X v acc) (hy : y.ok) {i : Nat} (hi : i < y.n) (hw : WT V' y M) (hO : Only2 (y.sh i) (y.mp i) V V') : AllW W V' y M X v acc := by
  have r := hy.rs i hi
  have lo := h.lo
  exact ⟨hw, (hO.block X h.lt (by omega) (by omega)).trans h.box, own_keep5 h.row fun k hk hl => hO.block k hl (by omega) (by omega), h.rng.trans (Rng.of_only hO r.1 r.2), lo⟩
theorem AllW.below (h : AllW W V y M X v acc) (hy : y.ok) (hb : Below V.heap.size V V') : AllW W V' y M X v acc :=
  ⟨h.wt.below hy hb, (hb.block X h.lt).trans h.box, own_keep5 h.row fun k _ hl => hb.block k hl, h.rng.trans (Rng.of_below hb), h.lo⟩
theorem AllW.drew (h : AllW W V y M X v acc) : AllW W V.drew y M X v acc := ⟨h.wt.drew, h.box, ⟨h.row.1, h.row.2⟩, ⟨h.rng.os, h.rng.tape, h.rng.output, h.rng.size, h.rng.block⟩, h.lo⟩
theorem AllW.far (h : AllW W V y M X v acc) : ∀ k, k ≤ X → some k ≠ v.ownBlock := fun k hk e1 => by
  rcases h.row.2 with ⟨h2, -⟩ | ⟨g, cap, cur, hv, hgg, hh, r⟩
  · rw [h2] at e1; cases e1
  · rw [hv] at e1
    have : k = g := by injection e1
    omega
theorem AllW.push (h : AllW W V y M X v acc) (hy : y.ok) (ls : List En) (v' : Value) (w : World) (hown : w.ownsRow (X + 1) TEn 5 v' (acc.length + ls.length) (ecs acc ++ ecs ls)) (hg : V.grownBy w v.ownBlock) :
    w.heap[X]? = some (.cells #[v] TLn (0, 0)) ∧ AllW W (w.setCell ⟨X, 0, none⟩ v') y M X v' (acc ++ ls) := by
  have lo := h.lo
  have hlt := h.lt
  have hk : ∀ k, k ≤ X → w.heap[k]? = V.heap[k]? := fun k hk => hg.block k (by omega) (h.far k hk)
  have hX := (hk X (Nat.le_refl _)).trans h.box
  have hk2 : ∀ k, k ≤ X → k ≠ X → (w.setCell ⟨X, 0, none⟩ v').heap[k]? = V.heap[k]? := fun k h1 h2 => (Below.heap_setCell _ _ _ _ h2).trans (hk k h1)
  refine ⟨hX, ⟨h.wt.keep hy fun k _ h2 _ => hk2 k (by omega) (by omega), (setCell_at v' hX).trans rfl, ?_, ?_, lo⟩⟩
  · have e1 : ecs (acc ++ ls) = ecs acc ++ ecs ls := by simp [ecs]
    rw [e1, List.length_append]
    exact own_keep5 hown fun k hb _ => Below.heap_setCell _ _ _ _ (show k ≠ X by omega)
  · exact ⟨hg.os.trans h.rng.os, hg.tape.trans h.rng.tape, hg.output.trans h.rng.output, by simpa using Nat.le_trans h.rng.size hg.size, fun k hkW hr => (hk2 k (by omega) (by omega)).trans (h.rng.block k hkW hr)⟩
set_option maxRecDepth 20000 in
set_option maxHeartbeats 4000000 in
theorem tall (h : WT W y M) (hy : y.ok) (hm : MapsOk y M) (hhi : y.hi ≤ W.heap.size) :
    Calls Tryz.prog 15 #[.pointer (some ⟨y.T, 0, none⟩)] W fun e w' => ∃ v ls, e = .returned v ∧ RowE W.heap.size w' v ls ∧ ls.Perm (allE M y.n) ∧ ls.Pairwise (fun a b => ltE b a = false) ∧ WT w' y M ∧ Rng y.lo y.hi W w' := by
  obtain ⟨i0, hi', hz0, hz1, hz2⟩ := info_partsE infoEn
  have HY := Lib.hid (And.intro hy hm)
  have H0 : Hid (AllW W (W.alloc (.cells #[.slice none 0 0] TLn)) y M W.heap.size (.slice none 0 0) []) := ⟨h.below hy ((Below.refl _ W).alloc (Nat.le_refl _) _), heap_alloc_new W _, World.ownsRow_nil _ _ _ _, Rng.of_below ((Below.refl _ W).alloc (Nat.le_refl _) _), ⟨hhi, Nat.le_refl _⟩⟩
  have HSh := Lib.hid (fun (V : World) (hV : WT V y M) => shards_n hV.tn)
  clear h hy hm hhi
  go_enter Tryz.func15, Tryz.ntmps15
  go_upto_region 2 with fail
  obtain ⟨W1, hW1⟩ : ∃ V, V = W.alloc (.cells #[.slice none 0 0] TLn) := ⟨_, rfl⟩
  rw [← hW1] at H0 ⊢
  clear hW1
  go_wp2_with fail
  refine (HSh.out _ H0.out.wt).mono ?_
  rintro _ w2 ⟨rfl, rfl⟩
  go_wp2_with fail
  go_loopw [7] (fun i wr => ∃ k : Nat, i = .int .i64 (k : Int) ∧ k ≤ y.n ∧ ∃ v acc, AllW W wr y M W.heap.size v acc ∧ acc.Perm (allE M k)) (fun i _ => y.n - (intOf i).toNat)
  case atStart => exact ⟨0, rfl, Nat.zero_le _, _, [], H0.out, List.Perm.refl _⟩
  case round =>
    clear H0
    obtain ⟨k, rfl, hk, v, acc, hA, hP⟩ := hrel
    have H1 := Lib.hid hA
    have HP := Lib.hid hP
    clear hA hP
    obtain ⟨A, n, c, hv⟩ : ∃ A n c, v = .slice A n c := by
      rcases H1.out.row.2 with ⟨h1, _⟩ | ⟨g, cap, cur, h1, _⟩
      · exact ⟨_, _, _, h1⟩
      · exact ⟨_, _, _, h1⟩
    have hal := HP.out.length_eq
    have hal2 := allE_len HY.out.2 HY.out.1 k hk
    have h8 := HY.out.1.n8
    have HL : Hid (acc.length ≤ k * 64 ∧ k ≤ 8) := ⟨by omega, by omega⟩
    clear hal hal2
    subst hv
    have bx := cell_of_row wr W.heap.size 0 _ _ (0, 0) H1.out.box
    go_wp2_with fail
    · have hkn : k < y.n := by omega
      have HK : Hid (k < y.n) := hkn
      clear hkn bx
      refine wp_region_last (fun V => V.heap[W.heap.size]? = some (.cells #[.slice A n c] TLn (0, 0))) 5 (by kernel_rfl) ?_
      have H2 := Lib.hid H1.out.drew
      generalize wr.drew = w3 at H2 ⊢
      have hHeld := H2.out.box
      refine wpL_take (i := 0) (oi := _) (v := ?_) [4] rfl (by kernel_rfl) (by kernel_rfl) (by kernel_rfl) (by kernel_rfl) (by kernel_rfl) (fun _ _ _ h => h) (Or.inl ⟨by rfl, ?_⟩) (by assumption) ?_
      rotate_left
      · (intro V hSw; have qx := cell_of_row V W.heap.size 0 _ _ (0, 0) hSw; clear hSw; go_simp; try with_reducible rfl)
      try simp only [Act.put, List.getElem_toArray, List.getElem_cons_zero, List.setIfInBounds_toArray, List.set_cons_zero, List.set_cons_succ]
      refine wpL_take (i := 1) (oi := _) (v := ?_) [4, 3] rfl (by kernel_rfl) (by kernel_rfl) (by kernel_rfl) (by kernel_rfl) (by kernel_rfl) (fun _ _ _ h => h) (Or.inl ⟨by rfl, ?_⟩) (by assumption) ?_
      rotate_left
      · (intro V hSw; clear hSw; go_simp; try with_reducible rfl)
      try simp only [Act.put, List.getElem_toArray, List.getElem_cons_succ, List.getElem_cons_zero, List.setIfInBounds_toArray, List.set_cons_zero, List.set_cons_succ]
      refine wpL_take (i := 2) (oi := _) (v := ?_) [4, 3] rfl (by kernel_rfl) (by kernel_rfl) (by kernel_rfl) (by kernel_rfl) (by kernel_rfl) (fun _ _ _ h => h) (Or.inl ⟨by rfl, ?_⟩) (by assumption) ?_
      rotate_left
      · (intro V hSw; clear hSw; go_simp; try with_reducible rfl)
      try simp only [Act.put, List.getElem_toArray, List.getElem_cons_succ, List.getElem_cons_zero, List.setIfInBounds_toArray, List.set_cons_zero, List.set_cons_succ]
      refine wpL_ready (rs := [3]) (by kernel_rfl) (by simp) ?_
      refine AllL.cons rfl (fun K hK => ?_) AllL.nil
      simp only [List.getElem_toArray, List.getElem_cons_succ, List.getElem_cons_zero]
      rw [if_pos (by rfl)]
      go_simp
      refine (tsnap H2.out.wt HY.out.1 HY.out.2 k HK.out).mono ?_
      rintro _ w4 ⟨s, ls, rfl, hre, hpm, hpw, hwt, hO⟩
      have H3 := Lib.hid (H2.out.snap HY.out.1 HK.out hwt hO)
      obtain ⟨B, d, rfl, hno, hnews⟩ := hre.news
      have HN := Lib.hid (And.intro hno (And.intro hnews hpm))
      have HLs : Hid (ls.length ≤ 64) := by
        have h1 := hpm.length_eq
        have h2 := HY.out.2.len k HK.out
        have h3 := HY.out.1.r64
        simp only [ens, List.length_map] at h1
        show ls.length ≤ 64
        omega
      clear hre hpm hpw hwt hO hno hnews H2
      go_wp2_with fail
      refine hK.out _ _ (Or.inr H3.out.box) ?_
      clear hK K hHeld
      try simp only [Act.put, List.getElem_toArray, List.getElem_cons_succ, List.getElem_cons_zero, List.setIfInBounds_toArray, List.set_cons_zero, List.set_cons_succ]
      refine wpL_ready (rs := [4]) (by kernel_rfl) (by simp) ?_
      refine AllL.cons rfl (fun K hK => ?_) AllL.nil
      simp only [List.getElem_toArray, List.getElem_cons_succ, List.getElem_cons_zero]
      rw [if_pos (by rfl)]
      refine wp_append_any _ _ _ (by rfl) (W.heap.size + 1) TEn i0 en0.val 5 40 Tryz.underlying35 hi' hz0 hz1 hz2 rfl (by decide) _ _ _ (by rfl) H3.out.row B ls.length d (ecs ls) (by rfl) (ecs_len ls) HN.out.2.1 HN.out.1 (fun u hu => by obtain ⟨e, _, he⟩ := List.mem_flatMap.1 hu; exact encE_one e u he) (by have := HL.out; have := HLs.out; unfold maxLen; omega) (by have := HL.out; have := HLs.out; omega) H3.out.lt ?_
      intro v5 w5 hown hg
      obtain ⟨hX5, hA5⟩ := H3.out.push HY.out.1 ls v5 w5 hown hg
      have H5 := Lib.hid hA5
      refine hK.out _ _ (Or.inr hX5) ?_
      clear hK K hown hg hA5 H3
      try simp only [Act.put, List.setIfInBounds_toArray, List.set_cons_zero, List.set_cons_succ]
      refine wpL_ready (rs := [5]) (by kernel_rfl) (by simp) ?_
      refine AllL.cons rfl (fun K hK => ?_) AllL.nil
      simp only [List.getElem_toArray, List.getElem_cons_succ, List.getElem_cons_zero]
      rw [if_pos (by rfl)]
      have qx := cell_of_row w5 W.heap.size 0 _ _ (0, 0) hX5
      have qf : w5.frozen? ⟨W.heap.size, 0, none⟩ = false := by simp [World.frozen?, hX5]
      obtain ⟨A9, n9, c9, hv9⟩ : ∃ A n c, v5 = .slice A n c := by
        rcases H5.out.row.2 with ⟨h1, _⟩ | ⟨g, cap, cur, h1, _⟩
        · exact ⟨_, _, _, h1⟩
        · exact ⟨_, _, _, h1⟩
      subst hv9
      go_simp
      refine hK.out _ _ (Or.inl rfl) ?_
      clear hK K qx qf hX5
      try simp only [Act.put, List.getElem_toArray, List.getElem_cons_succ, List.getElem_cons_zero, List.setIfInBounds_toArray, List.set_cons_zero, List.set_cons_succ]
      refine wpL_done (by kernel_rfl) ?_ _
      have HP2 : Hid ((acc ++ ls).Perm (allE M (k + 1))) := HP.out.append HN.out.2.2
      go_wp2
      go_roundw
      case rel => exact ⟨k + 1, by go_num, HK.out, _, _, H5.out, HP2.out⟩
      case measure => have := HK.out; simp [intOf]; omega
    · obtain rfl : k = y.n := by omega
      have hso := asort_any W.heap.size (W.heap.size + 1) _ acc wr H1.out.row H1.out.box (by omega) (by have := HL.out; omega)
      have HFar := Lib.hid H1.out.far
      clear bx
      refine hso.mono ?_
      rintro _ w5 ⟨rfl, ls, hlp, hpw, hre, hbx5, hg5⟩
      have bx5 := cell_of_row w5 W.heap.size 0 _ _ (0, 0) hbx5
      have lo := H1.out.lo
      have hkk : ∀ k, k ≤ W.heap.size → w5.heap[k]? = wr.heap[k]? := fun k hk => hg5.block k (by have := H1.out.lt; omega) (HFar.out k hk)
      have h5 : WT w5 y M := H1.out.wt.keep HY.out.1 fun k _ h2 _ => hkk k (by omega)
      have hR5 : Rng y.lo y.hi W w5 := ⟨hg5.os.trans H1.out.rng.os, hg5.tape.trans H1.out.rng.tape, hg5.output.trans H1.out.rng.output, Nat.le_trans H1.out.rng.size hg5.size, fun k hk hr => (hkk k (by omega)).trans (H1.out.rng.block k hk hr)⟩
      have HE := Lib.hid (And.intro hre (And.intro (hlp.trans HP.out) (And.intro hpw (And.intro h5 hR5))))
      clear hso hre hlp hpw h5 hR5 hkk hg5 hbx5 HFar H1
      go_wp2
      go_ret
      refine ⟨_, ls, rfl, ?_, HE.out.2⟩
      rcases HE.out.1 with h1 | ⟨g, c', h1, h2, h3, h4⟩
      · exact Or.inl h1
      · exact Or.inr ⟨g, c', h1, by omega, h3, h4⟩
end
end Go.Proofs.YtlpnecmcncekcaaGreat.Mk
