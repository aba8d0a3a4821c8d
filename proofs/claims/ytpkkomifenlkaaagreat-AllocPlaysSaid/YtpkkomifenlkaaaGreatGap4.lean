/- gap: Push of runs. -/
import Derived.Test.YtpkkomifenlkaaaGreatGap3
import Derived.Laws.AppendOwn
import Derived.Deep.AppendLies
namespace Go.Proofs.YtpkkomifenlkaaaGreat.Gp
open Go Go.RowKit

/-- what a heap's acts leave alone: all but its block and its row's -/
structure Fr (H : Nat) (v v' : Value) (w w' : World) : Prop where
  os : w'.os = w.os
  tape : w'.tape = w.tape
  output : w'.output = w.output
  size : w.heap.size ≤ w'.heap.size
  block : ∀ k, k < w.heap.size → k ≠ H → some k ≠ v.ownBlock → w'.heap[k]? = w.heap[k]?
  own : v'.ownBlock = v.ownBlock ∨ ∀ k, v'.ownBlock = some k → w.heap.size ≤ k
theorem Fr.of_below {H : Nat} {v : Value} {w w' : World} (h : Below w.heap.size w w') : Fr H v v w w' := ⟨h.os, h.tape, h.output, h.size, fun k hk _ _ => h.block k hk, Or.inl rfl⟩
theorem Fr.trans {H : Nat} {v v1 v2 : Value} {a b c : World} (h : Fr H v v1 a b) (g : Fr H v1 v2 b c) : Fr H v v2 a c := by
  refine ⟨g.os.trans h.os, g.tape.trans h.tape, g.output.trans h.output, Nat.le_trans h.size g.size, fun k hk h1 h2 => ?_, ?_⟩
  · refine (g.block k (Nat.lt_of_lt_of_le hk h.size) h1 (fun e => ?_)).trans (h.block k hk h1 h2)
    rcases h.own with ho | ho
    · exact h2 (e.trans ho)
    · have := ho k e.symm; omega
  · rcases g.own with go | go
    · rcases h.own with ho | ho
      · exact Or.inl (go.trans ho)
      · exact Or.inr fun k hk => ho k (go.symm.trans hk)
    · exact Or.inr fun k hk => Nat.le_trans h.size (go k hk)
theorem infoRn : (Tryz.prog.info? TRn).map (fun i => (i.zero, i.size, i.bytes)) = some (some (.agg #[.int .u64 0, .int .u64 0]), 2, 16) := by kernel_rfl
theorem info_partsN {o : Option TypeInfo} {z : Value} {s b : Nat} (h : o.map (fun i => (i.zero, i.size, i.bytes)) = some (some z, s, b)) : ∃ i, o = some i ∧ i.zero = some z ∧ i.size = s ∧ i.bytes = b := by
  cases o with
  | none => cases h
  | some i =>
    injection h with h
    injection h with h1 h
    injection h with h2 h3
    exact ⟨i, rfl, h1, h2, h3⟩
theorem own_apart2 {w : World} {base n k T : Nat} {v : Value} {cs : Array Value} {fr : Nat × Nat} {xs : List Value} (h : w.ownsRow base TRn 2 v n xs) (hb : w.heap[k]? = some (.cells cs T fr)) (hT : T ≠ TRn) : some k ≠ v.ownBlock := by
  intro e1
  rcases h.2 with ⟨h2, -⟩ | ⟨g, cap, cur, hv, hg, hh, r⟩
  · rw [h2] at e1; cases e1
  · rw [hv] at e1
    have e2 : k = g := by injection e1
    rw [e2, hh] at hb
    injection hb with hb
    injection hb with _ hb _
    exact hT hb.symm
theorem own_form2 {w : World} {base n : Nat} {v : Value} {xs : List Value} (h : w.ownsRow base TRn 2 v n xs) : ∃ A c, v = .slice A n c := by
  rcases h.2 with ⟨h2, h3⟩ | ⟨g, cap, cur, hv, r⟩
  · exact ⟨none, 0, by rw [h2, h3]⟩
  · exact ⟨_, _, hv⟩
theorem own_keep {w w1 : World} {base n : Nat} {v : Value} {xs : List Value} (h : w.ownsRow base TRn 2 v n xs) (hb : ∀ k o, w.heap[k]? = some o → some k = v.ownBlock → w1.heap[k]? = some o) : w1.ownsRow base TRn 2 v n xs := by
  refine ⟨h.1, ?_⟩
  rcases h.2 with h2 | ⟨g, cap, cur, hv, hg, hh, r⟩
  · exact Or.inl h2
  · exact Or.inr ⟨g, cap, cur, hv, hg, hb g _ hh (by rw [hv]; rfl), r⟩
theorem own_set {w : World} {base n k i : Nat} {v u : Value} {xs : List Value} (h : w.ownsRow base TRn 2 v n xs) (hk : some k ≠ v.ownBlock) : (w.setCell ⟨k, i, none⟩ u).ownsRow base TRn 2 v n xs :=
  own_keep h fun j o hj hv => (Below.heap_setCell _ _ _ _ (fun e => hk (by have : j = k := e; rw [← this]; exact hv))).trans hj
theorem HpO.below {B : Nat} {W V : World} {H : Nat} {v : Value} {l : List (Int × Int)} (h : HpO B W H v l) (hb : Below W.heap.size W V) : HpO B V H v l :=
  ⟨(hb.block _ h.lt).trans h.box, h.low, own_keep h.row fun k _ hk _ => (hb.block k (Array.getElem?_eq_some_iff.1 hk).1).trans hk, h.few⟩
theorem rc_app (l m : List (Int × Int)) : rc (l ++ m) = rc l ++ rc m := by simp [rc]
theorem HpO.push {B : Nat} {V : World} {H : Nat} {v : Value} {l : List (Int × Int)} (h : HpO B V H v l) (hB : B ≤ V.heap.size) (hf : l.length < 1000) (x : Int × Int) :
    (V.alloc (.cells #[.int .u64 x.1, .int .u64 x.2] TRn)).ownsRow B TRn 2 v l.length (rc l) ∧ ∀ v1 w2, w2.ownsRow B TRn 2 v1 (l.length + 1) (rc l ++ [.int .u64 x.1, .int .u64 x.2]) → (V.alloc (.cells #[.int .u64 x.1, .int .u64 x.2] TRn)).grownBy w2 v.ownBlock → (v1.ownBlock = v.ownBlock ∨ v1.ownBlock = some (V.alloc (.cells #[.int .u64 x.1, .int .u64 x.2] TRn)).heap.size) →
      w2.heap[H]? = some (.cells #[v] THp (0, 0)) ∧ HpO B (w2.setCell ⟨H, 0, none⟩ v1) H v1 (l ++ [x]) ∧ (∀ a, Below B a V → Below B a (w2.setCell ⟨H, 0, none⟩ v1)) ∧ Fr H v v1 V (w2.setCell ⟨H, 0, none⟩ v1) := by
  have h1 := h.below ((Below.refl _ V).alloc (Nat.le_refl _) (.cells #[.int .u64 x.1, .int .u64 x.2] TRn))
  refine ⟨h1.row, fun v1 w2 ho hg hv1 => ?_⟩
  have hne := own_apart2 h1.row h1.box (by decide)
  have hH : w2.heap[H]? = some (.cells #[v] THp (0, 0)) := (hg.block H h1.lt hne).trans h1.box
  refine ⟨hH, ⟨(setCell_at v1 hH).trans rfl, h.low, ?_, by simp; omega⟩, fun a ha => ?_, ?_⟩
  · have e : (l ++ [x]).length = l.length + 1 := by simp
    rw [e, rc_app]
    exact own_set ho (own_apart2 ho hH (by decide))
  · refine Below.setCell ((ha.alloc hB _).grown hg (by simp; omega) (fun k hk => ?_)) h.low _
    rcases h1.row.2 with ⟨h2, -⟩ | ⟨g, cap, cur, hv, hgg, hh, r⟩
    · rw [h2] at hk; cases hk
    · rw [hv] at hk
      have : g = k := by injection hk
      omega
  · refine ⟨hg.os, hg.tape, hg.output, ?_, fun k hk h8 h9 => ?_, ?_⟩
    · have := hg.size; simp at this; simp; omega
    · rw [Below.heap_setCell _ _ _ _ h8, hg.block k (by simp; omega) h9, Below.heap_alloc _ _ _ hk]
    · rcases hv1 with e | e
      · exact Or.inl e
      · refine Or.inr fun k hk => ?_
        rw [e] at hk
        have : (V.alloc (.cells #[.int .u64 x.1, .int .u64 x.2] TRn)).heap.size = k := by injection hk
        rw [← this]; simp
theorem cells2_new (V : World) (x : Int × Int) : ∀ j u, ([.int .u64 x.1, .int .u64 x.2] : List Value)[j]? = some u → (V.alloc (.cells #[.int .u64 x.1, .int .u64 x.2] TRn)).cell? ((⟨V.heap.size, 0, none⟩ : Addr).add j) = some u := by
  intro j u h
  have hh := heap_alloc_new V (.cells #[.int .u64 x.1, .int .u64 x.2] TRn)
  match j, h with
  | 0, h => rw [← h]; exact cell_of_row _ V.heap.size 0 _ _ (0, 0) hh
  | 1, h => rw [← h]; exact cell_of_row _ V.heap.size 1 _ _ (0, 0) hh
theorem cells2_one (x : Int × Int) : ∀ u ∈ ([.int .u64 x.1, .int .u64 x.2] : List Value), u.oneCell' = true := by
  intro u hu
  simp at hu
  rcases hu with rfl | rfl <;> rfl
theorem run_ta (v : Value) (W : World) : (Instr.typeAssert (.iface TRn v) 20 104 true).run Tryz.prog W = .ok (.tuple #[v, .bool true]) W := by kernel_rfl
set_option maxRecDepth 20000 in
set_option maxHeartbeats 4000000 in
theorem push_any (B : Nat) (H : Nat) (v : Value) (l : List (Int × Int)) (x : Int × Int) (W : World) (h : HpO B W H v l) (hB : B ≤ W.heap.size) (hf : l.length < 1000) :
    Calls Tryz.prog 155 #[.pointer (some ⟨H, 0, none⟩), .iface TRn (.agg #[.int .u64 x.1, .int .u64 x.2])] W fun e w' => e = .returned (.tuple #[]) ∧ ∃ v', HpO B w' H v' (l ++ [x]) ∧ Below B W w' ∧ Fr H v v' W w' := by
  obtain ⟨i0, hi, hz0, hz1, hz2⟩ := info_partsN infoRn
  have hb := heap_alloc_new W (.cells #[.int .u64 x.1, .int .u64 x.2] TRn)
  have b1 := (Below.refl W.heap.size W).alloc (Nat.le_refl _) (.cells #[.int .u64 x.1, .int .u64 x.2] TRn)
  obtain ⟨w1, hw1⟩ : ∃ X, X = (W.alloc (.cells #[.int .u64 x.1, .int .u64 x.2] TRn)).drew := ⟨_, rfl⟩
  have hP : HpO B w1 H v l := by rw [hw1]; exact h.below b1.drew
  have hB1 : B ≤ w1.heap.size := by rw [hw1]; show B ≤ (W.alloc _).heap.size; simp; omega
  have hBel : Below B W w1 := by rw [hw1]; exact b1.drew.mono hB
  have x0 : w1.cell? ⟨W.heap.size, 0, none⟩ = some (.int .u64 x.1) := by rw [hw1]; exact cell_of_row _ W.heap.size 0 _ _ (0, 0) hb
  have x1 : w1.cell? ⟨W.heap.size, 1, none⟩ = some (.int .u64 x.2) := by rw [hw1]; exact cell_of_row _ W.heap.size 1 _ _ (0, 0) hb
  have c0 := cell_of_row w1 H 0 _ _ (0, 0) hP.box
  have HQ := Lib.hid (hP.push hB1 hf x)
  have HP := Lib.hid hP
  have HB := Lib.hid hB1
  have HBel := Lib.hid hBel
  have HFr : Hid (Fr H v v W w1) := Lib.hid (by rw [hw1]; exact Fr.of_below b1.drew)
  obtain ⟨A, cap, hv⟩ := own_form2 hP.row
  generalize l.length = n at hv
  rw [hv] at HQ HP c0 HFr ⊢
  clear h hb b1 hP hB1 hBel hB hv hf
  obtain ⟨a, b⟩ := x
  dsimp only at x0 x1 HQ hw1 ⊢
  have hta := run_ta
  go_enter Tryz.func155, Tryz.ntmps155
  go_upto_region 2 with fail
  refine wp_region_held_drew (S := fun _ => True) (by kernel_rfl) trivial (fun _ => ?_)
  rw [← hw1]
  clear hw1
  refine wpAnyH_take (i := 0) (oi := _) (v := ?_) rfl (by kernel_rfl) (by kernel_rfl) (by kernel_rfl) (fun _ _ _ h => h) (Or.inl ⟨by rfl, ?_⟩) (by assumption) ?_
  rotate_left
  · (intro W hSw; (try dsimp only at hSw); go_simp; try with_reducible rfl)
  try simp only [Act.put, List.getElem_toArray, List.getElem_cons_zero, List.setIfInBounds_toArray, List.set_cons_zero, List.set_cons_succ]
  refine wpAnyH_take (i := 1) (oi := _) (v := ?_) rfl (by kernel_rfl) (by kernel_rfl) (by kernel_rfl) (fun _ _ _ h => h) (Or.inl ⟨by rfl, ?_⟩) (by assumption) ?_
  rotate_left
  · (intro W hSw; (try dsimp only at hSw); go_simp; try with_reducible rfl)
  try simp only [Act.put, List.getElem_toArray, List.getElem_cons_succ, List.getElem_cons_zero, List.setIfInBounds_toArray, List.set_cons_zero, List.set_cons_succ]
  refine wpAnyH_take (i := 2) (oi := _) (v := ?_) rfl (by kernel_rfl) (by kernel_rfl) (by kernel_rfl) (fun _ _ _ h => h) (Or.inl ⟨by rfl, ?_⟩) (by assumption) ?_
  rotate_left
  · (intro W hSw; (try dsimp only at hSw); go_simp; try with_reducible rfl)
  try simp only [Act.put, List.getElem_toArray, List.getElem_cons_succ, List.getElem_cons_zero, List.setIfInBounds_toArray, List.set_cons_zero, List.set_cons_succ]
  refine wpAnyH_ready (rs := [3, 4]) (by kernel_rfl) (by simp) ?_
  refine AllReadyH.cons rfl (fun K hK => ?_) (AllReadyH.cons rfl (fun K hK => ?_) AllReadyH.nil)
  · skip
    simp only [List.getElem_toArray, List.getElem_cons_succ, List.getElem_cons_zero]
    rw [if_pos (by rfl)]
    go_simp
    refine hK.out _ _ trivial (fun _ => ?_)
    clear hK K
    try simp only [Act.put, List.getElem_toArray, List.getElem_cons_succ, List.getElem_cons_zero, List.setIfInBounds_toArray, List.set_cons_zero, List.set_cons_succ]
    refine wpAnyH_ready (rs := [4]) (by kernel_rfl) (by simp) ?_
    refine AllReadyH.cons rfl (fun K hK => ?_) AllReadyH.nil
    simp only [List.getElem_toArray, List.getElem_cons_succ, List.getElem_cons_zero]
    rw [if_pos (by rfl)]
    go_simp
    refine hK.out _ _ trivial (fun _ => ?_)
    clear hK K
    try simp only [Act.put, List.getElem_toArray, List.getElem_cons_succ, List.getElem_cons_zero, List.setIfInBounds_toArray, List.set_cons_zero, List.set_cons_succ]
    refine wpAnyH_ready (rs := [5]) (by kernel_rfl) (by simp) ?_
    refine AllReadyH.cons rfl (fun K hK => ?_) AllReadyH.nil
    simp only [List.getElem_toArray, List.getElem_cons_succ, List.getElem_cons_zero]
    rw [if_pos (by rfl)]
    go_simp
    refine hK.out _ _ trivial (fun _ => ?_)
    clear hK K
    try simp only [Act.put, List.getElem_toArray, List.getElem_cons_succ, List.getElem_cons_zero, List.setIfInBounds_toArray, List.set_cons_zero, List.set_cons_succ]
    refine wpAnyH_ready (rs := [6]) (by kernel_rfl) (by simp) ?_
    refine AllReadyH.cons rfl (fun K hK => ?_) AllReadyH.nil
    simp only [List.getElem_toArray, List.getElem_cons_succ, List.getElem_cons_zero]
    rw [if_pos (by rfl)]
    refine wp_append_lies _ _ _ _ (by rfl) B TRn i0 (.agg #[.int .u64 0, .int .u64 0]) 2 16 Tryz.underlying110 hi hz0 hz1 hz2 rfl (by decide) _ _ _ (by rfl) HQ.out.1 ⟨w1.heap.size, 0, none⟩ 1 1 [.int .u64 a, .int .u64 b] (by rfl) rfl (cells2_new w1 (a, b)) (cells2_one (a, b)) (by decide) (by have := HP.out.few; unfold maxLen; omega) (by have := HP.out.few; omega) (by have := HB.out; simp; omega) _ rfl ?_
    intro g1 cap1 w2 hown hg hat _
    obtain ⟨hH2, hP2, hB2, hF2⟩ := HQ.out.2 _ w2 hown hg (hat.elim (fun e => Or.inl e.symm) (fun e => Or.inr (congrArg some e)))
    have t0 := cell_of_row w2 H 0 _ _ (0, 0) hH2
    have tf : w2.frozen? ⟨H, 0, none⟩ = false := by simp [World.frozen?, hH2]
    have HE := Lib.hid (And.intro hP2 (And.intro (hB2 _ HBel.out) (HFr.out.trans hF2)))
    clear hP2 hB2 hF2 hown hg hat
    refine hK.out _ _ trivial (fun _ => ?_)
    clear hK K
    try simp only [Act.put, List.setIfInBounds_toArray, List.set_cons_zero, List.set_cons_succ]
    refine wpAnyH_take (i := 7) (oi := _) (v := ?_) rfl (by kernel_rfl) (by kernel_rfl) (by kernel_rfl) (fun _ _ _ h => h) (Or.inl ⟨by rfl, ?_⟩) (by assumption) ?_
    rotate_left
    · (intro W hSw; (try dsimp only at hSw); go_simp; try with_reducible rfl)
    try simp only [Act.put, List.getElem_toArray, List.getElem_cons_succ, List.getElem_cons_zero, List.setIfInBounds_toArray, List.set_cons_zero, List.set_cons_succ]
    refine wpAnyH_ready (rs := [8]) (by kernel_rfl) (by simp) ?_
    refine AllReadyH.cons rfl (fun K hK => ?_) AllReadyH.nil
    simp only [List.getElem_toArray, List.getElem_cons_succ, List.getElem_cons_zero]
    rw [if_pos (by rfl)]
    go_simp
    refine hK.out _ _ trivial (fun _ => ?_)
    clear hK K
    try simp only [Act.put, List.getElem_toArray, List.getElem_cons_succ, List.getElem_cons_zero, List.setIfInBounds_toArray, List.set_cons_zero, List.set_cons_succ]
    refine wpAnyH_done (by kernel_rfl) ?_ _
    go_wp2
    refine bodyPost_end (results_none rfl _ _ _) rfl ?_
    exact ⟨rfl, _, HE.out⟩
  · skip
    simp only [List.getElem_toArray, List.getElem_cons_succ, List.getElem_cons_zero]
    rw [if_pos (by rfl)]
    go_simp
    refine hK.out _ _ trivial (fun _ => ?_)
    clear hK K
    try simp only [Act.put, List.getElem_toArray, List.getElem_cons_succ, List.getElem_cons_zero, List.setIfInBounds_toArray, List.set_cons_zero, List.set_cons_succ]
    refine wpAnyH_ready (rs := [3, 5]) (by kernel_rfl) (by simp) ?_
    refine AllReadyH.cons rfl (fun K hK => ?_) (AllReadyH.cons rfl (fun K hK => ?_) AllReadyH.nil)
    · skip
      simp only [List.getElem_toArray, List.getElem_cons_succ, List.getElem_cons_zero]
      rw [if_pos (by rfl)]
      go_simp
      refine hK.out _ _ trivial (fun _ => ?_)
      clear hK K
      try simp only [Act.put, List.getElem_toArray, List.getElem_cons_succ, List.getElem_cons_zero, List.setIfInBounds_toArray, List.set_cons_zero, List.set_cons_succ]
      refine wpAnyH_ready (rs := [5]) (by kernel_rfl) (by simp) ?_
      refine AllReadyH.cons rfl (fun K hK => ?_) AllReadyH.nil
      simp only [List.getElem_toArray, List.getElem_cons_succ, List.getElem_cons_zero]
      rw [if_pos (by rfl)]
      go_simp
      refine hK.out _ _ trivial (fun _ => ?_)
      clear hK K
      try simp only [Act.put, List.getElem_toArray, List.getElem_cons_succ, List.getElem_cons_zero, List.setIfInBounds_toArray, List.set_cons_zero, List.set_cons_succ]
      refine wpAnyH_ready (rs := [6]) (by kernel_rfl) (by simp) ?_
      refine AllReadyH.cons rfl (fun K hK => ?_) AllReadyH.nil
      simp only [List.getElem_toArray, List.getElem_cons_succ, List.getElem_cons_zero]
      rw [if_pos (by rfl)]
      refine wp_append_lies _ _ _ _ (by rfl) B TRn i0 (.agg #[.int .u64 0, .int .u64 0]) 2 16 Tryz.underlying110 hi hz0 hz1 hz2 rfl (by decide) _ _ _ (by rfl) HQ.out.1 ⟨w1.heap.size, 0, none⟩ 1 1 [.int .u64 a, .int .u64 b] (by rfl) rfl (cells2_new w1 (a, b)) (cells2_one (a, b)) (by decide) (by have := HP.out.few; unfold maxLen; omega) (by have := HP.out.few; omega) (by have := HB.out; simp; omega) _ rfl ?_
      intro g1 cap1 w2 hown hg hat _
      obtain ⟨hH2, hP2, hB2, hF2⟩ := HQ.out.2 _ w2 hown hg (hat.elim (fun e => Or.inl e.symm) (fun e => Or.inr (congrArg some e)))
      have t0 := cell_of_row w2 H 0 _ _ (0, 0) hH2
      have tf : w2.frozen? ⟨H, 0, none⟩ = false := by simp [World.frozen?, hH2]
      have HE := Lib.hid (And.intro hP2 (And.intro (hB2 _ HBel.out) (HFr.out.trans hF2)))
      clear hP2 hB2 hF2 hown hg hat
      refine hK.out _ _ trivial (fun _ => ?_)
      clear hK K
      try simp only [Act.put, List.setIfInBounds_toArray, List.set_cons_zero, List.set_cons_succ]
      refine wpAnyH_take (i := 7) (oi := _) (v := ?_) rfl (by kernel_rfl) (by kernel_rfl) (by kernel_rfl) (fun _ _ _ h => h) (Or.inl ⟨by rfl, ?_⟩) (by assumption) ?_
      rotate_left
      · (intro W hSw; (try dsimp only at hSw); go_simp; try with_reducible rfl)
      try simp only [Act.put, List.getElem_toArray, List.getElem_cons_succ, List.getElem_cons_zero, List.setIfInBounds_toArray, List.set_cons_zero, List.set_cons_succ]
      refine wpAnyH_ready (rs := [8]) (by kernel_rfl) (by simp) ?_
      refine AllReadyH.cons rfl (fun K hK => ?_) AllReadyH.nil
      simp only [List.getElem_toArray, List.getElem_cons_succ, List.getElem_cons_zero]
      rw [if_pos (by rfl)]
      go_simp
      refine hK.out _ _ trivial (fun _ => ?_)
      clear hK K
      try simp only [Act.put, List.getElem_toArray, List.getElem_cons_succ, List.getElem_cons_zero, List.setIfInBounds_toArray, List.set_cons_zero, List.set_cons_succ]
      refine wpAnyH_done (by kernel_rfl) ?_ _
      go_wp2
      refine bodyPost_end (results_none rfl _ _ _) rfl ?_
      exact ⟨rfl, _, HE.out⟩
    · skip
      simp only [List.getElem_toArray, List.getElem_cons_succ, List.getElem_cons_zero]
      rw [if_pos (by rfl)]
      go_simp
      refine hK.out _ _ trivial (fun _ => ?_)
      clear hK K
      try simp only [Act.put, List.getElem_toArray, List.getElem_cons_succ, List.getElem_cons_zero, List.setIfInBounds_toArray, List.set_cons_zero, List.set_cons_succ]
      have c9 : (w1.alloc (.cells #[.int .u64 a, .int .u64 b] TRn)).cell? ⟨H, 0, none⟩ = some (.slice A n cap) := (((Below.refl _ w1).alloc (Nat.le_refl _) _).cell (p := ⟨H, 0, none⟩) HP.out.lt).trans c0
      refine wpAnyH_ready (rs := [3]) (by kernel_rfl) (by simp) ?_
      refine AllReadyH.cons rfl (fun K hK => ?_) AllReadyH.nil
      simp only [List.getElem_toArray, List.getElem_cons_succ, List.getElem_cons_zero]
      rw [if_pos (by rfl)]
      go_simp
      refine hK.out _ _ trivial (fun _ => ?_)
      clear hK K
      try simp only [Act.put, List.getElem_toArray, List.getElem_cons_succ, List.getElem_cons_zero, List.setIfInBounds_toArray, List.set_cons_zero, List.set_cons_succ]
      refine wpAnyH_ready (rs := [6]) (by kernel_rfl) (by simp) ?_
      refine AllReadyH.cons rfl (fun K hK => ?_) AllReadyH.nil
      simp only [List.getElem_toArray, List.getElem_cons_succ, List.getElem_cons_zero]
      rw [if_pos (by rfl)]
      refine wp_append_lies _ _ _ _ (by rfl) B TRn i0 (.agg #[.int .u64 0, .int .u64 0]) 2 16 Tryz.underlying110 hi hz0 hz1 hz2 rfl (by decide) _ _ _ (by rfl) HQ.out.1 ⟨w1.heap.size, 0, none⟩ 1 1 [.int .u64 a, .int .u64 b] (by rfl) rfl (cells2_new w1 (a, b)) (cells2_one (a, b)) (by decide) (by have := HP.out.few; unfold maxLen; omega) (by have := HP.out.few; omega) (by have := HB.out; simp; omega) _ rfl ?_
      intro g1 cap1 w2 hown hg hat _
      obtain ⟨hH2, hP2, hB2, hF2⟩ := HQ.out.2 _ w2 hown hg (hat.elim (fun e => Or.inl e.symm) (fun e => Or.inr (congrArg some e)))
      have t0 := cell_of_row w2 H 0 _ _ (0, 0) hH2
      have tf : w2.frozen? ⟨H, 0, none⟩ = false := by simp [World.frozen?, hH2]
      have HE := Lib.hid (And.intro hP2 (And.intro (hB2 _ HBel.out) (HFr.out.trans hF2)))
      clear hP2 hB2 hF2 hown hg hat
      refine hK.out _ _ trivial (fun _ => ?_)
      clear hK K
      try simp only [Act.put, List.setIfInBounds_toArray, List.set_cons_zero, List.set_cons_succ]
      refine wpAnyH_take (i := 7) (oi := _) (v := ?_) rfl (by kernel_rfl) (by kernel_rfl) (by kernel_rfl) (fun _ _ _ h => h) (Or.inl ⟨by rfl, ?_⟩) (by assumption) ?_
      rotate_left
      · (intro W hSw; (try dsimp only at hSw); go_simp; try with_reducible rfl)
      try simp only [Act.put, List.getElem_toArray, List.getElem_cons_succ, List.getElem_cons_zero, List.setIfInBounds_toArray, List.set_cons_zero, List.set_cons_succ]
      refine wpAnyH_ready (rs := [8]) (by kernel_rfl) (by simp) ?_
      refine AllReadyH.cons rfl (fun K hK => ?_) AllReadyH.nil
      simp only [List.getElem_toArray, List.getElem_cons_succ, List.getElem_cons_zero]
      rw [if_pos (by rfl)]
      go_simp
      refine hK.out _ _ trivial (fun _ => ?_)
      clear hK K
      try simp only [Act.put, List.getElem_toArray, List.getElem_cons_succ, List.getElem_cons_zero, List.setIfInBounds_toArray, List.set_cons_zero, List.set_cons_succ]
      refine wpAnyH_done (by kernel_rfl) ?_ _
      go_wp2
      refine bodyPost_end (results_none rfl _ _ _) rfl ?_
      exact ⟨rfl, _, HE.out⟩
end Go.Proofs.YtpkkomifenlkaaaGreat.Gp
