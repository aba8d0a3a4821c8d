import Derived.Test.YtlpnecmcncekcaaGreatPf
import Derived.Test.YtlpnecmcncekcaaGreatTabWhole
import Derived.Test.YtlpnecmcncekcaaGreatNumR
/- The page's table: what it is; Do. -/
namespace Go.Proofs.YtlpnecmcncekcaaGreat.Mk
open Go Go.RowKit Go.MuLone

abbrev TQT : Nat := 84
/-- The page's table lies in block T, its row of shards in g, the i-th one's box in q i, its own row is v i and has ls i; all from block lo on. -/
structure PT (V : World) (T g cap n lo : Nat) (room : Int) (q : Nat → Nat) (v : Nat → Value) (ls : Nat → List En) : Prop where
  tab : V.heap[T]? = some (.cells #[.slice (some ⟨g, 0, none⟩) n cap] TQT (0, 0))
  cell : ∀ i, i < n → V.cell? ⟨g, i, none⟩ = some (.pointer (some ⟨q i, 0, none⟩))
  qi : ∀ i, i < n → QI V (q i) room (v i) (ls i)
  ap : ∀ i j, i < n → j < n → i ≠ j → q i ≠ q j ∧ some (q j) ≠ (v i).ownBlock ∧ ∀ k, (v i).ownBlock = some k → some k ≠ (v j).ownBlock
  ne : ∀ i, i < n → T ≠ q i ∧ g ≠ q i ∧ some T ≠ (v i).ownBlock ∧ some g ≠ (v i).ownBlock
  lo : lo ≤ T ∧ lo ≤ g ∧ ∀ i, i < n → lo ≤ q i
  n0 : 0 < n ∧ n ≤ 8
section
variable {V V' : World} {T g cap n lo : Nat} {room : Int} {q : Nat → Nat} {v : Nat → Value} {ls : Nat → List En}
theorem PT.ltT (h : PT V T g cap n lo room q v ls) : T < V.heap.size := (Array.getElem?_eq_some_iff.1 h.tab).1
theorem PT.ltg (h : PT V T g cap n lo room q v ls) : g < V.heap.size := World.block_lt_of_cell? _ _ (h.cell 0 h.n0.1)
theorem PT.keep (h : PT V T g cap n lo room q v ls) (hk : ∀ k, lo ≤ k → k < V.heap.size → V'.heap[k]? = V.heap[k]?) : PT V' T g cap n lo room q v ls :=
  ⟨(hk T h.lo.1 h.ltT).trans h.tab, fun i hi => (World.cell?_of_block (a := ⟨g, i, none⟩) (hk g h.lo.2.1 h.ltg)).trans (h.cell i hi), fun i hi => (h.qi i hi).keep fun k h1 h2 => hk k (Nat.le_trans (h.lo.2.2 i hi) h1) h2, h.ap, h.ne, h.lo, h.n0⟩
theorem PT.below (h : PT V T g cap n lo room q v ls) (hb : Below V.heap.size V V') : PT V' T g cap n lo room q v ls := h.keep fun k _ hk => hb.block k hk
theorem PT.drew (h : PT V T g cap n lo room q v ls) : PT V.drew T g cap n lo room q v ls := h.keep fun _ _ _ => rfl
theorem QI.ownIn {Q : Nat} {x : Value} {l : List En} (h : QI V Q room x l) : ∀ k, x.ownBlock = some k → Q < k ∧ k < V.heap.size := fun k e => by
  rcases h.row.2 with ⟨h1, _⟩ | ⟨g', cap, cur, hv, hg, hh, r⟩
  · rw [h1] at e; cases e
  · rw [hv] at e
    have : g' = k := by injection e
    have := (Array.getElem?_eq_some_iff.1 hh).1
    omega
def updV (v : Nat → Value) (j : Nat) (x : Value) : Nat → Value := fun i => if i = j then x else v i
def updL (ls : Nat → List En) (j : Nat) (x : List En) : Nat → List En := fun i => if i = j then x else ls i
/-- one shard turns -/
theorem PT.turn (h : PT V T g cap n lo room q v ls) {j : Nat} (hj : j < n) {v' : Value} {l' : List En} (hq : QI V' (q j) room v' l') (hf : FV (q j) (v j) v' V V') : PT V' T g cap n lo room q (updV v j v') (updL ls j l') := by
  have own' : ∀ k, v'.ownBlock = some k → (v j).ownBlock = some k ∨ V.heap.size ≤ k := fun k e => by
    rcases hf.new with h1 | h1
    · rw [h1] at e; exact Or.inl e
    · exact Or.inr (h1 k e)
  have nj := h.ne j hj
  refine ⟨(hf.fq.block T h.ltT nj.1 nj.2.2.1).trans h.tab, fun i hi => (World.cell?_of_block (a := ⟨g, i, none⟩) (hf.fq.block g h.ltg nj.2.1 nj.2.2.2)).trans (h.cell i hi), fun i hi => ?_, fun i i' hi hi' e => ?_, fun i hi => ?_, h.lo, h.n0⟩
  · unfold updV updL
    by_cases e : i = j
    · subst e
      rw [if_pos rfl, if_pos rfl]
      exact hq
    · rw [if_neg e, if_neg e]
      have a1 := h.ap j i hj hi (Ne.symm e)
      have a2 := h.ap i j hi hj e
      have hqi := h.qi i hi
      refine ⟨(hf.fq.block _ hqi.lt a2.1 a1.2.1).trans hqi.box, ?_⟩
      refine ⟨hqi.row.1, ?_⟩
      rcases hqi.row.2 with h2 | ⟨g', cap', cur, hv, hg, hh, r⟩
      · exact Or.inl h2
      · refine Or.inr ⟨g', cap', cur, hv, hg, (hf.fq.block g' (Array.getElem?_eq_some_iff.1 hh).1 (fun e2 => ?_) ?_).trans hh, r⟩
        · have := a2.2.1
          rw [hv, ← e2] at this
          exact this rfl
        · exact a2.2.2 g' (by rw [hv]; rfl)
  · have hold := h.ap i i' hi hi' e
    have hiQ := (h.qi i hi).lt
    have hi'Q := (h.qi i' hi').lt
    refine ⟨hold.1, ?_, fun k => ?_⟩
    · unfold updV
      by_cases e1 : i = j
      · subst e1
        rw [if_pos rfl]
        intro e2
        rcases own' _ e2.symm with h1 | h1
        · exact hold.2.1 h1.symm
        · omega
      · rw [if_neg e1]; exact hold.2.1
    · unfold updV
      by_cases e1 : i = j
      · subst e1
        rw [if_pos rfl, if_neg (Ne.symm e)]
        intro e2 e3
        rcases own' _ e2 with h1 | h1
        · exact hold.2.2 k h1 e3
        · have := (QI.ownIn (h.qi i' hi') k e3.symm).2
          omega
      · rw [if_neg e1]
        by_cases e4 : i' = j
        · subst e4
          rw [if_pos rfl]
          intro e2 e3
          rcases own' _ e3.symm with h1 | h1
          · exact hold.2.2 k e2 h1.symm
          · have := (QI.ownIn (h.qi i hi) k e2).2
            omega
        · rw [if_neg e4]; exact hold.2.2 k
  · have hold := h.ne i hi
    refine ⟨hold.1, hold.2.1, ?_, ?_⟩ <;>
      (unfold updV
       by_cases e1 : i = j
       · subst e1
         rw [if_pos rfl]
         intro e2
         rcases own' _ e2.symm with h1 | h1
         · first | exact hold.2.2.1 h1.symm | exact hold.2.2.2 h1.symm
         · have := h.ltT
           have := h.ltg
           omega
       · rw [if_neg e1]
         first | exact hold.2.2.1 | exact hold.2.2.2)
theorem PT.low (h : PT V T g cap n lo room q v ls) {j : Nat} (hj : j < n) {v' : Value} (hf : FV (q j) (v j) v' V V') : Below lo V V' :=
  ⟨hf.fq.os, hf.fq.tape, hf.fq.output, hf.fq.size, fun k hk => hf.fq.block k (by have := h.ltT; have := h.lo.1; omega) (by have := h.lo.2.2 j hj; omega) (fun e => by have := (QI.ownIn (h.qi j hj) k e.symm).1; have := h.lo.2.2 j hj; omega)⟩
set_option maxRecDepth 20000 in
set_option maxHeartbeats 2000000 in
theorem pdo_bad (o : Op9) (hk : ¬ (1 ≤ o.kd ∧ o.kd ≤ 5)) (w : World) : Calls Tryz.prog 17 #[.pointer (some ⟨T, 0, none⟩), o.val] w fun e w' => e = .returned (retV 1) ∧ Below w.heap.size w w' := by
  obtain ⟨kd, who, ⟨kc, kf, ks⟩, sd, ac, ep, nn⟩ := o
  unfold Op9.val opV retV
  dsimp only at hk ⊢
  have hb1 := heap_two w (.cells #[.int .i64 kd, .int .i64 who, .int .i64 kc, .int .i64 kf, .int .u64 ks, .int .i64 sd, .int .i64 ac, .int .u64 ep, .int .u64 nn] 43) (.cells #[.int .i64 0, .int .u64 0, .int .u64 0, .int .u64 0] 38)
  have bl := below_two w (.cells #[.int .i64 kd, .int .i64 who, .int .i64 kc, .int .i64 kf, .int .u64 ks, .int .i64 sd, .int .i64 ac, .int .u64 ep, .int .u64 nn] 43) (.cells #[.int .i64 0, .int .u64 0, .int .u64 0, .int .u64 0] 38)
  obtain ⟨w0, hw0⟩ : ∃ X, X = (w.alloc (.cells #[.int .i64 kd, .int .i64 who, .int .i64 kc, .int .i64 kf, .int .u64 ks, .int .i64 sd, .int .i64 ac, .int .u64 ep, .int .u64 nn] 43)).alloc (.cells #[.int .i64 0, .int .u64 0, .int .u64 0, .int .u64 0] 38) := ⟨_, rfl⟩
  rw [← hw0] at hb1 bl
  have q0 := cell_of_row w0 w.heap.size 0 _ _ (0, 0) hb1.1
  have c0 := cell_of_row w0 (w.heap.size + 1) 0 _ _ (0, 0) hb1.2
  have c1 := cell_of_row w0 (w.heap.size + 1) 1 _ _ (0, 0) hb1.2
  have c2 := cell_of_row w0 (w.heap.size + 1) 2 _ _ (0, 0) hb1.2
  have c3 := cell_of_row w0 (w.heap.size + 1) 3 _ _ (0, 0) hb1.2
  have f3 : ∀ i, w0.frozen? ⟨w.heap.size + 1, i, none⟩ = false := fun i => by simp [World.frozen?, hb1.2]
  have hs := row_set4 (.int .i64 1) (.int .u64 0) (.int .u64 0) (.int .u64 0) rfl hb1.2
  have HS := Lib.hid (And.intro hs.1 (hs.2.2 _ _ bl (by omega)))
  clear hs bl hb1
  have hd : (kd < 1 ∨ (¬ kd < 1 ∧ 5 < kd)) := by omega
  rcases hd with hd | ⟨hd, hd2⟩
  all_goals
    go_enter Tryz.func17, Tryz.ntmps17
    go_upto_region 1 with fail
    rw [← hw0]
    clear hw0
    go_wp2_with fail
    generalize ((((w0.setCell ⟨w.heap.size + 1, 0, none⟩ (.int .i64 1)).setCell ⟨w.heap.size + 1, 1, none⟩ (.int .u64 0)).setCell ⟨w.heap.size + 1, 2, none⟩ (.int .u64 0)).setCell ⟨w.heap.size + 1, 3, none⟩ (.int .u64 0)) = V4 at HS ⊢
    have r0 := cell_of_row V4 (w.heap.size + 1) 0 _ _ (0, 0) HS.out.1
    have r1 := cell_of_row V4 (w.heap.size + 1) 1 _ _ (0, 0) HS.out.1
    have r2 := cell_of_row V4 (w.heap.size + 1) 2 _ _ (0, 0) HS.out.1
    have r3 := cell_of_row V4 (w.heap.size + 1) 3 _ _ (0, 0) HS.out.1
    simp [bodyPost, results, Tryz.results17, go_sem, r0, r1, r2, r3]
    exact HS.out.2
end
end Go.Proofs.YtlpnecmcncekcaaGreat.Mk
/- The page's table: Do of an operation that is. -/
namespace Go.Proofs.YtlpnecmcncekcaaGreat.Mk
open Go Go.RowKit Go.MuLone

section
variable {V V' : World} {T g cap n lo : Nat} {room : Int} {q : Nat → Nat} {v : Nat → Value} {ls : Nat → List En}
theorem PT.keepOff (h : PT V T g cap n lo room q v ls) {b : Nat} (h1 : T ≠ b) (h2 : g ≠ b) (h3 : ∀ i, i < n → q i ≠ b ∧ some b ≠ (v i).ownBlock) (hk : ∀ k, k ≠ b → V'.heap[k]? = V.heap[k]?) : PT V' T g cap n lo room q v ls := by
  refine ⟨(hk T h1).trans h.tab, fun i hi => (World.cell?_of_block (a := ⟨g, i, none⟩) (hk g h2)).trans (h.cell i hi), fun i hi => ?_, h.ap, h.ne, h.lo, h.n0⟩
  have hqi := h.qi i hi
  refine ⟨(hk _ (h3 i hi).1).trans hqi.box, hqi.row.1, ?_⟩
  rcases hqi.row.2 with h4 | ⟨g', cap', cur, hv, hg, hh, r⟩
  · exact Or.inl h4
  · refine Or.inr ⟨g', cap', cur, hv, hg, (hk g' (fun e => (h3 i hi).2 ?_)).trans hh, r⟩
    rw [hv, ← e]; rfl
set_option maxRecDepth 20000 in
set_option maxHeartbeats 4000000 in
theorem pdo_ok (o : Op9) (ho : o.ok) (hk : 1 ≤ o.kd ∧ o.kd ≤ 5) (w : World) (h : PT w T g cap n lo room q v ls) (hlen : ∀ i, i < n → (ls i).length ≤ 1000) :
    Calls Tryz.prog 17 #[.pointer (some ⟨T, 0, none⟩), o.val] w fun e w' => e = .returned (retV (qAct o.kd room o.who o.k (ls (own n o.k))).1) ∧ ∃ v', PT w' T g cap n lo room q (updV v (own n o.k) v') (updL ls (own n o.k) (qAct o.kd room o.who o.k (ls (own n o.k))).2) ∧ Below lo w w' := by
  have hjn := own_lt h.n0.1 o.k
  have hkey := own_eq h.n0.1 o.k
  obtain ⟨kd, who, ⟨kc, kf, ks⟩, sd, ac, ep, nn⟩ := o
  dsimp only at hk hjn hkey ⊢
  generalize own n (K3.mk kc kf ks) = j at hjn hkey ⊢
  have HSh : Hid (∀ V, Calls Tryz.prog 12 #[.agg #[.int .i64 kc, .int .i64 kf, .int .u64 ks], .int .i64 (n : Int)] V fun e w' => e = .returned (.int .i64 (j : Int)) ∧ Below V.heap.size V w') := Lib.hid fun V => by
    have h1 := Fnv.ref_shard_any kc kf ks (n : Int) ho.1 ho.2 (by have := h.n0; omega) (by have := h.n0; omega) V
    rw [hkey] at h1
    exact h1
  have HDo : Hid (∀ V, QI V (q j) room (v j) (ls j) → Calls Tryz.prog 41 #[.pointer (some ⟨q j, 0, none⟩), .int .i64 kd, .agg #[.int .i64 kc, .int .i64 kf, .int .u64 ks], .int .i64 who] V fun e w' => e = .returned (.int .i64 (qAct kd room who ⟨kc, kf, ks⟩ (ls j)).1) ∧ ∃ v', QI w' (q j) room v' (qAct kd room who ⟨kc, kf, ks⟩ (ls j)).2 ∧ FV (q j) (v j) v' V w') := Lib.hid fun V hV => qdo_f (q j) kd room who (v j) (ls j) ⟨kc, kf, ks⟩ V hV (hlen j hjn) (by omega)
  generalize (qAct kd room who ⟨kc, kf, ks⟩ (ls j)).1 = r at HDo ⊢
  generalize (qAct kd room who ⟨kc, kf, ks⟩ (ls j)).2 = l' at HDo ⊢
  unfold Op9.val opV retV
  dsimp only
  have hb1 := heap_two w (.cells #[.int .i64 kd, .int .i64 who, .int .i64 kc, .int .i64 kf, .int .u64 ks, .int .i64 sd, .int .i64 ac, .int .u64 ep, .int .u64 nn] 43) (.cells #[.int .i64 0, .int .u64 0, .int .u64 0, .int .u64 0] 38)
  have bl := below_two w (.cells #[.int .i64 kd, .int .i64 who, .int .i64 kc, .int .i64 kf, .int .u64 ks, .int .i64 sd, .int .i64 ac, .int .u64 ep, .int .u64 nn] 43) (.cells #[.int .i64 0, .int .u64 0, .int .u64 0, .int .u64 0] 38)
  obtain ⟨w0, hw0⟩ : ∃ X, X = (w.alloc (.cells #[.int .i64 kd, .int .i64 who, .int .i64 kc, .int .i64 kf, .int .u64 ks, .int .i64 sd, .int .i64 ac, .int .u64 ep, .int .u64 nn] 43)).alloc (.cells #[.int .i64 0, .int .u64 0, .int .u64 0, .int .u64 0] 38) := ⟨_, rfl⟩
  have hsz0 : w0.heap.size = w.heap.size + 2 := by rw [hw0]; simp
  rw [← hw0] at hb1 bl
  have q0 := cell_of_row w0 w.heap.size 0 _ _ (0, 0) hb1.1
  have hd1 : ¬ kd < 1 := by omega
  have hd2 : ¬ 5 < kd := by omega
  have hj0 : (0 : Int) ≤ (j : Int) := by omega
  have hj1 : (j : Int) < (n : Int) := by omega
  have HX := Lib.hid (And.intro hb1 (And.intro bl (And.intro (h.below bl) (And.intro hsz0 (And.intro h hjn)))))
  obtain ⟨Q, hQ⟩ : ∃ Q, Q = q j := ⟨_, rfl⟩
  have HQ := Lib.hid hQ
  rw [← hQ] at HDo
  clear hb1 bl hsz0 h hkey ho hlen hjn hk hQ
  go_enter Tryz.func17, Tryz.ntmps17
  go_upto_region 1 with fail
  rw [← hw0]
  clear hw0
  go_upto_region 3 with fail
  refine wp_region_held_drew (S := (fun V => V.heap[w.heap.size]? = some (.cells #[.int .i64 kd, .int .i64 who, .int .i64 kc, .int .i64 kf, .int .u64 ks, .int .i64 sd, .int .i64 ac, .int .u64 ep, .int .u64 nn] 43 (0, 0)) ∧ V.heap[T]? = some (.cells #[.slice (some ⟨g, 0, none⟩) n cap] TQT (0, 0)) ∧ V.cell? ⟨g, j, none⟩ = some (.pointer (some ⟨Q, 0, none⟩)))) (by kernel_rfl) ⟨HX.out.1.1, HX.out.2.2.1.tab, by rw [HQ.out]; exact HX.out.2.2.1.cell j HX.out.2.2.2.2.2⟩ (fun hHeld => ?_)
  have HP0 := Lib.hid (And.intro HX.out.2.2.1.drew (And.intro HX.out.1.2 (show Below w.heap.size w w0.drew from HX.out.2.1.drew)))
  have hz0 : w0.drew.heap.size = w.heap.size + 2 := HX.out.2.2.2.1
  have HZ0 := Lib.hid hz0
  clear hz0
  clear q0
  refine wpAnyH_take (i := 0) (oi := _) (v := ?_) rfl (by kernel_rfl) (by kernel_rfl) (by kernel_rfl) (fun _ _ _ h => h) (Or.inl ⟨by rfl, ?_⟩) (by assumption) ?_
  rotate_left
  · (intro V hSw; have q0 := cell_of_row V w.heap.size 0 _ _ (0, 0) hSw.1; have q1 := cell_of_row V w.heap.size 1 _ _ (0, 0) hSw.1; have q2 := cell_of_row V w.heap.size 2 _ _ (0, 0) hSw.1; have q3 := cell_of_row V w.heap.size 3 _ _ (0, 0) hSw.1; have q4 := cell_of_row V w.heap.size 4 _ _ (0, 0) hSw.1; have q5 := cell_of_row V w.heap.size 5 _ _ (0, 0) hSw.1; have q6 := cell_of_row V w.heap.size 6 _ _ (0, 0) hSw.1; have q7 := cell_of_row V w.heap.size 7 _ _ (0, 0) hSw.1; have q8 := cell_of_row V w.heap.size 8 _ _ (0, 0) hSw.1; have qt := cell_of_row V T 0 _ _ (0, 0) hSw.2.1; have qg := hSw.2.2; clear hSw; go_simp; try with_reducible rfl)
  try simp only [Act.put, List.getElem_toArray, List.getElem_cons_zero, List.setIfInBounds_toArray, List.set_cons_zero, List.set_cons_succ]
  refine wpAnyH_take (i := 1) (oi := _) (v := ?_) rfl (by kernel_rfl) (by kernel_rfl) (by kernel_rfl) (fun _ _ _ h => h) (Or.inl ⟨by rfl, ?_⟩) (by assumption) ?_
  rotate_left
  · (intro V hSw; have q0 := cell_of_row V w.heap.size 0 _ _ (0, 0) hSw.1; have q1 := cell_of_row V w.heap.size 1 _ _ (0, 0) hSw.1; have q2 := cell_of_row V w.heap.size 2 _ _ (0, 0) hSw.1; have q3 := cell_of_row V w.heap.size 3 _ _ (0, 0) hSw.1; have q4 := cell_of_row V w.heap.size 4 _ _ (0, 0) hSw.1; have q5 := cell_of_row V w.heap.size 5 _ _ (0, 0) hSw.1; have q6 := cell_of_row V w.heap.size 6 _ _ (0, 0) hSw.1; have q7 := cell_of_row V w.heap.size 7 _ _ (0, 0) hSw.1; have q8 := cell_of_row V w.heap.size 8 _ _ (0, 0) hSw.1; have qt := cell_of_row V T 0 _ _ (0, 0) hSw.2.1; have qg := hSw.2.2; clear hSw; go_simp; try with_reducible rfl)
  try simp only [Act.put, List.getElem_toArray, List.getElem_cons_succ, List.getElem_cons_zero, List.setIfInBounds_toArray, List.set_cons_zero, List.set_cons_succ]
  refine wpAnyH_take (i := 2) (oi := _) (v := ?_) rfl (by kernel_rfl) (by kernel_rfl) (by kernel_rfl) (fun _ _ _ h => h) (Or.inl ⟨by rfl, ?_⟩) (by assumption) ?_
  rotate_left
  · (intro V hSw; have q0 := cell_of_row V w.heap.size 0 _ _ (0, 0) hSw.1; have q1 := cell_of_row V w.heap.size 1 _ _ (0, 0) hSw.1; have q2 := cell_of_row V w.heap.size 2 _ _ (0, 0) hSw.1; have q3 := cell_of_row V w.heap.size 3 _ _ (0, 0) hSw.1; have q4 := cell_of_row V w.heap.size 4 _ _ (0, 0) hSw.1; have q5 := cell_of_row V w.heap.size 5 _ _ (0, 0) hSw.1; have q6 := cell_of_row V w.heap.size 6 _ _ (0, 0) hSw.1; have q7 := cell_of_row V w.heap.size 7 _ _ (0, 0) hSw.1; have q8 := cell_of_row V w.heap.size 8 _ _ (0, 0) hSw.1; have qt := cell_of_row V T 0 _ _ (0, 0) hSw.2.1; have qg := hSw.2.2; clear hSw; go_simp; try with_reducible rfl)
  try simp only [Act.put, List.getElem_toArray, List.getElem_cons_succ, List.getElem_cons_zero, List.setIfInBounds_toArray, List.set_cons_zero, List.set_cons_succ]
  refine wpAnyH_take (i := 3) (oi := _) (v := ?_) rfl (by kernel_rfl) (by kernel_rfl) (by kernel_rfl) (fun _ _ _ h => h) (Or.inl ⟨by rfl, ?_⟩) (by assumption) ?_
  rotate_left
  · (intro V hSw; have q0 := cell_of_row V w.heap.size 0 _ _ (0, 0) hSw.1; have q1 := cell_of_row V w.heap.size 1 _ _ (0, 0) hSw.1; have q2 := cell_of_row V w.heap.size 2 _ _ (0, 0) hSw.1; have q3 := cell_of_row V w.heap.size 3 _ _ (0, 0) hSw.1; have q4 := cell_of_row V w.heap.size 4 _ _ (0, 0) hSw.1; have q5 := cell_of_row V w.heap.size 5 _ _ (0, 0) hSw.1; have q6 := cell_of_row V w.heap.size 6 _ _ (0, 0) hSw.1; have q7 := cell_of_row V w.heap.size 7 _ _ (0, 0) hSw.1; have q8 := cell_of_row V w.heap.size 8 _ _ (0, 0) hSw.1; have qt := cell_of_row V T 0 _ _ (0, 0) hSw.2.1; have qg := hSw.2.2; clear hSw; go_simp; try with_reducible rfl)
  try simp only [Act.put, List.getElem_toArray, List.getElem_cons_succ, List.getElem_cons_zero, List.setIfInBounds_toArray, List.set_cons_zero, List.set_cons_succ]
  refine wpAnyH_take (i := 4) (oi := _) (v := ?_) rfl (by kernel_rfl) (by kernel_rfl) (by kernel_rfl) (fun _ _ _ h => h) (Or.inl ⟨by rfl, ?_⟩) (by assumption) ?_
  rotate_left
  · (intro V hSw; have q0 := cell_of_row V w.heap.size 0 _ _ (0, 0) hSw.1; have q1 := cell_of_row V w.heap.size 1 _ _ (0, 0) hSw.1; have q2 := cell_of_row V w.heap.size 2 _ _ (0, 0) hSw.1; have q3 := cell_of_row V w.heap.size 3 _ _ (0, 0) hSw.1; have q4 := cell_of_row V w.heap.size 4 _ _ (0, 0) hSw.1; have q5 := cell_of_row V w.heap.size 5 _ _ (0, 0) hSw.1; have q6 := cell_of_row V w.heap.size 6 _ _ (0, 0) hSw.1; have q7 := cell_of_row V w.heap.size 7 _ _ (0, 0) hSw.1; have q8 := cell_of_row V w.heap.size 8 _ _ (0, 0) hSw.1; have qt := cell_of_row V T 0 _ _ (0, 0) hSw.2.1; have qg := hSw.2.2; clear hSw; go_simp; try with_reducible rfl)
  try simp only [Act.put, List.getElem_toArray, List.getElem_cons_succ, List.getElem_cons_zero, List.setIfInBounds_toArray, List.set_cons_zero, List.set_cons_succ]
  refine wpAnyH_take (i := 5) (oi := _) (v := ?_) rfl (by kernel_rfl) (by kernel_rfl) (by kernel_rfl) (fun _ _ _ h => h) (Or.inl ⟨by rfl, ?_⟩) (by assumption) ?_
  rotate_left
  · (intro V hSw; have q0 := cell_of_row V w.heap.size 0 _ _ (0, 0) hSw.1; have q1 := cell_of_row V w.heap.size 1 _ _ (0, 0) hSw.1; have q2 := cell_of_row V w.heap.size 2 _ _ (0, 0) hSw.1; have q3 := cell_of_row V w.heap.size 3 _ _ (0, 0) hSw.1; have q4 := cell_of_row V w.heap.size 4 _ _ (0, 0) hSw.1; have q5 := cell_of_row V w.heap.size 5 _ _ (0, 0) hSw.1; have q6 := cell_of_row V w.heap.size 6 _ _ (0, 0) hSw.1; have q7 := cell_of_row V w.heap.size 7 _ _ (0, 0) hSw.1; have q8 := cell_of_row V w.heap.size 8 _ _ (0, 0) hSw.1; have qt := cell_of_row V T 0 _ _ (0, 0) hSw.2.1; have qg := hSw.2.2; clear hSw; go_simp; try with_reducible rfl)
  try simp only [Act.put, List.getElem_toArray, List.getElem_cons_succ, List.getElem_cons_zero, List.setIfInBounds_toArray, List.set_cons_zero, List.set_cons_succ]
  refine wpAnyH_take (i := 6) (oi := _) (v := ?_) rfl (by kernel_rfl) (by kernel_rfl) (by kernel_rfl) (fun _ _ _ h => h) (Or.inl ⟨by rfl, ?_⟩) (by assumption) ?_
  rotate_left
  · (intro V hSw; have q0 := cell_of_row V w.heap.size 0 _ _ (0, 0) hSw.1; have q1 := cell_of_row V w.heap.size 1 _ _ (0, 0) hSw.1; have q2 := cell_of_row V w.heap.size 2 _ _ (0, 0) hSw.1; have q3 := cell_of_row V w.heap.size 3 _ _ (0, 0) hSw.1; have q4 := cell_of_row V w.heap.size 4 _ _ (0, 0) hSw.1; have q5 := cell_of_row V w.heap.size 5 _ _ (0, 0) hSw.1; have q6 := cell_of_row V w.heap.size 6 _ _ (0, 0) hSw.1; have q7 := cell_of_row V w.heap.size 7 _ _ (0, 0) hSw.1; have q8 := cell_of_row V w.heap.size 8 _ _ (0, 0) hSw.1; have qt := cell_of_row V T 0 _ _ (0, 0) hSw.2.1; have qg := hSw.2.2; clear hSw; go_simp; try with_reducible rfl)
  try simp only [Act.put, List.getElem_toArray, List.getElem_cons_succ, List.getElem_cons_zero, List.setIfInBounds_toArray, List.set_cons_zero, List.set_cons_succ]
  refine wpAnyH_take (i := 7) (oi := _) (v := ?_) rfl (by kernel_rfl) (by kernel_rfl) (by kernel_rfl) (fun _ _ _ h => h) (Or.inl ⟨by rfl, ?_⟩) (by assumption) ?_
  rotate_left
  · (intro V hSw; have q0 := cell_of_row V w.heap.size 0 _ _ (0, 0) hSw.1; have q1 := cell_of_row V w.heap.size 1 _ _ (0, 0) hSw.1; have q2 := cell_of_row V w.heap.size 2 _ _ (0, 0) hSw.1; have q3 := cell_of_row V w.heap.size 3 _ _ (0, 0) hSw.1; have q4 := cell_of_row V w.heap.size 4 _ _ (0, 0) hSw.1; have q5 := cell_of_row V w.heap.size 5 _ _ (0, 0) hSw.1; have q6 := cell_of_row V w.heap.size 6 _ _ (0, 0) hSw.1; have q7 := cell_of_row V w.heap.size 7 _ _ (0, 0) hSw.1; have q8 := cell_of_row V w.heap.size 8 _ _ (0, 0) hSw.1; have qt := cell_of_row V T 0 _ _ (0, 0) hSw.2.1; have qg := hSw.2.2; clear hSw; go_simp; try with_reducible rfl)
  try simp only [Act.put, List.getElem_toArray, List.getElem_cons_succ, List.getElem_cons_zero, List.setIfInBounds_toArray, List.set_cons_zero, List.set_cons_succ]
  refine wpAnyH_take (i := 8) (oi := _) (v := ?_) rfl (by kernel_rfl) (by kernel_rfl) (by kernel_rfl) (fun _ _ _ h => h) (Or.inl ⟨by rfl, ?_⟩) (by assumption) ?_
  rotate_left
  · (intro V hSw; have q0 := cell_of_row V w.heap.size 0 _ _ (0, 0) hSw.1; have q1 := cell_of_row V w.heap.size 1 _ _ (0, 0) hSw.1; have q2 := cell_of_row V w.heap.size 2 _ _ (0, 0) hSw.1; have q3 := cell_of_row V w.heap.size 3 _ _ (0, 0) hSw.1; have q4 := cell_of_row V w.heap.size 4 _ _ (0, 0) hSw.1; have q5 := cell_of_row V w.heap.size 5 _ _ (0, 0) hSw.1; have q6 := cell_of_row V w.heap.size 6 _ _ (0, 0) hSw.1; have q7 := cell_of_row V w.heap.size 7 _ _ (0, 0) hSw.1; have q8 := cell_of_row V w.heap.size 8 _ _ (0, 0) hSw.1; have qt := cell_of_row V T 0 _ _ (0, 0) hSw.2.1; have qg := hSw.2.2; clear hSw; go_simp; try with_reducible rfl)
  try simp only [Act.put, List.getElem_toArray, List.getElem_cons_succ, List.getElem_cons_zero, List.setIfInBounds_toArray, List.set_cons_zero, List.set_cons_succ]
  refine wpAnyH_take (i := 9) (oi := _) (v := ?_) rfl (by kernel_rfl) (by kernel_rfl) (by kernel_rfl) (fun _ _ _ h => h) (Or.inl ⟨by rfl, ?_⟩) (by assumption) ?_
  rotate_left
  · (intro V hSw; have q0 := cell_of_row V w.heap.size 0 _ _ (0, 0) hSw.1; have q1 := cell_of_row V w.heap.size 1 _ _ (0, 0) hSw.1; have q2 := cell_of_row V w.heap.size 2 _ _ (0, 0) hSw.1; have q3 := cell_of_row V w.heap.size 3 _ _ (0, 0) hSw.1; have q4 := cell_of_row V w.heap.size 4 _ _ (0, 0) hSw.1; have q5 := cell_of_row V w.heap.size 5 _ _ (0, 0) hSw.1; have q6 := cell_of_row V w.heap.size 6 _ _ (0, 0) hSw.1; have q7 := cell_of_row V w.heap.size 7 _ _ (0, 0) hSw.1; have q8 := cell_of_row V w.heap.size 8 _ _ (0, 0) hSw.1; have qt := cell_of_row V T 0 _ _ (0, 0) hSw.2.1; have qg := hSw.2.2; clear hSw; go_simp; try with_reducible rfl)
  try simp only [Act.put, List.getElem_toArray, List.getElem_cons_succ, List.getElem_cons_zero, List.setIfInBounds_toArray, List.set_cons_zero, List.set_cons_succ]
  refine wpAnyH_take (i := 10) (oi := _) (v := ?_) rfl (by kernel_rfl) (by kernel_rfl) (by kernel_rfl) (fun _ _ _ h => h) (Or.inl ⟨by rfl, ?_⟩) (by assumption) ?_
  rotate_left
  · (intro V hSw; have q0 := cell_of_row V w.heap.size 0 _ _ (0, 0) hSw.1; have q1 := cell_of_row V w.heap.size 1 _ _ (0, 0) hSw.1; have q2 := cell_of_row V w.heap.size 2 _ _ (0, 0) hSw.1; have q3 := cell_of_row V w.heap.size 3 _ _ (0, 0) hSw.1; have q4 := cell_of_row V w.heap.size 4 _ _ (0, 0) hSw.1; have q5 := cell_of_row V w.heap.size 5 _ _ (0, 0) hSw.1; have q6 := cell_of_row V w.heap.size 6 _ _ (0, 0) hSw.1; have q7 := cell_of_row V w.heap.size 7 _ _ (0, 0) hSw.1; have q8 := cell_of_row V w.heap.size 8 _ _ (0, 0) hSw.1; have qt := cell_of_row V T 0 _ _ (0, 0) hSw.2.1; have qg := hSw.2.2; clear hSw; go_simp; try with_reducible rfl)
  try simp only [Act.put, List.getElem_toArray, List.getElem_cons_succ, List.getElem_cons_zero, List.setIfInBounds_toArray, List.set_cons_zero, List.set_cons_succ]
  refine wpAnyH_take (i := 14) (oi := _) (v := ?_) rfl (by kernel_rfl) (by kernel_rfl) (by kernel_rfl) (fun _ _ _ h => h) (Or.inl ⟨by rfl, ?_⟩) (by assumption) ?_
  rotate_left
  · (intro V hSw; have q0 := cell_of_row V w.heap.size 0 _ _ (0, 0) hSw.1; have q1 := cell_of_row V w.heap.size 1 _ _ (0, 0) hSw.1; have q2 := cell_of_row V w.heap.size 2 _ _ (0, 0) hSw.1; have q3 := cell_of_row V w.heap.size 3 _ _ (0, 0) hSw.1; have q4 := cell_of_row V w.heap.size 4 _ _ (0, 0) hSw.1; have q5 := cell_of_row V w.heap.size 5 _ _ (0, 0) hSw.1; have q6 := cell_of_row V w.heap.size 6 _ _ (0, 0) hSw.1; have q7 := cell_of_row V w.heap.size 7 _ _ (0, 0) hSw.1; have q8 := cell_of_row V w.heap.size 8 _ _ (0, 0) hSw.1; have qt := cell_of_row V T 0 _ _ (0, 0) hSw.2.1; have qg := hSw.2.2; clear hSw; go_simp; try with_reducible rfl)
  try simp only [Act.put, List.getElem_toArray, List.getElem_cons_succ, List.getElem_cons_zero, List.setIfInBounds_toArray, List.set_cons_zero, List.set_cons_succ]
  refine wpAnyH_take (i := 15) (oi := _) (v := ?_) rfl (by kernel_rfl) (by kernel_rfl) (by kernel_rfl) (fun _ _ _ h => h) (Or.inl ⟨by rfl, ?_⟩) (by assumption) ?_
  rotate_left
  · (intro V hSw; have q0 := cell_of_row V w.heap.size 0 _ _ (0, 0) hSw.1; have q1 := cell_of_row V w.heap.size 1 _ _ (0, 0) hSw.1; have q2 := cell_of_row V w.heap.size 2 _ _ (0, 0) hSw.1; have q3 := cell_of_row V w.heap.size 3 _ _ (0, 0) hSw.1; have q4 := cell_of_row V w.heap.size 4 _ _ (0, 0) hSw.1; have q5 := cell_of_row V w.heap.size 5 _ _ (0, 0) hSw.1; have q6 := cell_of_row V w.heap.size 6 _ _ (0, 0) hSw.1; have q7 := cell_of_row V w.heap.size 7 _ _ (0, 0) hSw.1; have q8 := cell_of_row V w.heap.size 8 _ _ (0, 0) hSw.1; have qt := cell_of_row V T 0 _ _ (0, 0) hSw.2.1; have qg := hSw.2.2; clear hSw; go_simp; try with_reducible rfl)
  try simp only [Act.put, List.getElem_toArray, List.getElem_cons_succ, List.getElem_cons_zero, List.setIfInBounds_toArray, List.set_cons_zero, List.set_cons_succ]
  refine wpAnyH_take (i := 16) (oi := _) (v := ?_) rfl (by kernel_rfl) (by kernel_rfl) (by kernel_rfl) (fun _ _ _ h => h) (Or.inl ⟨by rfl, ?_⟩) (by assumption) ?_
  rotate_left
  · (intro V hSw; have q0 := cell_of_row V w.heap.size 0 _ _ (0, 0) hSw.1; have q1 := cell_of_row V w.heap.size 1 _ _ (0, 0) hSw.1; have q2 := cell_of_row V w.heap.size 2 _ _ (0, 0) hSw.1; have q3 := cell_of_row V w.heap.size 3 _ _ (0, 0) hSw.1; have q4 := cell_of_row V w.heap.size 4 _ _ (0, 0) hSw.1; have q5 := cell_of_row V w.heap.size 5 _ _ (0, 0) hSw.1; have q6 := cell_of_row V w.heap.size 6 _ _ (0, 0) hSw.1; have q7 := cell_of_row V w.heap.size 7 _ _ (0, 0) hSw.1; have q8 := cell_of_row V w.heap.size 8 _ _ (0, 0) hSw.1; have qt := cell_of_row V T 0 _ _ (0, 0) hSw.2.1; have qg := hSw.2.2; clear hSw; go_simp; try with_reducible rfl)
  try simp only [Act.put, List.getElem_toArray, List.getElem_cons_succ, List.getElem_cons_zero, List.setIfInBounds_toArray, List.set_cons_zero, List.set_cons_succ]
  refine wpAnyH_take (i := 17) (oi := _) (v := ?_) rfl (by kernel_rfl) (by kernel_rfl) (by kernel_rfl) (fun _ _ _ h => h) (Or.inl ⟨by rfl, ?_⟩) (by assumption) ?_
  rotate_left
  · (intro V hSw; have q0 := cell_of_row V w.heap.size 0 _ _ (0, 0) hSw.1; have q1 := cell_of_row V w.heap.size 1 _ _ (0, 0) hSw.1; have q2 := cell_of_row V w.heap.size 2 _ _ (0, 0) hSw.1; have q3 := cell_of_row V w.heap.size 3 _ _ (0, 0) hSw.1; have q4 := cell_of_row V w.heap.size 4 _ _ (0, 0) hSw.1; have q5 := cell_of_row V w.heap.size 5 _ _ (0, 0) hSw.1; have q6 := cell_of_row V w.heap.size 6 _ _ (0, 0) hSw.1; have q7 := cell_of_row V w.heap.size 7 _ _ (0, 0) hSw.1; have q8 := cell_of_row V w.heap.size 8 _ _ (0, 0) hSw.1; have qt := cell_of_row V T 0 _ _ (0, 0) hSw.2.1; have qg := hSw.2.2; clear hSw; go_simp; try with_reducible rfl)
  try simp only [Act.put, List.getElem_toArray, List.getElem_cons_succ, List.getElem_cons_zero, List.setIfInBounds_toArray, List.set_cons_zero, List.set_cons_succ]
  refine wpAnyH_take (i := 18) (oi := _) (v := ?_) rfl (by kernel_rfl) (by kernel_rfl) (by kernel_rfl) (fun _ _ _ h => h) (Or.inl ⟨by rfl, ?_⟩) (by assumption) ?_
  rotate_left
  · (intro V hSw; have q0 := cell_of_row V w.heap.size 0 _ _ (0, 0) hSw.1; have q1 := cell_of_row V w.heap.size 1 _ _ (0, 0) hSw.1; have q2 := cell_of_row V w.heap.size 2 _ _ (0, 0) hSw.1; have q3 := cell_of_row V w.heap.size 3 _ _ (0, 0) hSw.1; have q4 := cell_of_row V w.heap.size 4 _ _ (0, 0) hSw.1; have q5 := cell_of_row V w.heap.size 5 _ _ (0, 0) hSw.1; have q6 := cell_of_row V w.heap.size 6 _ _ (0, 0) hSw.1; have q7 := cell_of_row V w.heap.size 7 _ _ (0, 0) hSw.1; have q8 := cell_of_row V w.heap.size 8 _ _ (0, 0) hSw.1; have qt := cell_of_row V T 0 _ _ (0, 0) hSw.2.1; have qg := hSw.2.2; clear hSw; go_simp; try with_reducible rfl)
  try simp only [Act.put, List.getElem_toArray, List.getElem_cons_succ, List.getElem_cons_zero, List.setIfInBounds_toArray, List.set_cons_zero, List.set_cons_succ]
  refine wpAnyH_take (i := 19) (oi := _) (v := ?_) rfl (by kernel_rfl) (by kernel_rfl) (by kernel_rfl) (fun _ _ _ h => h) (Or.inl ⟨by rfl, ?_⟩) (by assumption) ?_
  rotate_left
  · (intro V hSw; have q0 := cell_of_row V w.heap.size 0 _ _ (0, 0) hSw.1; have q1 := cell_of_row V w.heap.size 1 _ _ (0, 0) hSw.1; have q2 := cell_of_row V w.heap.size 2 _ _ (0, 0) hSw.1; have q3 := cell_of_row V w.heap.size 3 _ _ (0, 0) hSw.1; have q4 := cell_of_row V w.heap.size 4 _ _ (0, 0) hSw.1; have q5 := cell_of_row V w.heap.size 5 _ _ (0, 0) hSw.1; have q6 := cell_of_row V w.heap.size 6 _ _ (0, 0) hSw.1; have q7 := cell_of_row V w.heap.size 7 _ _ (0, 0) hSw.1; have q8 := cell_of_row V w.heap.size 8 _ _ (0, 0) hSw.1; have qt := cell_of_row V T 0 _ _ (0, 0) hSw.2.1; have qg := hSw.2.2; clear hSw; go_simp; try with_reducible rfl)
  try simp only [Act.put, List.getElem_toArray, List.getElem_cons_succ, List.getElem_cons_zero, List.setIfInBounds_toArray, List.set_cons_zero, List.set_cons_succ]
  refine wpAnyH_ready (rs := [11]) (by kernel_rfl) (by simp) ?_
  refine AllReadyH.cons rfl (fun K hK => ?_) AllReadyH.nil
  simp only [List.getElem_toArray, List.getElem_cons_succ, List.getElem_cons_zero]
  rw [if_pos (by rfl)]
  go_simp
  refine (HSh.out _).mono ?_
  rintro _ w2 ⟨rfl, b2⟩
  have HP2 : Hid (PT w2 T g cap n lo room q v ls ∧ w2.heap[w.heap.size + 1]? = some (.cells #[.int .i64 0, .int .u64 0, .int .u64 0, .int .u64 0] 38 (0, 0)) ∧ Below w.heap.size w w2 ∧ w.heap.size + 2 ≤ w2.heap.size ∧ w2.heap[w.heap.size]? = some (.cells #[.int .i64 kd, .int .i64 who, .int .i64 kc, .int .i64 kf, .int .u64 ks, .int .i64 sd, .int .i64 ac, .int .u64 ep, .int .u64 nn] 43 (0, 0))) := Lib.hid ⟨HP0.out.1.below b2, (b2.block _ (by have := HZ0.out; omega)).trans HP0.out.2.1, HP0.out.2.2.trans (b2.mono HP0.out.2.2.size), (by have := HZ0.out; have := b2.size; omega), (b2.block _ (by have := HZ0.out; omega)).trans hHeld.1⟩
  clear b2 HP0 HZ0 hHeld
  go_wp2_with fail
  refine hK.out _ _ ⟨HP2.out.2.2.2.2, HP2.out.1.tab, by rw [HQ.out]; exact HP2.out.1.cell j HX.out.2.2.2.2.2⟩ (fun hHeld => ?_)
  clear hK K
  try simp only [Act.put, List.getElem_toArray, List.getElem_cons_succ, List.getElem_cons_zero, List.setIfInBounds_toArray, List.set_cons_zero, List.set_cons_succ]
  refine wpAnyH_take (i := 12) (oi := _) (v := ?_) rfl (by kernel_rfl) (by kernel_rfl) (by kernel_rfl) (fun _ _ _ h => h) (Or.inl ⟨by rfl, ?_⟩) (by assumption) ?_
  rotate_left
  · (intro V hSw; have q0 := cell_of_row V w.heap.size 0 _ _ (0, 0) hSw.1; have q1 := cell_of_row V w.heap.size 1 _ _ (0, 0) hSw.1; have q2 := cell_of_row V w.heap.size 2 _ _ (0, 0) hSw.1; have q3 := cell_of_row V w.heap.size 3 _ _ (0, 0) hSw.1; have q4 := cell_of_row V w.heap.size 4 _ _ (0, 0) hSw.1; have q5 := cell_of_row V w.heap.size 5 _ _ (0, 0) hSw.1; have q6 := cell_of_row V w.heap.size 6 _ _ (0, 0) hSw.1; have q7 := cell_of_row V w.heap.size 7 _ _ (0, 0) hSw.1; have q8 := cell_of_row V w.heap.size 8 _ _ (0, 0) hSw.1; have qt := cell_of_row V T 0 _ _ (0, 0) hSw.2.1; have qg := hSw.2.2; clear hSw; go_simp; try with_reducible rfl)
  try simp only [Act.put, List.getElem_toArray, List.getElem_cons_succ, List.getElem_cons_zero, List.setIfInBounds_toArray, List.set_cons_zero, List.set_cons_succ]
  refine wpAnyH_take (i := 13) (oi := _) (v := ?_) rfl (by kernel_rfl) (by kernel_rfl) (by kernel_rfl) (fun _ _ _ h => h) (Or.inl ⟨by rfl, ?_⟩) (by assumption) ?_
  rotate_left
  · (intro V hSw; have q0 := cell_of_row V w.heap.size 0 _ _ (0, 0) hSw.1; have q1 := cell_of_row V w.heap.size 1 _ _ (0, 0) hSw.1; have q2 := cell_of_row V w.heap.size 2 _ _ (0, 0) hSw.1; have q3 := cell_of_row V w.heap.size 3 _ _ (0, 0) hSw.1; have q4 := cell_of_row V w.heap.size 4 _ _ (0, 0) hSw.1; have q5 := cell_of_row V w.heap.size 5 _ _ (0, 0) hSw.1; have q6 := cell_of_row V w.heap.size 6 _ _ (0, 0) hSw.1; have q7 := cell_of_row V w.heap.size 7 _ _ (0, 0) hSw.1; have q8 := cell_of_row V w.heap.size 8 _ _ (0, 0) hSw.1; have qt := cell_of_row V T 0 _ _ (0, 0) hSw.2.1; have qg := hSw.2.2; clear hSw; go_simp; try with_reducible rfl)
  try simp only [Act.put, List.getElem_toArray, List.getElem_cons_succ, List.getElem_cons_zero, List.setIfInBounds_toArray, List.set_cons_zero, List.set_cons_succ]
  refine wpAnyH_ready (rs := [20]) (by kernel_rfl) (by simp) ?_
  refine AllReadyH.cons rfl (fun K hK => ?_) AllReadyH.nil
  simp only [List.getElem_toArray, List.getElem_cons_succ, List.getElem_cons_zero]
  rw [if_pos (by rfl)]
  go_simp
  have hqj := HP2.out.1.qi j HX.out.2.2.2.2.2
  rw [← HQ.out] at hqj
  refine (HDo.out _ hqj).mono ?_
  rintro _ w3 ⟨rfl, v', hq', hf⟩
  have HP3 : Hid (PT w3 T g cap n lo room q (updV v j v') (updL ls j l') ∧ w3.heap[w.heap.size + 1]? = some (.cells #[.int .i64 0, .int .u64 0, .int .u64 0, .int .u64 0] 38 (0, 0)) ∧ Below lo w w3 ∧ w3.heap[w.heap.size]? = some (.cells #[.int .i64 kd, .int .i64 who, .int .i64 kc, .int .i64 kf, .int .u64 ks, .int .i64 sd, .int .i64 ac, .int .u64 ep, .int .u64 nn] 43 (0, 0)) ∧ (∀ i, i < n → some (w.heap.size + 1) ≠ (updV v j v' i).ownBlock)) := Lib.hid (by
    have hP := HX.out.2.2.2.2.1
    have hj := HX.out.2.2.2.2.2
    have hsz := HP2.out.2.2.2.1
    have hql := (hP.qi j hj).lt
    rw [HQ.out] at hq' hf
    have far : ∀ k, w.heap.size ≤ k → k < w2.heap.size → w3.heap[k]? = w2.heap[k]? := fun k h1 h2 => hf.fq.block k h2 (by omega) (fun e => by have := (QI.ownIn (hP.qi j hj) k e.symm).2; omega)
    refine ⟨HP2.out.1.turn hj hq' hf, (far _ (by omega) (by omega)).trans HP2.out.2.1, (HP2.out.2.2.1.mono (by have := hP.ltT; have := hP.lo.1; omega)).trans (HP2.out.1.low hj hf), (far _ (Nat.le_refl _) (by omega)).trans HP2.out.2.2.2.2, fun i hi e => ?_⟩
    unfold updV at e
    by_cases hij : i = j
    · rw [if_pos hij] at e
      rcases hf.new with h1 | h1
      · rw [h1] at e
        have := (QI.ownIn (hP.qi j hj) _ e.symm).2
        omega
      · have := h1 _ e.symm
        omega
    · rw [if_neg hij] at e
      have := (QI.ownIn (hP.qi i hi) _ e.symm).2
      omega)
  clear hq' hf hqj HP2 hHeld
  go_wp2_with fail
  refine hK.out _ _ ⟨HP3.out.2.2.2.1, HP3.out.1.tab, by rw [HQ.out]; exact HP3.out.1.cell j HX.out.2.2.2.2.2⟩ (fun hHeld => ?_)
  clear hK K
  try simp only [Act.put, List.getElem_toArray, List.getElem_cons_succ, List.getElem_cons_zero, List.setIfInBounds_toArray, List.set_cons_zero, List.set_cons_succ]
  refine wpAnyH_take (i := 21) (oi := _) (v := ?_) rfl (by kernel_rfl) (by kernel_rfl) (by kernel_rfl) (fun _ _ _ h => h) (Or.inl ⟨by rfl, ?_⟩) (by assumption) ?_
  rotate_left
  · (intro V hSw; have q0 := cell_of_row V w.heap.size 0 _ _ (0, 0) hSw.1; have q1 := cell_of_row V w.heap.size 1 _ _ (0, 0) hSw.1; have q2 := cell_of_row V w.heap.size 2 _ _ (0, 0) hSw.1; have q3 := cell_of_row V w.heap.size 3 _ _ (0, 0) hSw.1; have q4 := cell_of_row V w.heap.size 4 _ _ (0, 0) hSw.1; have q5 := cell_of_row V w.heap.size 5 _ _ (0, 0) hSw.1; have q6 := cell_of_row V w.heap.size 6 _ _ (0, 0) hSw.1; have q7 := cell_of_row V w.heap.size 7 _ _ (0, 0) hSw.1; have q8 := cell_of_row V w.heap.size 8 _ _ (0, 0) hSw.1; have qt := cell_of_row V T 0 _ _ (0, 0) hSw.2.1; have qg := hSw.2.2; clear hSw; go_simp; try with_reducible rfl)
  try simp only [Act.put, List.getElem_toArray, List.getElem_cons_succ, List.getElem_cons_zero, List.setIfInBounds_toArray, List.set_cons_zero, List.set_cons_succ]
  have c0 := cell_of_row w3 (w.heap.size + 1) 0 _ _ (0, 0) HP3.out.2.1
  have c1 := cell_of_row w3 (w.heap.size + 1) 1 _ _ (0, 0) HP3.out.2.1
  have c2 := cell_of_row w3 (w.heap.size + 1) 2 _ _ (0, 0) HP3.out.2.1
  have c3 := cell_of_row w3 (w.heap.size + 1) 3 _ _ (0, 0) HP3.out.2.1
  have f3 : ∀ i, w3.frozen? ⟨w.heap.size + 1, i, none⟩ = false := fun i => by simp [World.frozen?, HP3.out.2.1]
  have hs := row_set4 (.int .i64 r) (.int .u64 0) (.int .u64 0) (.int .u64 0) rfl HP3.out.2.1
  have HS := Lib.hid (And.intro hs.1 (And.intro ((hs.2.1 _ (by omega)).trans HP3.out.2.2.2.1) (And.intro (HP3.out.1.keepOff (by have := HX.out.2.2.2.2.1.ltT; omega) (by have := HX.out.2.2.2.2.1.ltg; omega) (fun i hi => ⟨by have := (HX.out.2.2.2.2.1.qi i hi).lt; omega, HP3.out.2.2.2.2 i hi⟩) hs.2.1) (hs.2.2 _ _ HP3.out.2.2.1 (by have := HX.out.2.2.2.2.1.ltT; have := HX.out.2.2.2.2.1.lo.1; omega)))))
  clear hs HP3 hHeld
  refine wpAnyH_ready (rs := [22]) (by kernel_rfl) (by simp) ?_
  refine AllReadyH.cons rfl (fun K hK => ?_) AllReadyH.nil
  simp only [List.getElem_toArray, List.getElem_cons_succ, List.getElem_cons_zero]
  rw [if_pos (by rfl)]
  go_simp
  refine hK.out _ _ ⟨HS.out.2.1, HS.out.2.2.1.tab, by rw [HQ.out]; exact HS.out.2.2.1.cell j HX.out.2.2.2.2.2⟩ (fun hHeld => ?_)
  clear hK K c0 c1 c2 c3 f3 hHeld
  try simp only [Act.put, List.getElem_toArray, List.getElem_cons_succ, List.getElem_cons_zero, List.setIfInBounds_toArray, List.set_cons_zero, List.set_cons_succ]
  refine wpAnyH_done (by kernel_rfl) ?_ _
  generalize ((((w3.setCell ⟨w.heap.size + 1, 0, none⟩ (.int .i64 r)).setCell ⟨w.heap.size + 1, 1, none⟩ (.int .u64 0)).setCell ⟨w.heap.size + 1, 2, none⟩ (.int .u64 0)).setCell ⟨w.heap.size + 1, 3, none⟩ (.int .u64 0)) = V4 at HS ⊢
  have r0 := cell_of_row V4 (w.heap.size + 1) 0 _ _ (0, 0) HS.out.1
  have r1 := cell_of_row V4 (w.heap.size + 1) 1 _ _ (0, 0) HS.out.1
  have r2 := cell_of_row V4 (w.heap.size + 1) 2 _ _ (0, 0) HS.out.1
  have r3 := cell_of_row V4 (w.heap.size + 1) 3 _ _ (0, 0) HS.out.1
  go_wp2
  simp [bodyPost, results, Tryz.results17, go_sem, r0, r1, r2, r3]
  exact ⟨⟨v', HS.out.2.2.1⟩, HS.out.2.2.2⟩
end
end Go.Proofs.YtlpnecmcncekcaaGreat.Mk
/- The page's table: Get. -/
namespace Go.Proofs.YtlpnecmcncekcaaGreat.Mk
open Go Go.RowKit Go.MuLone

section
variable {T g cap n lo : Nat} {room : Int} {q : Nat → Nat} {v : Nat → Value} {ls : Nat → List En}
set_option maxRecDepth 20000 in
set_option maxHeartbeats 4000000 in
theorem pget (k : K3) (hk : 0 ≤ k.s ∧ k.s < 18446744073709551616) (w : World) (h : PT w T g cap n lo room q v ls) (hlen : ∀ i, i < n → (ls i).length ≤ 1000) :
    Calls Tryz.prog 19 #[.pointer (some ⟨T, 0, none⟩), k.val] w fun e w' => e = .returned (.tuple #[.agg ((qE k (ls (own n k))).getD en0).cells, .bool (qE k (ls (own n k))).isSome]) ∧ Below w.heap.size w w' := by
  have hjn := own_lt h.n0.1 k
  have hkey := own_eq h.n0.1 k
  generalize own n k = j at hjn hkey ⊢
  obtain ⟨kc, kf, ks⟩ := k
  dsimp only at hk hkey
  have HSh : Hid (∀ V, Calls Tryz.prog 12 #[.agg #[.int .i64 kc, .int .i64 kf, .int .u64 ks], .int .i64 (n : Int)] V fun e w' => e = .returned (.int .i64 (j : Int)) ∧ Below V.heap.size V w') := Lib.hid fun V => by
    have h1 := Fnv.ref_shard_any kc kf ks (n : Int) hk.1 hk.2 (by have := h.n0; omega) (by have := h.n0; omega) V
    rw [hkey] at h1
    exact h1
  have HFi : Hid (∀ V, QI V (q j) room (v j) (ls j) → Calls Tryz.prog 43 #[.pointer (some ⟨q j, 0, none⟩), .agg #[.int .i64 kc, .int .i64 kf, .int .u64 ks]] V fun e w' => e = .returned (.int .i64 (qf ⟨kc, kf, ks⟩ (ls j))) ∧ Below V.heap.size V w') := Lib.hid fun V hV => find_any (q j) room (v j) (ls j) ⟨kc, kf, ks⟩ V hV (hlen j hjn)
  have HC := Lib.hid (qf_cases ⟨kc, kf, ks⟩ (ls j))
  unfold K3.val
  dsimp only
  have hb1 := heap_two w (.cells #[.int .i64 kc, .int .i64 kf, .int .u64 ks] 41) (.cells #[.int .i64 0, .int .i64 0, .int .u64 0, .int .i64 0, .int .i64 0] 54)
  have bl := below_two w (.cells #[.int .i64 kc, .int .i64 kf, .int .u64 ks] 41) (.cells #[.int .i64 0, .int .i64 0, .int .u64 0, .int .i64 0, .int .i64 0] 54)
  obtain ⟨w0, hw0⟩ : ∃ X, X = (w.alloc (.cells #[.int .i64 kc, .int .i64 kf, .int .u64 ks] 41)).alloc (.cells #[.int .i64 0, .int .i64 0, .int .u64 0, .int .i64 0, .int .i64 0] 54) := ⟨_, rfl⟩
  have hsz0 : w0.heap.size = w.heap.size + 2 := by rw [hw0]; simp
  rw [← hw0] at hb1 bl
  have hj0 : (0 : Int) ≤ (j : Int) := by omega
  have hj1 : (j : Int) < (n : Int) := by omega
  have HX := Lib.hid (And.intro hb1 (And.intro bl (And.intro (h.below bl) (And.intro hsz0 hjn))))
  obtain ⟨Q, hQ⟩ : ∃ Q, Q = q j := ⟨_, rfl⟩
  have HQ := Lib.hid hQ
  rw [← hQ] at HFi
  clear hb1 bl hsz0 h hkey hk hlen hjn hQ
  go_enter Tryz.func19, Tryz.ntmps19
  go_upto_region 1 with fail
  rw [← hw0]
  clear hw0
  refine wp_region_held_drew (S := (fun V => V.heap[w.heap.size]? = some (.cells #[.int .i64 kc, .int .i64 kf, .int .u64 ks] 41 (0, 0)) ∧ V.heap[T]? = some (.cells #[.slice (some ⟨g, 0, none⟩) n cap] TQT (0, 0)) ∧ V.cell? ⟨g, j, none⟩ = some (.pointer (some ⟨Q, 0, none⟩)))) (by kernel_rfl) ⟨HX.out.1.1, HX.out.2.2.1.tab, by rw [HQ.out]; exact HX.out.2.2.1.cell j HX.out.2.2.2.2⟩ (fun hHeld => ?_)
  have HP0 := Lib.hid (And.intro HX.out.2.2.1.drew (And.intro HX.out.1.2 (show Below w.heap.size w w0.drew from HX.out.2.1.drew)))
  have hz0 : w0.drew.heap.size = w.heap.size + 2 := HX.out.2.2.2.1
  have HZ0 := Lib.hid hz0
  clear hz0
  refine wpAnyH_take (i := 0) (oi := _) (v := ?_) rfl (by kernel_rfl) (by kernel_rfl) (by kernel_rfl) (fun _ _ _ h => h) (Or.inl ⟨by rfl, ?_⟩) (by assumption) ?_
  rotate_left
  · (intro V hSw; have q0 := cell_of_row V w.heap.size 0 _ _ (0, 0) hSw.1; have q1 := cell_of_row V w.heap.size 1 _ _ (0, 0) hSw.1; have q2 := cell_of_row V w.heap.size 2 _ _ (0, 0) hSw.1; have qt := cell_of_row V T 0 _ _ (0, 0) hSw.2.1; have qg := hSw.2.2; clear hSw; go_simp; try with_reducible rfl)
  try simp only [Act.put, List.getElem_toArray, List.getElem_cons_zero, List.setIfInBounds_toArray, List.set_cons_zero, List.set_cons_succ]
  refine wpAnyH_take (i := 1) (oi := _) (v := ?_) rfl (by kernel_rfl) (by kernel_rfl) (by kernel_rfl) (fun _ _ _ h => h) (Or.inl ⟨by rfl, ?_⟩) (by assumption) ?_
  rotate_left
  · (intro V hSw; have q0 := cell_of_row V w.heap.size 0 _ _ (0, 0) hSw.1; have q1 := cell_of_row V w.heap.size 1 _ _ (0, 0) hSw.1; have q2 := cell_of_row V w.heap.size 2 _ _ (0, 0) hSw.1; have qt := cell_of_row V T 0 _ _ (0, 0) hSw.2.1; have qg := hSw.2.2; clear hSw; go_simp; try with_reducible rfl)
  try simp only [Act.put, List.getElem_toArray, List.getElem_cons_succ, List.getElem_cons_zero, List.setIfInBounds_toArray, List.set_cons_zero, List.set_cons_succ]
  refine wpAnyH_take (i := 2) (oi := _) (v := ?_) rfl (by kernel_rfl) (by kernel_rfl) (by kernel_rfl) (fun _ _ _ h => h) (Or.inl ⟨by rfl, ?_⟩) (by assumption) ?_
  rotate_left
  · (intro V hSw; have q0 := cell_of_row V w.heap.size 0 _ _ (0, 0) hSw.1; have q1 := cell_of_row V w.heap.size 1 _ _ (0, 0) hSw.1; have q2 := cell_of_row V w.heap.size 2 _ _ (0, 0) hSw.1; have qt := cell_of_row V T 0 _ _ (0, 0) hSw.2.1; have qg := hSw.2.2; clear hSw; go_simp; try with_reducible rfl)
  try simp only [Act.put, List.getElem_toArray, List.getElem_cons_succ, List.getElem_cons_zero, List.setIfInBounds_toArray, List.set_cons_zero, List.set_cons_succ]
  refine wpAnyH_take (i := 3) (oi := _) (v := ?_) rfl (by kernel_rfl) (by kernel_rfl) (by kernel_rfl) (fun _ _ _ h => h) (Or.inl ⟨by rfl, ?_⟩) (by assumption) ?_
  rotate_left
  · (intro V hSw; have q0 := cell_of_row V w.heap.size 0 _ _ (0, 0) hSw.1; have q1 := cell_of_row V w.heap.size 1 _ _ (0, 0) hSw.1; have q2 := cell_of_row V w.heap.size 2 _ _ (0, 0) hSw.1; have qt := cell_of_row V T 0 _ _ (0, 0) hSw.2.1; have qg := hSw.2.2; clear hSw; go_simp; try with_reducible rfl)
  try simp only [Act.put, List.getElem_toArray, List.getElem_cons_succ, List.getElem_cons_zero, List.setIfInBounds_toArray, List.set_cons_zero, List.set_cons_succ]
  refine wpAnyH_take (i := 4) (oi := _) (v := ?_) rfl (by kernel_rfl) (by kernel_rfl) (by kernel_rfl) (fun _ _ _ h => h) (Or.inl ⟨by rfl, ?_⟩) (by assumption) ?_
  rotate_left
  · (intro V hSw; have q0 := cell_of_row V w.heap.size 0 _ _ (0, 0) hSw.1; have q1 := cell_of_row V w.heap.size 1 _ _ (0, 0) hSw.1; have q2 := cell_of_row V w.heap.size 2 _ _ (0, 0) hSw.1; have qt := cell_of_row V T 0 _ _ (0, 0) hSw.2.1; have qg := hSw.2.2; clear hSw; go_simp; try with_reducible rfl)
  try simp only [Act.put, List.getElem_toArray, List.getElem_cons_succ, List.getElem_cons_zero, List.setIfInBounds_toArray, List.set_cons_zero, List.set_cons_succ]
  refine wpAnyH_take (i := 5) (oi := _) (v := ?_) rfl (by kernel_rfl) (by kernel_rfl) (by kernel_rfl) (fun _ _ _ h => h) (Or.inl ⟨by rfl, ?_⟩) (by assumption) ?_
  rotate_left
  · (intro V hSw; have q0 := cell_of_row V w.heap.size 0 _ _ (0, 0) hSw.1; have q1 := cell_of_row V w.heap.size 1 _ _ (0, 0) hSw.1; have q2 := cell_of_row V w.heap.size 2 _ _ (0, 0) hSw.1; have qt := cell_of_row V T 0 _ _ (0, 0) hSw.2.1; have qg := hSw.2.2; clear hSw; go_simp; try with_reducible rfl)
  try simp only [Act.put, List.getElem_toArray, List.getElem_cons_succ, List.getElem_cons_zero, List.setIfInBounds_toArray, List.set_cons_zero, List.set_cons_succ]
  refine wpAnyH_take (i := 6) (oi := _) (v := ?_) rfl (by kernel_rfl) (by kernel_rfl) (by kernel_rfl) (fun _ _ _ h => h) (Or.inl ⟨by rfl, ?_⟩) (by assumption) ?_
  rotate_left
  · (intro V hSw; have q0 := cell_of_row V w.heap.size 0 _ _ (0, 0) hSw.1; have q1 := cell_of_row V w.heap.size 1 _ _ (0, 0) hSw.1; have q2 := cell_of_row V w.heap.size 2 _ _ (0, 0) hSw.1; have qt := cell_of_row V T 0 _ _ (0, 0) hSw.2.1; have qg := hSw.2.2; clear hSw; go_simp; try with_reducible rfl)
  try simp only [Act.put, List.getElem_toArray, List.getElem_cons_succ, List.getElem_cons_zero, List.setIfInBounds_toArray, List.set_cons_zero, List.set_cons_succ]
  refine wpAnyH_take (i := 7) (oi := _) (v := ?_) rfl (by kernel_rfl) (by kernel_rfl) (by kernel_rfl) (fun _ _ _ h => h) (Or.inl ⟨by rfl, ?_⟩) (by assumption) ?_
  rotate_left
  · (intro V hSw; have q0 := cell_of_row V w.heap.size 0 _ _ (0, 0) hSw.1; have q1 := cell_of_row V w.heap.size 1 _ _ (0, 0) hSw.1; have q2 := cell_of_row V w.heap.size 2 _ _ (0, 0) hSw.1; have qt := cell_of_row V T 0 _ _ (0, 0) hSw.2.1; have qg := hSw.2.2; clear hSw; go_simp; try with_reducible rfl)
  try simp only [Act.put, List.getElem_toArray, List.getElem_cons_succ, List.getElem_cons_zero, List.setIfInBounds_toArray, List.set_cons_zero, List.set_cons_succ]
  refine wpAnyH_take (i := 8) (oi := _) (v := ?_) rfl (by kernel_rfl) (by kernel_rfl) (by kernel_rfl) (fun _ _ _ h => h) (Or.inl ⟨by rfl, ?_⟩) (by assumption) ?_
  rotate_left
  · (intro V hSw; have q0 := cell_of_row V w.heap.size 0 _ _ (0, 0) hSw.1; have q1 := cell_of_row V w.heap.size 1 _ _ (0, 0) hSw.1; have q2 := cell_of_row V w.heap.size 2 _ _ (0, 0) hSw.1; have qt := cell_of_row V T 0 _ _ (0, 0) hSw.2.1; have qg := hSw.2.2; clear hSw; go_simp; try with_reducible rfl)
  try simp only [Act.put, List.getElem_toArray, List.getElem_cons_succ, List.getElem_cons_zero, List.setIfInBounds_toArray, List.set_cons_zero, List.set_cons_succ]
  refine wpAnyH_take (i := 9) (oi := _) (v := ?_) rfl (by kernel_rfl) (by kernel_rfl) (by kernel_rfl) (fun _ _ _ h => h) (Or.inl ⟨by rfl, ?_⟩) (by assumption) ?_
  rotate_left
  · (intro V hSw; have q0 := cell_of_row V w.heap.size 0 _ _ (0, 0) hSw.1; have q1 := cell_of_row V w.heap.size 1 _ _ (0, 0) hSw.1; have q2 := cell_of_row V w.heap.size 2 _ _ (0, 0) hSw.1; have qt := cell_of_row V T 0 _ _ (0, 0) hSw.2.1; have qg := hSw.2.2; clear hSw; go_simp; try with_reducible rfl)
  try simp only [Act.put, List.getElem_toArray, List.getElem_cons_succ, List.getElem_cons_zero, List.setIfInBounds_toArray, List.set_cons_zero, List.set_cons_succ]
  refine wpAnyH_ready (rs := [10]) (by kernel_rfl) (by simp) ?_
  refine AllReadyH.cons rfl (fun K hK => ?_) AllReadyH.nil
  simp only [List.getElem_toArray, List.getElem_cons_succ, List.getElem_cons_zero]
  rw [if_pos (by rfl)]
  go_simp
  refine (HSh.out _).mono ?_
  rintro _ w2 ⟨rfl, b2⟩
  have HP2 : Hid (PT w2 T g cap n lo room q v ls ∧ w2.heap[w.heap.size + 1]? = some (.cells #[.int .i64 0, .int .i64 0, .int .u64 0, .int .i64 0, .int .i64 0] 54 (0, 0)) ∧ Below w.heap.size w w2 ∧ w.heap.size + 2 ≤ w2.heap.size ∧ w2.heap[w.heap.size]? = some (.cells #[.int .i64 kc, .int .i64 kf, .int .u64 ks] 41 (0, 0))) := Lib.hid ⟨HP0.out.1.below b2, (b2.block _ (by have := HZ0.out; omega)).trans HP0.out.2.1, HP0.out.2.2.trans (b2.mono HP0.out.2.2.size), (by have := HZ0.out; have := b2.size; omega), (b2.block _ (by have := HZ0.out; omega)).trans hHeld.1⟩
  clear b2 HP0 HZ0 hHeld
  go_wp2_with fail
  refine hK.out _ _ ⟨HP2.out.2.2.2.2, HP2.out.1.tab, by rw [HQ.out]; exact HP2.out.1.cell j HX.out.2.2.2.2⟩ (fun hHeld => ?_)
  clear hK K
  try simp only [Act.put, List.getElem_toArray, List.getElem_cons_succ, List.getElem_cons_zero, List.setIfInBounds_toArray, List.set_cons_zero, List.set_cons_succ]
  refine wpAnyH_take (i := 11) (oi := _) (v := ?_) rfl (by kernel_rfl) (by kernel_rfl) (by kernel_rfl) (fun _ _ _ h => h) (Or.inl ⟨by rfl, ?_⟩) (by assumption) ?_
  rotate_left
  · (intro V hSw; have q0 := cell_of_row V w.heap.size 0 _ _ (0, 0) hSw.1; have q1 := cell_of_row V w.heap.size 1 _ _ (0, 0) hSw.1; have q2 := cell_of_row V w.heap.size 2 _ _ (0, 0) hSw.1; have qt := cell_of_row V T 0 _ _ (0, 0) hSw.2.1; have qg := hSw.2.2; clear hSw; go_simp; try with_reducible rfl)
  try simp only [Act.put, List.getElem_toArray, List.getElem_cons_succ, List.getElem_cons_zero, List.setIfInBounds_toArray, List.set_cons_zero, List.set_cons_succ]
  refine wpAnyH_take (i := 12) (oi := _) (v := ?_) rfl (by kernel_rfl) (by kernel_rfl) (by kernel_rfl) (fun _ _ _ h => h) (Or.inl ⟨by rfl, ?_⟩) (by assumption) ?_
  rotate_left
  · (intro V hSw; have q0 := cell_of_row V w.heap.size 0 _ _ (0, 0) hSw.1; have q1 := cell_of_row V w.heap.size 1 _ _ (0, 0) hSw.1; have q2 := cell_of_row V w.heap.size 2 _ _ (0, 0) hSw.1; have qt := cell_of_row V T 0 _ _ (0, 0) hSw.2.1; have qg := hSw.2.2; clear hSw; go_simp; try with_reducible rfl)
  try simp only [Act.put, List.getElem_toArray, List.getElem_cons_succ, List.getElem_cons_zero, List.setIfInBounds_toArray, List.set_cons_zero, List.set_cons_succ]
  refine wpAnyH_take (i := 13) (oi := _) (v := ?_) rfl (by kernel_rfl) (by kernel_rfl) (by kernel_rfl) (fun _ _ _ h => h) (Or.inl ⟨by rfl, ?_⟩) (by assumption) ?_
  rotate_left
  · (intro V hSw; have q0 := cell_of_row V w.heap.size 0 _ _ (0, 0) hSw.1; have q1 := cell_of_row V w.heap.size 1 _ _ (0, 0) hSw.1; have q2 := cell_of_row V w.heap.size 2 _ _ (0, 0) hSw.1; have qt := cell_of_row V T 0 _ _ (0, 0) hSw.2.1; have qg := hSw.2.2; clear hSw; go_simp; try with_reducible rfl)
  try simp only [Act.put, List.getElem_toArray, List.getElem_cons_succ, List.getElem_cons_zero, List.setIfInBounds_toArray, List.set_cons_zero, List.set_cons_succ]
  refine wpAnyH_done (by kernel_rfl) ?_ _
  clear hHeld
  have c0 := cell_of_row w2 w.heap.size 0 _ _ (0, 0) HP2.out.2.2.2.2
  have c1 := cell_of_row w2 w.heap.size 1 _ _ (0, 0) HP2.out.2.2.2.2
  have c2 := cell_of_row w2 w.heap.size 2 _ _ (0, 0) HP2.out.2.2.2.2
  have hqj := HP2.out.1.qi j HX.out.2.2.2.2
  rw [← HQ.out] at hqj
  have HQj := Lib.hid hqj
  clear hqj
  go_wp2_with fail
  refine (HFi.out _ HQj.out).mono ?_
  rintro _ w3 ⟨rfl, b3⟩
  have HQ3 := Lib.hid (HQj.out.below b3)
  have HR3 := Lib.hid (And.intro ((b3.block _ (by have := HP2.out.2.2.2.1; omega)).trans HP2.out.2.1) (HP2.out.2.2.1.trans (b3.mono HP2.out.2.2.1.size)))
  clear b3 c0 c1 c2 HQj HP2
  have r0 := cell_of_row w3 (w.heap.size + 1) 0 _ _ (0, 0) HR3.out.1
  have r1 := cell_of_row w3 (w.heap.size + 1) 1 _ _ (0, 0) HR3.out.1
  have r2 := cell_of_row w3 (w.heap.size + 1) 2 _ _ (0, 0) HR3.out.1
  have r3 := cell_of_row w3 (w.heap.size + 1) 3 _ _ (0, 0) HR3.out.1
  have r4 := cell_of_row w3 (w.heap.size + 1) 4 _ _ (0, 0) HR3.out.1
  have f3 : ∀ i, w3.frozen? ⟨w.heap.size + 1, i, none⟩ = false := fun i => by simp [World.frozen?, HR3.out.1]
  rcases HC.out with ⟨hf, hall⟩ | ⟨i, hi, hf, hik, hb⟩
  · rw [hf]
    have hE : Hid (qE ⟨kc, kf, ks⟩ (ls j) = none) := qE_none hall
    clear hf hall
    have hs := row_set5 (.int .i64 0) (.int .i64 0) (.int .u64 0) (.int .i64 0) (.int .i64 0) rfl HR3.out.1
    have HS := Lib.hid (And.intro hs.1 (hs.2.2 _ _ HR3.out.2 (by omega)))
    clear hs
    go_wp2_with fail
    generalize (((((w3.setCell ⟨w.heap.size + 1, 0, none⟩ (.int .i64 0)).setCell ⟨w.heap.size + 1, 1, none⟩ (.int .i64 0)).setCell ⟨w.heap.size + 1, 2, none⟩ (.int .u64 0)).setCell ⟨w.heap.size + 1, 3, none⟩ (.int .i64 0)).setCell ⟨w.heap.size + 1, 4, none⟩ (.int .i64 0)) = V5 at HS ⊢
    have s0 := cell_of_row V5 (w.heap.size + 1) 0 _ _ (0, 0) HS.out.1
    have s1 := cell_of_row V5 (w.heap.size + 1) 1 _ _ (0, 0) HS.out.1
    have s2 := cell_of_row V5 (w.heap.size + 1) 2 _ _ (0, 0) HS.out.1
    have s3 := cell_of_row V5 (w.heap.size + 1) 3 _ _ (0, 0) HS.out.1
    have s4 := cell_of_row V5 (w.heap.size + 1) 4 _ _ (0, 0) HS.out.1
    simp [bodyPost, results, Tryz.results19, go_sem, s0, s1, s2, s3, s4]
    exact ⟨by rw [hE.out]; exact ⟨rfl, rfl⟩, HS.out.2⟩
  · rw [hf]
    have hE : Hid (qE ⟨kc, kf, ks⟩ (ls j) = some (ls j)[i]) := qE_some hi hik hb
    obtain ⟨m, hm⟩ : ∃ m, m = (ls j).length := ⟨_, rfl⟩
    have hi0 : (0 : Int) ≤ (i : Int) := by omega
    have hi1 : (i : Int) < (m : Int) := by omega
    obtain ⟨g9, c9, hv, -, -, he⟩ := HQ3.out.rowE.at i hi
    rw [← hm] at hv
    have qq := HQ3.out.cell.1
    rw [hv] at qq
    clear hf hik hb hm hv
    generalize (ls j)[i] = x at he hE
    obtain ⟨⟨xc, xf, xs⟩, xt, xo⟩ := x
    obtain ⟨e0, e1, e2, e3, e4⟩ := he
    dsimp only at e0 e1 e2 e3 e4
    have hs := row_set5 (.int .i64 xc) (.int .i64 xf) (.int .u64 xs) (.int .i64 xt) (.int .i64 xo) rfl HR3.out.1
    have HS := Lib.hid (And.intro hs.1 (hs.2.2 _ _ HR3.out.2 (by omega)))
    clear hs
    go_wp2_with fail
    generalize (((((w3.setCell ⟨w.heap.size + 1, 0, none⟩ (.int .i64 xc)).setCell ⟨w.heap.size + 1, 1, none⟩ (.int .i64 xf)).setCell ⟨w.heap.size + 1, 2, none⟩ (.int .u64 xs)).setCell ⟨w.heap.size + 1, 3, none⟩ (.int .i64 xt)).setCell ⟨w.heap.size + 1, 4, none⟩ (.int .i64 xo)) = V5 at HS ⊢
    have s0 := cell_of_row V5 (w.heap.size + 1) 0 _ _ (0, 0) HS.out.1
    have s1 := cell_of_row V5 (w.heap.size + 1) 1 _ _ (0, 0) HS.out.1
    have s2 := cell_of_row V5 (w.heap.size + 1) 2 _ _ (0, 0) HS.out.1
    have s3 := cell_of_row V5 (w.heap.size + 1) 3 _ _ (0, 0) HS.out.1
    have s4 := cell_of_row V5 (w.heap.size + 1) 4 _ _ (0, 0) HS.out.1
    simp [bodyPost, results, Tryz.results19, go_sem, s0, s1, s2, s3, s4]
    exact ⟨by rw [hE.out]; exact ⟨rfl, rfl⟩, HS.out.2⟩
end
end Go.Proofs.YtlpnecmcncekcaaGreat.Mk
