import Derived.Test.YtpkkomifenlkaaaGreatPgA
import Derived.Test.YtpkkomifenlkaaaGreatAlA
import Derived.Test.YtpkkomifenlkaaaGreatGapQ
import Derived.Test.YtpkkomifenlkaaaGreatNumB
import Derived.Deep.AppendLies
/- The page's allocator: what turning an account's numbers leaves alone; all its accounts' numbers. -/
namespace Go.Proofs.YtpkkomifenlkaaaGreat.Au
open Go Go.RowKit Go.MuLone
set_option linter.unusedVariables false

abbrev TPGA : Nat := 85
abbrev TPr : Nat := 86
abbrev TPp : Nat := 87
/-- an account's numbers: their block, their heap's, the heap's row, the row of what is held -/
structure Pz where
  N : Nat
  Q : Nat
  q : Value
  h : Value
abbrev Pz.b (z : Pz) : Pb := ⟨z.N, z.Q⟩
abbrev PZ (base : Nat) (W : World) (z : Pz) (s : Nu) : Prop := PIs base W z.b z.q z.h s
structure POff (z : Pz) (k : Nat) : Prop where
  n : k ≠ z.N
  q : k ≠ z.Q
  oq : some k ≠ z.q.ownBlock
  oh : some k ≠ z.h.ownBlock
/-- all but these numbers stands; their heap and rows are the same, or new -/
structure FP (z z' : Pz) (w w' : World) : Prop where
  os : w'.os = w.os
  tape : w'.tape = w.tape
  output : w'.output = w.output
  size : w.heap.size ≤ w'.heap.size
  block : ∀ k, k < w.heap.size → POff z k → w'.heap[k]? = w.heap[k]?
  N : z'.N = z.N
  Q : z'.Q = z.Q ∨ w.heap.size ≤ z'.Q
  oq : z'.q.ownBlock = z.q.ownBlock ∨ ∀ k, z'.q.ownBlock = some k → w.heap.size ≤ k
  oh : z'.h.ownBlock = z.h.ownBlock ∨ ∀ k, z'.h.ownBlock = some k → w.heap.size ≤ k
section
variable {base base' : Nat} {z z1 z2 c c1 : Pz} {s t : Nu} {W V X : World}
theorem FP.refl : FP z z W W := ⟨rfl, rfl, rfl, Nat.le_refl _, fun _ _ _ => rfl, rfl, Or.inl rfl, Or.inl rfl, Or.inl rfl⟩
theorem or_new {a b d : Option Nat} {m n : Nat} (h : b = a ∨ ∀ k, b = some k → m ≤ k) (g : d = b ∨ ∀ k, d = some k → n ≤ k) (hm : m ≤ n) : d = a ∨ ∀ k, d = some k → m ≤ k := by
  rcases g with g | g
  · rw [g]; exact h
  · exact Or.inr fun k hk => Nat.le_trans hm (g k hk)
theorem FP.trans (h : FP z z1 W V) (g : FP z1 z2 V X) : FP z z2 W X := by
  refine ⟨g.os.trans h.os, g.tape.trans h.tape, g.output.trans h.output, Nat.le_trans h.size g.size, fun k hk o => ?_, g.N.trans h.N, ?_, or_new h.oq g.oq h.size, or_new h.oh g.oh h.size⟩
  · refine (g.block k (Nat.lt_of_lt_of_le hk h.size) ⟨by rw [h.N]; exact o.n, fun e => ?_, fun e => ?_, fun e => ?_⟩).trans (h.block k hk o)
    · rcases h.Q with q | q
      · exact o.q (e.trans q)
      · omega
    · rcases h.oq with q | q
      · exact o.oq (e.trans q)
      · have := q k e.symm; omega
    · rcases h.oh with q | q
      · exact o.oh (e.trans q)
      · have := q k e.symm; omega
  · rcases g.Q with q | q
    · rw [q]; exact h.Q
    · exact Or.inr (Nat.le_trans h.size q)
theorem FP.of_below (h : Below W.heap.size W V) : FP z z W V := ⟨h.os, h.tape, h.output, h.size, fun k hk _ => h.block k hk, rfl, Or.inl rfl, Or.inl rfl, Or.inl rfl⟩
theorem FP.of_fr {v1 : Value} (h : Gp.Fr z.Q z.q v1 W V) : FP z ⟨z.N, z.Q, v1, z.h⟩ W V := ⟨h.os, h.tape, h.output, h.size, fun k hk o => h.block k hk o.q o.oq, rfl, Or.inl rfl, h.own, Or.inl rfl⟩
theorem FP.of_setN (i : Nat) (x : Value) : FP z z W (W.setCell ⟨z.N, i, none⟩ x) := ⟨rfl, rfl, rfl, by simp, fun k hk o => Below.heap_setCell _ _ _ _ o.n, rfl, Or.inl rfl, Or.inl rfl, Or.inl rfl⟩
theorem FP.drew (h : FP z z1 W V) : FP z z1 W V.drew := ⟨h.os, h.tape, h.output, h.size, h.block, h.N, h.Q, h.oq, h.oh⟩
theorem PIs.ltQ {b : Pb} {vq vh : Value} (h : PIs base W b vq vh s) : b.Q < W.heap.size := h.qh.lt
theorem PIs.ltq {b : Pb} {vq vh : Value} (h : PIs base W b vq vh s) {k : Nat} (hk : vq.ownBlock = some k) : base ≤ k ∧ k < W.heap.size := h.qh.row.lt k hk
theorem PIs.lth {b : Pb} {vq vh : Value} (h : PIs base W b vq vh s) {k : Nat} (hk : vh.ownBlock = some k) : base ≤ k ∧ k < W.heap.size := h.held.lt k hk
theorem PIs.still {b : Pb} {vq vh : Value} (h : PIs base W b vq vh s) (h1 : V.heap[b.N]? = W.heap[b.N]?) (h2 : V.heap[b.Q]? = W.heap[b.Q]?) (h3 : ∀ k, vq.ownBlock = some k → V.heap[k]? = W.heap[k]?) (h4 : ∀ k, vh.ownBlock = some k → V.heap[k]? = W.heap[k]?) : PIs base V b vq vh s :=
  ⟨h1.trans h.box, h.low, ⟨h2.trans h.qh.box, h.qh.low, own_same h.qh.row h3, h.qh.few, h.qh.rise, h.qh.bd⟩, own_same h.held h4⟩
theorem PIs.below {b : Pb} {vq vh : Value} (h : PIs base W b vq vh s) (hb : Below W.heap.size W V) : PIs base V b vq vh s :=
  h.still (hb.block _ h.lt) (hb.block _ h.ltQ) (fun k hk => hb.block _ (h.ltq hk).2) fun k hk => hb.block _ (h.lth hk).2
theorem PIs.tq {b : Pb} {vq vh : Value} (h : PIs base W b vq vh s) {k : Nat} (hk : vq.ownBlock = some k) : ∃ cs fr, W.heap[k]? = some (.cells cs Gp.TU fr) := own_at h.qh.row hk
theorem PIs.th {b : Pb} {vq vh : Value} (h : PIs base W b vq vh s) {k : Nat} (hk : vh.ownBlock = some k) : ∃ cs fr, W.heap[k]? = some (.cells cs THd fr) := own_at h.held hk
/-- a block of another type is none of these -/
theorem PZ.off_type (h : PZ base W z s) {k : Nat} (hk : ∀ cs T fr, W.heap[k]? = some (.cells cs T fr) → T ≠ TPn ∧ T ≠ Gp.TQh ∧ T ≠ Gp.TU ∧ T ≠ THd) : POff z k :=
  ⟨fun e => (hk _ _ _ (by rw [e]; exact h.box)).1 rfl, fun e => (hk _ _ _ (by rw [e]; exact h.qh.box)).2.1 rfl, fun e => by
    obtain ⟨cs, fr, q⟩ := h.tq e.symm
    exact (hk _ _ _ q).2.2.1 rfl, fun e => by
    obtain ⟨cs, fr, q⟩ := h.th e.symm
    exact (hk _ _ _ q).2.2.2 rfl⟩
theorem PZ.off_typ (h : PZ base W z s) {k : Nat} {a : Array Value} {T : TypeId} {f : Nat × Nat} (hk : W.heap[k]? = some (.cells a T f)) (ht : T ≠ TPn ∧ T ≠ Gp.TQh ∧ T ≠ Gp.TU ∧ T ≠ THd) : POff z k :=
  h.off_type fun cs U fr e => by
    rw [hk] at e
    injection e with e
    injection e with _ e _
    rw [← e]; exact ht
/-- its own blocks are apart -/
theorem PIs.nq {b : Pb} {vq vh : Value} (h : PIs base W b vq vh s) : b.N ≠ b.Q := cells_ne h.box h.qh.box (by decide)
theorem PIs.onq {b : Pb} {vq vh : Value} (h : PIs base W b vq vh s) {k : Nat} (hk : vq.ownBlock = some k) : k ≠ b.N ∧ k ≠ b.Q ∧ some k ≠ vh.ownBlock := by
  obtain ⟨cs, fr, q⟩ := h.tq hk
  refine ⟨cells_ne q h.box (by decide), cells_ne q h.qh.box (by decide), fun e => ?_⟩
  obtain ⟨cs', fr', q'⟩ := h.th e.symm
  exact cells_ne q q' (by decide) rfl
theorem PIs.onh {b : Pb} {vq vh : Value} (h : PIs base W b vq vh s) {k : Nat} (hk : vh.ownBlock = some k) : k ≠ b.N ∧ k ≠ b.Q ∧ some k ≠ vq.ownBlock := by
  obtain ⟨cs, fr, q⟩ := h.th hk
  refine ⟨cells_ne q h.box (by decide), cells_ne q h.qh.box (by decide), fun e => ?_⟩
  obtain ⟨cs', fr', q'⟩ := h.tq e.symm
  exact cells_ne q q' (by decide) rfl
/-- two accounts' numbers lie apart -/
structure PApt (z c : Pz) : Prop where
  n : z.N ≠ c.N
  q : z.Q ≠ c.Q
  oq : ∀ k, z.q.ownBlock = some k → c.q.ownBlock ≠ some k
  oh : ∀ k, z.h.ownBlock = some k → c.h.ownBlock ≠ some k
theorem PApt.symm (h : PApt z c) : PApt c z := ⟨h.n.symm, h.q.symm, fun k h1 h2 => h.oq k h2 h1, fun k h1 h2 => h.oh k h2 h1⟩
theorem PZ.off_apt (h : PZ base W z s) (g : PZ base' W c t) (a : PApt z c) : POff z c.N ∧ POff z c.Q ∧ (∀ k, c.q.ownBlock = some k → POff z k) ∧ ∀ k, c.h.ownBlock = some k → POff z k := by
  refine ⟨⟨a.n.symm, cells_ne g.box h.qh.box (by decide), fun e => ?_, fun e => ?_⟩, ⟨cells_ne g.qh.box h.box (by decide), a.q.symm, fun e => ?_, fun e => ?_⟩, fun k hk => ?_, fun k hk => ?_⟩
  · obtain ⟨cs, fr, q⟩ := h.tq e.symm; exact cells_ne g.box q (by decide) rfl
  · obtain ⟨cs, fr, q⟩ := h.th e.symm; exact cells_ne g.box q (by decide) rfl
  · obtain ⟨cs, fr, q⟩ := h.tq e.symm; exact cells_ne g.qh.box q (by decide) rfl
  · obtain ⟨cs, fr, q⟩ := h.th e.symm; exact cells_ne g.qh.box q (by decide) rfl
  · obtain ⟨cs, fr, q⟩ := g.tq hk
    refine ⟨cells_ne q h.box (by decide), cells_ne q h.qh.box (by decide), fun e => a.oq k e.symm hk, fun e => ?_⟩
    obtain ⟨cs', fr', q'⟩ := h.th e.symm
    exact cells_ne q q' (by decide) rfl
  · obtain ⟨cs, fr, q⟩ := g.th hk
    refine ⟨cells_ne q h.box (by decide), cells_ne q h.qh.box (by decide), fun e => ?_, fun e => a.oh k e.symm hk⟩
    obtain ⟨cs', fr', q'⟩ := h.tq e.symm
    exact cells_ne q q' (by decide) rfl
theorem PZ.other (g : PZ base' W c t) (h : PZ base W z s) (a : PApt z c) (f : FP z z1 W V) : PZ base' V c t := by
  obtain ⟨o1, o2, o3, o4⟩ := PZ.off_apt h g a
  exact g.still (f.block _ g.lt o1) (f.block _ g.ltQ o2) (fun k hk => f.block _ (g.ltq hk).2 (o3 k hk)) fun k hk => f.block _ (g.lth hk).2 (o4 k hk)
theorem PApt.turn (a : PApt z c) (g : PZ base' W c t) (f : FP z z1 W V) : PApt z1 c := by
  refine ⟨by rw [f.N]; exact a.n, ?_, fun k h1 h2 => ?_, fun k h1 h2 => ?_⟩
  · rcases f.Q with q | q
    · rw [q]; exact a.q
    · have := g.ltQ; dsimp only at this; omega
  · rcases f.oq with o | o
    · exact a.oq k (o.symm.trans h1) h2
    · have := o k h1; have := (g.ltq h2).2; omega
  · rcases f.oh with o | o
    · exact a.oh k (o.symm.trans h1) h2
    · have := o k h1; have := (g.lth h2).2; omega
/-- what turns numbers leaves alone what lies below them -/
theorem FP.below (f : FP z z1 W V) (h : PZ base W z s) : Below base W V :=
  ⟨f.os, f.tape, f.output, f.size, fun k hk => by
    have hl := h.lt
    have h1 := h.low
    have h2 := h.qh.low
    dsimp only at hl h1 h2
    exact f.block k (by omega) ⟨by omega, by omega, fun e => by have := (h.ltq e.symm).1; omega, fun e => by have := (h.lth e.symm).1; omega⟩⟩
end
/-- all but blocks of the page's types stands -/
structure PF (w w' : World) : Prop where
  os : w'.os = w.os
  tape : w'.tape = w.tape
  output : w'.output = w.output
  size : w.heap.size ≤ w'.heap.size
  block : ∀ k, k < w.heap.size → (∀ cs T fr, w.heap[k]? = some (.cells cs T fr) → T ≠ TPn ∧ T ≠ Gp.TQh ∧ T ≠ Gp.TU ∧ T ≠ THd) → w'.heap[k]? = w.heap[k]?
section
variable {base base' : Nat} {z z' : Pz} {s t : Nu} {W V X : World}
theorem PF.of_below (h : Below W.heap.size W V) : PF W V := ⟨h.os, h.tape, h.output, h.size, fun k hk _ => h.block k hk⟩
theorem PF.of_fp (f : FP z z' W V) (h : PZ base W z s) : PF W V := ⟨f.os, f.tape, f.output, f.size, fun k hk ht => f.block k hk (PZ.off_type h ht)⟩
theorem PF.at_ (f : PF W V) {k : Nat} {a : Array Value} {T : TypeId} {fr : Nat × Nat} (hk : W.heap[k]? = some (.cells a T fr)) (ht : T ≠ TPn ∧ T ≠ Gp.TQh ∧ T ≠ Gp.TU ∧ T ≠ THd) : V.heap[k]? = W.heap[k]? :=
  f.block k (ltO hk) fun cs U fr e => by
    rw [hk] at e
    injection e with e
    injection e with _ e _
    rw [← e]; exact ht
end
def pptrs (z : Nat → Pz) (o n : Nat) : List Value := (List.range n).map fun i => .pointer (some ⟨(z (o + i)).N, 0, none⟩)
theorem pptrs_len (z : Nat → Pz) (o n : Nat) : (pptrs z o n).length = n := by simp [pptrs]
theorem pptrs_at (z : Nat → Pz) (o n i : Nat) (h : i < n) : (pptrs z o n)[i]? = some (.pointer (some ⟨(z (o + i)).N, 0, none⟩)) := by simp [pptrs, h]
theorem pptrs_succ (z : Nat → Pz) (o n : Nat) : pptrs z o (n + 1) = pptrs z o n ++ [.pointer (some ⟨(z (o + n)).N, 0, none⟩)] := by
  unfold pptrs; rw [List.range_succ, List.map_append]; rfl
theorem pptrs_eq {z z' : Nat → Pz} {o n : Nat} (h : ∀ i, i < n → (z' (o + i)).N = (z (o + i)).N) : pptrs z' o n = pptrs z o n := by
  unfold pptrs
  apply List.map_congr_left
  intro i hi
  rw [h i (by simpa using hi)]
/-- the page's allocator: its block, its row of rows, how many accounts on a ledger -/
structure PA (base : Nat) (W : World) (S A : Nat) (sl v0 v1 : Value) (z : Nat → Pz) (s : Nat → Nu) : Prop where
  box : W.heap[S]? = some (.cells #[sl] TPGA (0, 0))
  low : base ≤ S
  rs : W.ownsRow base TPr 1 sl 2 [v0, v1]
  r0 : W.ownsRow base TPp 1 v0 A (pptrs z 0 A)
  r1 : W.ownsRow base TPp 1 v1 A (pptrs z A A)
  it : ∀ i, i < A + A → PZ base W (z i) (s i)
  ap : ∀ i j, i < A + A → j < A + A → i ≠ j → PApt (z i) (z j)
section
variable {base base' : Nat} {S A : Nat} {sl v0 v1 : Value} {z : Nat → Pz} {z' : Pz} {s : Nat → Nu} {s' : Nu} {W V X : World}
theorem PA.still (h : PA base W S A sl v0 v1 z s) (hb : ∀ (k : Nat) (cs : Array Value) (T : TypeId) (fr : Nat × Nat), W.heap[k]? = some (Obj.cells cs T fr) → T = TPGA ∨ T = TPr ∨ T = TPp ∨ T = TPn ∨ T = Gp.TQh ∨ T = Gp.TU ∨ T = THd → V.heap[k]? = W.heap[k]?) : PA base V S A sl v0 v1 z s := by
  refine ⟨(hb _ _ _ _ h.box (by simp)).trans h.box, h.low, own_same h.rs fun k hk => ?_, own_same h.r0 fun k hk => ?_, own_same h.r1 fun k hk => ?_, fun i hi => ?_, h.ap⟩
  · obtain ⟨cs, fr, q⟩ := own_at h.rs hk; exact hb _ _ _ _ q (by simp)
  · obtain ⟨cs, fr, q⟩ := own_at h.r0 hk; exact hb _ _ _ _ q (by simp)
  · obtain ⟨cs, fr, q⟩ := own_at h.r1 hk; exact hb _ _ _ _ q (by simp)
  · have g := h.it i hi
    refine g.still (hb _ _ _ _ g.box (by simp)) (hb _ _ _ _ g.qh.box (by simp)) (fun k hk => ?_) fun k hk => ?_
    · obtain ⟨cs, fr, q⟩ := g.tq hk; exact hb _ _ _ _ q (by simp)
    · obtain ⟨cs, fr, q⟩ := g.th hk; exact hb _ _ _ _ q (by simp)
theorem PA.below (h : PA base W S A sl v0 v1 z s) (hb : Below W.heap.size W V) : PA base V S A sl v0 v1 z s :=
  h.still fun k cs T fr hk _ => hb.block k (ltO hk)
theorem PA.drew (h : PA base W S A sl v0 v1 z s) : PA base W.drew S A sl v0 v1 z s := h.still fun _ _ _ _ _ _ => rfl
/-- one account's numbers turn -/
theorem PA.turn (h : PA base W S A sl v0 v1 z s) {j : Nat} (hj : j < A + A) (hn : PZ base V z' s') (f : FP (z j) z' W V) : PA base V S A sl v0 v1 (upd z j z') (upd s j s') := by
  have pf := PF.of_fp f (h.it j hj)
  have hN : ∀ i, (upd z j z' i).N = (z i).N := fun i => by
    by_cases e : i = j
    · subst e; rw [upd_at]; exact f.N
    · rw [upd_off e]
  refine ⟨(pf.at_ h.box (by decide)).trans h.box, h.low, own_same h.rs fun k hk => ?_, ?_, ?_, fun i hi => ?_, fun i k hi hk hne => ?_⟩
  · obtain ⟨cs, fr, q⟩ := own_at h.rs hk; exact pf.at_ q (by decide)
  · rw [pptrs_eq fun i _ => hN _]
    exact own_same h.r0 fun k hk => by obtain ⟨cs, fr, q⟩ := own_at h.r0 hk; exact pf.at_ q (by decide)
  · rw [pptrs_eq fun i _ => hN _]
    exact own_same h.r1 fun k hk => by obtain ⟨cs, fr, q⟩ := own_at h.r1 hk; exact pf.at_ q (by decide)
  · by_cases e : i = j
    · subst e
      rw [upd_at, upd_at]; exact hn
    · rw [upd_off e, upd_off e]
      exact PZ.other (h.it i hi) (h.it j hj) (h.ap j i hj hi (Ne.symm e)) f
  · by_cases e : i = j
    · subst e
      rw [upd_at, upd_off (Ne.symm hne)]
      exact (h.ap i k hi hk hne).turn (h.it k hk) f
    · by_cases e2 : k = j
      · subst e2
        rw [upd_at, upd_off e]
        exact ((h.ap k i hk hi (Ne.symm hne)).turn (h.it i hi) f).symm
      · rw [upd_off e, upd_off e2]
        exact h.ap i k hi hk hne
/-- the program's operations leave the page's allocator -/
theorem AIs.fre_type {y : Alo} {n0 n1 : Nat} {lk : Int} {u0 u1 : Value} {v : Nat → Value} {t : Nat → Nu} (h : AIs base' W y n0 n1 lk u0 u1 v t) {k : Nat} {a : Array Value} {T : TypeId} {f : Nat × Nat} (hk : W.heap[k]? = some (.cells a T f)) (h0 : T ≠ TAl) (h1 : T ≠ TNm) (h2 : T ≠ Gp.THp) (h3 : T ≠ Gp.TRn) : Fre y n0 n1 v k :=
  ⟨cells_ne hk h.box h0, fun i hi => (h.it i hi).off_type hk h1 h2 h3⟩
theorem PA.af {y : Alo} {n0 n1 : Nat} {lk : Int} {u0 u1 : Value} {v v' : Nat → Value} {t : Nat → Nu} (h : PA base W S A sl v0 v1 z s) (ha : AIs base' W y n0 n1 lk u0 u1 v t) (f : AF y n0 n1 v v' W V) : PA base V S A sl v0 v1 z s :=
  h.still fun k cs T fr hk ht => f.block k (ltO hk) (by
    rcases ht with rfl | rfl | rfl | rfl | rfl | rfl | rfl <;> exact ha.fre_type hk (by decide) (by decide) (by decide) (by decide))
/-- the page's operations leave the program's allocator -/
theorem AIs.pf {y : Alo} {n0 n1 : Nat} {lk : Int} {u0 u1 : Value} {v : Nat → Value} {t : Nat → Nu} (h : AIs base' W y n0 n1 lk u0 u1 v t) (f : PF W V) : AIs base' V y n0 n1 lk u0 u1 v t := by
  refine h.still (f.at_ h.box (by decide)) (fun k hk => ?_) (fun k hk => ?_) fun i hi => ?_
  · obtain ⟨cs, fr, q⟩ := own_at h.r0 hk; exact f.at_ q (by decide)
  · obtain ⟨cs, fr, q⟩ := own_at h.r1 hk; exact f.at_ q (by decide)
  · have g := h.it i hi
    refine g.still (f.at_ g.box (by decide)) (f.at_ (GH_box g.gh) (by decide)) ?_ fun k hk => ?_
    · obtain ⟨es, cl, hm⟩ := g.mapO
      exact f.block _ g.lt.2.2.1 fun cs T fr e => by rw [hm] at e; injection e with e; cases e
    · obtain ⟨⟨cs, fr, q⟩, _⟩ := GH_own g.gh hk; exact f.at_ q (by decide)
/-- what turns the page's allocator leaves alone what lies below it -/
theorem FP.belowA {j : Nat} (f : FP (z j) z' W V) (h : PA base W S A sl v0 v1 z s) (hj : j < A + A) : Below base W V := f.below (h.it j hj)
end
end Go.Proofs.YtpkkomifenlkaaaGreat.Au
/- The page's numbers of an account: how each of them turns; a function's world with an answer's box. -/
namespace Go.Proofs.YtpkkomifenlkaaaGreat.Au
open Go Go.RowKit Go.MuLone
set_option linter.unusedVariables false

section
variable {base : Nat} {z z' z0 : Pz} {s s' : Nu} {W V X : World} {P R : Nat} {oc : Array Value} {T0 : TypeId}
theorem PZ.cells (h : PZ base W z s) : W.cell? ⟨z.N, 0, none⟩ = some (.int .u64 s.ep) ∧ W.cell? ⟨z.N, 1, none⟩ = some (.int .u64 s.nx) ∧ W.cell? ⟨z.N, 2, none⟩ = some (.pointer (some ⟨z.Q, 0, none⟩)) ∧ W.cell? ⟨z.N, 3, none⟩ = some z.h ∧ ∀ i, W.frozen? ⟨z.N, i, none⟩ = false :=
  ⟨cell_of_row W z.N 0 _ _ (0, 0) h.box, cell_of_row W z.N 1 _ _ (0, 0) h.box, cell_of_row W z.N 2 _ _ (0, 0) h.box, cell_of_row W z.N 3 _ _ (0, 0) h.box, fun i => by
    have := h.box
    dsimp only at this
    simp [World.frozen?, this]⟩
/-- the heap turns -/
theorem PZ.heap (h : PZ base V z s) {q' : Value} {L' : List Int} (hq : Gp.QH base X z.Q q' L') (f : Gp.Fr z.Q z.q q' V X) : PZ base X ⟨z.N, z.Q, q', z.h⟩ ⟨s.ep, s.nx, L', s.M⟩ :=
  ⟨(f.block _ h.lt h.nq fun e => (h.onq e.symm).1 rfl).trans h.box, h.low, hq, own_same h.held fun k hk => f.block k (h.lth hk).2 (h.onh hk).2.1 (h.onh hk).2.2⟩
theorem PZ.setN (h : PZ base V z s) (i : Nat) (x : Value) {cs : Array Value} (hc : (V.setCell ⟨z.N, i, none⟩ x).heap[z.N]? = some (.cells cs TPn (0, 0))) : (V.setCell ⟨z.N, i, none⟩ x).heap[z.Q]? = V.heap[z.Q]? ∧ (∀ k, z.q.ownBlock = some k → (V.setCell ⟨z.N, i, none⟩ x).heap[k]? = V.heap[k]?) ∧ ∀ k, z.h.ownBlock = some k → (V.setCell ⟨z.N, i, none⟩ x).heap[k]? = V.heap[k]? :=
  ⟨Below.heap_setCell _ _ _ _ h.nq.symm, fun k hk => Below.heap_setCell _ _ _ _ (h.onq hk).1, fun k hk => Below.heap_setCell _ _ _ _ (h.onh hk).1⟩
theorem PZ.boxAt (h : PZ base V z s) : V.heap[z.N]? = some (.cells #[.int .u64 s.ep, .int .u64 s.nx, .pointer (some ⟨z.Q, 0, none⟩), z.h] TPn (0, 0)) := h.box
theorem PZ.setE (h : PZ base V z s) (x : Int) : PZ base (V.setCell ⟨z.N, 0, none⟩ (.int .u64 x)) z ⟨x, s.nx, s.L, s.M⟩ := by
  have hc : (V.setCell ⟨z.N, 0, none⟩ (.int .u64 x)).heap[z.N]? = some (.cells #[.int .u64 x, .int .u64 s.nx, .pointer (some ⟨z.Q, 0, none⟩), z.h] TPn (0, 0)) := by simp [World.setCell, Array.getElem?_modify, h.boxAt]
  obtain ⟨a, b, c⟩ := PZ.setN h 0 (.int .u64 x) hc
  exact ⟨hc, h.low, ⟨a.trans h.qh.box, h.qh.low, own_same h.qh.row b, h.qh.few, h.qh.rise, h.qh.bd⟩, own_same h.held c⟩
theorem PZ.setX (h : PZ base V z s) (x : Int) : PZ base (V.setCell ⟨z.N, 1, none⟩ (.int .u64 x)) z ⟨s.ep, x, s.L, s.M⟩ := by
  have hc : (V.setCell ⟨z.N, 1, none⟩ (.int .u64 x)).heap[z.N]? = some (.cells #[.int .u64 s.ep, .int .u64 x, .pointer (some ⟨z.Q, 0, none⟩), z.h] TPn (0, 0)) := by simp [World.setCell, Array.getElem?_modify, h.boxAt]
  obtain ⟨a, b, c⟩ := PZ.setN h 1 (.int .u64 x) hc
  exact ⟨hc, h.low, ⟨a.trans h.qh.box, h.qh.low, own_same h.qh.row b, h.qh.few, h.qh.rise, h.qh.bd⟩, own_same h.held c⟩
/-- what is held turns: another row, or the same one longer -/
theorem PZ.row (h : PZ base V z s) {v' : Value} {M' : List (Int × Int)} (g : V.grownBy X z.h.ownBlock) (o : X.ownsRow base THd 2 v' M'.length (hc M')) (hn : v'.ownBlock = z.h.ownBlock ∨ ∀ k, v'.ownBlock = some k → V.heap.size ≤ k) :
    PZ base (X.setCell ⟨z.N, 3, none⟩ v') ⟨z.N, z.Q, z.q, v'⟩ ⟨s.ep, s.nx, s.L, M'⟩ ∧ FP z ⟨z.N, z.Q, z.q, v'⟩ V (X.setCell ⟨z.N, 3, none⟩ v') := by
  have e1 := g.block _ h.lt fun e => (h.onh e.symm).1 rfl
  have e2 := g.block _ h.ltQ fun e => (h.onh e.symm).2.1 rfl
  have e3 : ∀ k, z.q.ownBlock = some k → X.heap[k]? = V.heap[k]? := fun k hk => g.block k (h.ltq hk).2 (h.onq hk).2.2
  have hc : (X.setCell ⟨z.N, 3, none⟩ v').heap[z.N]? = some (.cells #[.int .u64 s.ep, .int .u64 s.nx, .pointer (some ⟨z.Q, 0, none⟩), v'] TPn (0, 0)) := by
    have := e1.trans h.boxAt
    simp [World.setCell, Array.getElem?_modify, this]
  have hne : ∀ k, v'.ownBlock = some k → k ≠ z.N := fun k hk e => by
    obtain ⟨cs, fr, q⟩ := own_at o hk
    exact cells_ne q (e1.trans h.boxAt) (by decide) e
  refine ⟨⟨hc, h.low, ⟨(Below.heap_setCell _ _ _ _ h.nq.symm).trans (e2.trans h.qh.box), h.qh.low, own_same h.qh.row fun k hk => (Below.heap_setCell _ _ _ _ (h.onq hk).1).trans (e3 k hk), h.qh.few, h.qh.rise, h.qh.bd⟩, own_same o fun k hk => Below.heap_setCell _ _ _ _ (hne k hk)⟩, ?_⟩
  exact ⟨g.os, g.tape, g.output, by simpa using g.size, fun k hk o => (Below.heap_setCell _ _ _ _ o.n).trans (g.block k hk o.oh), rfl, Or.inl rfl, Or.inl rfl, hn⟩
theorem grown_same {row : Option Nat} : V.grownBy V row := ⟨rfl, rfl, rfl, Nat.le_refl _, fun _ _ _ => rfl⟩
theorem grown_below {row : Option Nat} (h : Below V.heap.size V X) : V.grownBy X row := ⟨h.os, h.tape, h.output, h.size, fun k hk _ => h.block k hk⟩
theorem PZ.rowNil (h : PZ base V z s) : PZ base (V.setCell ⟨z.N, 3, none⟩ (.slice none 0 0)) ⟨z.N, z.Q, z.q, .slice none 0 0⟩ ⟨s.ep, s.nx, s.L, []⟩ ∧ FP z ⟨z.N, z.Q, z.q, .slice none 0 0⟩ V (V.setCell ⟨z.N, 3, none⟩ (.slice none 0 0)) :=
  PZ.row h grown_same (World.ownsRow_nil _ _ _ _) (Or.inr fun k hk => by cases hk)
/-- a new row -/
theorem PZ.rowNew (h : PZ base V z s) {v' : Value} {M' : List (Int × Int)} (b : Below V.heap.size V X) (o : X.ownsRow V.heap.size THd 2 v' M'.length (hc M')) :
    PZ base (X.setCell ⟨z.N, 3, none⟩ v') ⟨z.N, z.Q, z.q, v'⟩ ⟨s.ep, s.nx, s.L, M'⟩ ∧ FP z ⟨z.N, z.Q, z.q, v'⟩ V (X.setCell ⟨z.N, 3, none⟩ v') := by
  have hl := h.lt
  have hb := h.low
  dsimp only at hl hb
  refine PZ.row h (grown_below b) ⟨o.1, ?_⟩ (Or.inr fun k hk => (o.lt k hk).1)
  rcases o.2 with h2 | ⟨g, cap, cur, hv, hg, r⟩
  · exact Or.inl h2
  · exact Or.inr ⟨g, cap, cur, hv, by omega, r⟩
/-- a new heap -/
theorem PZ.newQ (h : PZ base V z s) :
    PZ base ((V.alloc (.cells #[.slice none 0 0] Gp.TQh)).setCell ⟨z.N, 2, none⟩ (.pointer (some ⟨V.heap.size, 0, none⟩))) ⟨z.N, V.heap.size, .slice none 0 0, z.h⟩ ⟨s.ep, s.nx, [], s.M⟩ ∧ FP z ⟨z.N, V.heap.size, .slice none 0 0, z.h⟩ V ((V.alloc (.cells #[.slice none 0 0] Gp.TQh)).setCell ⟨z.N, 2, none⟩ (.pointer (some ⟨V.heap.size, 0, none⟩))) := by
  have hl := h.lt
  have hb := h.low
  dsimp only at hl hb
  have b1 : Below V.heap.size V (V.alloc (.cells #[.slice none 0 0] Gp.TQh)) := (Below.refl _ _).alloc (Nat.le_refl _) _
  have hx := heap_alloc_new V (.cells #[.slice none 0 0] Gp.TQh)
  generalize V.alloc (.cells #[.slice none 0 0] Gp.TQh) = X at b1 hx ⊢
  have e1 := (b1.block _ hl).trans h.boxAt
  have hc : (X.setCell ⟨z.N, 2, none⟩ (.pointer (some ⟨V.heap.size, 0, none⟩))).heap[z.N]? = some (.cells #[.int .u64 s.ep, .int .u64 s.nx, .pointer (some ⟨V.heap.size, 0, none⟩), z.h] TPn (0, 0)) := by
    simp [World.setCell, Array.getElem?_modify, e1]
  refine ⟨⟨hc, hb, ⟨(Below.heap_setCell _ _ _ _ (by show V.heap.size ≠ z.N; omega)).trans hx, by show base ≤ V.heap.size; omega, World.ownsRow_nil _ _ _ _, by simp, by simp, by simp⟩, own_same h.held fun k hk => (Below.heap_setCell _ _ _ _ (h.onh hk).1).trans (b1.block k (h.lth hk).2)⟩, ?_⟩
  exact ⟨b1.os, b1.tape, b1.output, by simpa using b1.size, fun k hk o => (Below.heap_setCell _ _ _ _ o.n).trans (b1.block k hk), rfl, Or.inr (Nat.le_refl _), Or.inr (fun k hk => by cases hk), Or.inl rfl⟩
/-- a function's world: the numbers, an operation's box P, the answer's box R made behind W -/
structure RB (base : Nat) (W V : World) (z0 z : Pz) (s : Nu) (P R : Nat) (oc : Array Value) (T0 : TypeId) : Prop where
  pz : PZ base V z s
  fp : FP z0 z W V
  op : V.heap[P]? = some (.cells oc T0 (0, 0))
  rt : V.heap[R]? = some (.cells #[.int .i64 0, .int .u64 0, .int .u64 0, .int .u64 0] TRt (0, 0))
  lo : W.heap.size ≤ R
  ty : T0 ≠ TPn ∧ T0 ≠ Gp.TQh ∧ T0 ≠ Gp.TU ∧ T0 ≠ THd
theorem RB.start (h : PZ base W z s) : RB base W (W.alloc (.cells #[.int .i64 0, .int .u64 0, .int .u64 0, .int .u64 0] TRt)) z z s W.heap.size W.heap.size #[.int .i64 0, .int .u64 0, .int .u64 0, .int .u64 0] TRt := by
  have b1 : Below W.heap.size W (W.alloc (.cells #[.int .i64 0, .int .u64 0, .int .u64 0, .int .u64 0] TRt)) := (Below.refl _ _).alloc (Nat.le_refl _) _
  exact ⟨h.below b1, FP.of_below b1, heap_alloc_new _ _, heap_alloc_new _ _, Nat.le_refl _, by decide⟩
theorem RB.turn (h : RB base W V z0 z s P R oc T0) (hn : PZ base X z' s') (f : FP z z' V X) : RB base W X z0 z' s' P R oc T0 :=
  ⟨hn, h.fp.trans f, ((PF.of_fp f h.pz).at_ h.op h.ty).trans h.op, ((PF.of_fp f h.pz).at_ h.rt (by decide)).trans h.rt, h.lo, h.ty⟩
theorem RB.below (h : RB base W V z0 z s P R oc T0) (b : Below V.heap.size V X) : RB base W X z0 z s P R oc T0 := h.turn (h.pz.below b) (FP.of_below b)
theorem RB.heap (h : RB base W V z0 z s P R oc T0) {q' : Value} {L' : List Int} (hq : Gp.QH base X z.Q q' L') (f : Gp.Fr z.Q z.q q' V X) : RB base W X z0 ⟨z.N, z.Q, q', z.h⟩ ⟨s.ep, s.nx, L', s.M⟩ P R oc T0 :=
  h.turn (PZ.heap h.pz hq f) (FP.of_fr f)
theorem RB.setE (h : RB base W V z0 z s P R oc T0) (x : Int) : RB base W (V.setCell ⟨z.N, 0, none⟩ (.int .u64 x)) z0 z ⟨x, s.nx, s.L, s.M⟩ P R oc T0 := h.turn (PZ.setE h.pz x) (FP.of_setN 0 _)
theorem RB.setX (h : RB base W V z0 z s P R oc T0) (x : Int) : RB base W (V.setCell ⟨z.N, 1, none⟩ (.int .u64 x)) z0 z ⟨s.ep, x, s.L, s.M⟩ P R oc T0 := h.turn (PZ.setX h.pz x) (FP.of_setN 1 _)
/-- the answer -/
theorem RB.fin (h : RB base W V z0 z s P R oc T0) (a b c d : Value) : ((((V.setCell ⟨R, 0, none⟩ a).setCell ⟨R, 1, none⟩ b).setCell ⟨R, 2, none⟩ c).setCell ⟨R, 3, none⟩ d).heap[R]? = some (.cells #[a, b, c, d] TRt (0, 0)) ∧ PZ base ((((V.setCell ⟨R, 0, none⟩ a).setCell ⟨R, 1, none⟩ b).setCell ⟨R, 2, none⟩ c).setCell ⟨R, 3, none⟩ d) z s ∧ FP z0 z W ((((V.setCell ⟨R, 0, none⟩ a).setCell ⟨R, 1, none⟩ b).setCell ⟨R, 2, none⟩ c).setCell ⟨R, 3, none⟩ d) := by
  have o := PZ.off_typ h.pz h.rt (by decide)
  have hk : ∀ k, k ≠ R → ((((V.setCell ⟨R, 0, none⟩ a).setCell ⟨R, 1, none⟩ b).setCell ⟨R, 2, none⟩ c).setCell ⟨R, 3, none⟩ d).heap[k]? = V.heap[k]? := fun k hk =>
    (Below.heap_setCell _ _ _ _ hk).trans ((Below.heap_setCell _ _ _ _ hk).trans ((Below.heap_setCell _ _ _ _ hk).trans (Below.heap_setCell _ _ _ _ hk)))
  refine ⟨Au.set4 a b c d h.rt, h.pz.still (hk _ o.n.symm) (hk _ o.q.symm) (fun k e => hk k fun x => o.oq (by rw [← x]; exact e.symm)) fun k e => hk k fun x => o.oh (by rw [← x]; exact e.symm), ?_⟩
  exact ⟨h.fp.os, h.fp.tape, h.fp.output, by simpa using h.fp.size, fun k hl o => (hk k (by have := h.lo; omega)).trans (h.fp.block k hl o), h.fp.N, h.fp.Q, h.fp.oq, h.fp.oh⟩
end
end Go.Proofs.YtpkkomifenlkaaaGreat.Au
/- The page's numbers: reserve. -/
namespace Go.Proofs.YtpkkomifenlkaaaGreat.Au
open Go Go.RowKit Go.MuLone
set_option linter.unusedVariables false

theorem tkC_some {nn : Int} {L : List Int} (h1 : 1 ≤ nn) (hL : L ≠ []) : Gp.tkC nn L = 0 := by unfold Gp.tkC; rw [if_neg (by omega), if_neg hL]
theorem tkC_none {nn : Int} (h1 : 1 ≤ nn) : Gp.tkC nn [] = 8 := by unfold Gp.tkC; rw [if_neg (by omega), if_pos rfl]
section
variable {base : Nat} {z z' z0 : Pz} {s s' : Nu} {W V X : World} {P R : Nat} {oc : Array Value} {T0 : TypeId}
set_option maxRecDepth 20000 in
theorem pres_bad (h : PZ base W z s) (who most : Int) (hm : most < 1 ∨ 8 < most) :
    Calls Tryz.prog 39 #[.pointer (some ⟨z.N, 0, none⟩), .int .i64 who, .int .u64 most] W fun e w' => e = .returned (rt 1 0 0 0) ∧ ∃ z', PZ base w' z' s ∧ FP z z' W w' := by
  unfold rt
  have h1 := RB.start h
  obtain ⟨w0, hw0⟩ : ∃ X, X = W.alloc (.cells #[.int .i64 0, .int .u64 0, .int .u64 0, .int .u64 0] TRt) := ⟨_, rfl⟩
  obtain ⟨R, hR⟩ : ∃ R, R = W.heap.size := ⟨_, rfl⟩
  rw [← hw0, ← hR] at h1
  have HR := Lib.hid (h1.fin (.int .i64 1) (.int .u64 0) (.int .u64 0) (.int .u64 0))
  obtain ⟨r0, r1, r2, r3, rf⟩ := get4 h1.rt
  clear h1 h
  rcases Int.lt_or_le most 1 with hm1 | hm1
  all_goals
    first
    | have d1 : decide (most < 1) = true := decide_eq_true hm1
      have HM := Lib.hid hm
      clear hm hm1
      go_enter Tryz.func39, Tryz.ntmps39
      go_upto_region 1 with fail
      rw [← hw0, ← hR]
      clear hw0 hR
      go_wp2
      generalize ((((w0.setCell ⟨R, 0, none⟩ (.int .i64 1)).setCell ⟨R, 1, none⟩ (.int .u64 0)).setCell ⟨R, 2, none⟩ (.int .u64 0)).setCell ⟨R, 3, none⟩ (.int .u64 0)) = V4 at HR ⊢
      obtain ⟨q0, q1, q2, q3, -⟩ := get4 HR.out.1
      simp [bodyPost, results, Tryz.results39, go_sem, q0, q1, q2, q3]
      exact ⟨_, HR.out.2⟩
    | have d1 : decide (most < 1) = false := decide_eq_false (by omega)
      have d2 : decide (8 < most) = true := decide_eq_true (by omega)
      clear hm hm1
      go_enter Tryz.func39, Tryz.ntmps39
      go_upto_region 1 with fail
      rw [← hw0, ← hR]
      clear hw0 hR
      go_wp2
      generalize ((((w0.setCell ⟨R, 0, none⟩ (.int .i64 1)).setCell ⟨R, 1, none⟩ (.int .u64 0)).setCell ⟨R, 2, none⟩ (.int .u64 0)).setCell ⟨R, 3, none⟩ (.int .u64 0)) = V4 at HR ⊢
      obtain ⟨q0, q1, q2, q3, -⟩ := get4 HR.out.1
      simp [bodyPost, results, Tryz.results39, go_sem, q0, q1, q2, q3]
      exact ⟨_, HR.out.2⟩
set_option maxRecDepth 20000 in
set_option maxHeartbeats 1000000 in
theorem pres_end (h : PZ base W z s) (who most : Int) (hm1 : 1 ≤ most) (hm8 : most ≤ 8) (hL : s.L = []) (hx : s.nx = 18446744073709551615) :
    Calls Tryz.prog 39 #[.pointer (some ⟨z.N, 0, none⟩), .int .i64 who, .int .u64 most] W fun e w' => e = .returned (rt 11 0 0 0) ∧ ∃ z', PZ base w' z' s ∧ FP z z' W w' := by
  unfold rt
  have h1 := RB.start h
  obtain ⟨w0, hw0⟩ : ∃ X, X = W.alloc (.cells #[.int .i64 0, .int .u64 0, .int .u64 0, .int .u64 0] TRt) := ⟨_, rfl⟩
  obtain ⟨R, hR⟩ : ∃ R, R = W.heap.size := ⟨_, rfl⟩
  rw [← hw0, ← hR] at h1
  obtain ⟨-, -, c2, -⟩ := PZ.cells h1.pz
  have d1 : decide (most < 1) = false := decide_eq_false (by omega)
  have d2 : decide (8 < most) = false := decide_eq_false (by omega)
  have HX := Lib.hid h1
  have HT := Lib.hid (Gp.qtake_any base z.Q z.q s.L most w0 h1.pz.qh (by omega))
  have HL := Lib.hid (And.intro hL hx)
  have HM := Lib.hid hm1
  clear h1 h hL hx hm1 hm8
  go_enter Tryz.func39, Tryz.ntmps39
  go_upto_region 1 with fail
  rw [← hw0, ← hR]
  clear hw0 hR
  go_wp2_with fail
  refine HT.out.mono ?_
  rintro _ w1 ⟨rfl, q', hq, hf⟩
  have h2 := HX.out.heap hq hf
  have e8 : Gp.tkC most s.L = 8 := by rw [HL.out.1]; exact tkC_none HM.out
  rw [HL.out.1] at h2
  rw [e8]
  simp only [List.drop_nil] at h2
  obtain ⟨-, c1, -⟩ := PZ.cells h2.pz
  dsimp only at c1
  rw [HL.out.2] at c1
  have HR := Lib.hid (h2.fin (.int .i64 11) (.int .u64 0) (.int .u64 0) (.int .u64 0))
  obtain ⟨r0, r1, r2, r3, rf⟩ := get4 h2.rt
  clear hq hf h2 HX c2 d1 d2 HT e8
  go_wp2
  generalize ((((w1.setCell ⟨R, 0, none⟩ (.int .i64 11)).setCell ⟨R, 1, none⟩ (.int .u64 0)).setCell ⟨R, 2, none⟩ (.int .u64 0)).setCell ⟨R, 3, none⟩ (.int .u64 0)) = V4 at HR ⊢
  obtain ⟨q0, q1, q2, q3, -⟩ := get4 HR.out.1
  simp [bodyPost, results, Tryz.results39, go_sem, q0, q1, q2, q3]
  have e : (⟨s.ep, s.nx, [], s.M⟩ : Nu) = s := by rw [← HL.out.1]
  exact ⟨_, e ▸ HR.out.2.1, HR.out.2.2⟩
set_option maxRecDepth 20000 in
set_option maxHeartbeats 4000000 in
theorem pres_any (h : PZ base W z s) (who most : Int) (hm1 : 1 ≤ most) (hm8 : most ≤ 8) (h0 : 0 ≤ s.nx) (h9 : s.nx ≤ 18446744073709551615) (f : Int) (m : Nat) (nx : Int) (L : List Int)
    (hc : (s.L ≠ [] ∧ f = Gp.tkF most s.L ∧ (m : Int) = Gp.tkM most s.L ∧ nx = s.nx ∧ L = s.L.drop (Gp.tkM most s.L).toNat) ∨ (s.L = [] ∧ f = s.nx ∧ (m : Int) = (if 18446744073709551615 - s.nx < most then 18446744073709551615 - s.nx else most) ∧ nx = s.nx + (m : Int) ∧ L = []))
    (hf0 : 0 ≤ f) (hfm : f + (m : Int) ≤ 18446744073709551615) (hm0 : 0 < m) (hmm : (m : Int) ≤ 8) (hM9 : s.M.length ≤ 10000) :
    Calls Tryz.prog 39 #[.pointer (some ⟨z.N, 0, none⟩), .int .i64 who, .int .u64 most] W fun e w' => e = .returned (rt 0 s.ep f (m : Int)) ∧ ∃ z', PZ base w' z' ⟨s.ep, nx, L, s.M ++ nums f m who⟩ ∧ FP z z' W w' := by
  unfold rt
  obtain ⟨i0, hinf, hz0, hz1, hz2⟩ := info_partsU infoHd
  have h1 := RB.start h
  obtain ⟨w0, hw0⟩ : ∃ X, X = W.alloc (.cells #[.int .i64 0, .int .u64 0, .int .u64 0, .int .u64 0] TRt) := ⟨_, rfl⟩
  obtain ⟨R, hR⟩ : ∃ R, R = W.heap.size := ⟨_, rfl⟩
  rw [← hw0, ← hR] at h1
  obtain ⟨-, -, c2, -⟩ := PZ.cells h1.pz
  have d1 : decide (most < 1) = false := decide_eq_false (by omega)
  have d2 : decide (8 < most) = false := decide_eq_false (by omega)
  have HX := Lib.hid h1
  have HT := Lib.hid (Gp.qtake_any base z.Q z.q s.L most w0 h1.pz.qh (by omega))
  have HC := Lib.hid hc
  have HM9 := Lib.hid hM9
  clear h1 h hc hM9
  go_enter Tryz.func39, Tryz.ntmps39
  go_upto_region 1 with fail
  rw [← hw0, ← hR]
  clear hw0 hR
  go_wp2_with fail
  refine HT.out.mono ?_
  rintro _ w1 ⟨rfl, q', hq, hf⟩
  have h2 := HX.out.heap hq hf
  have H2 := Lib.hid h2
  clear hq hf h2 HX c2 d1 d2 HT
  obtain ⟨tf, htf⟩ : ∃ x, x = Gp.tkF most s.L := ⟨_, rfl⟩
  obtain ⟨tm, htm⟩ : ∃ x, x = Gp.tkM most s.L := ⟨_, rfl⟩
  obtain ⟨tc, htc⟩ : ∃ x, x = Gp.tkC most s.L := ⟨_, rfl⟩
  rw [← htf, ← htm, ← htc]
  have HTk := Lib.hid (And.intro htf (And.intro htm htc))
  clear htf htm htc
  go_upto_if 29 with fail
  obtain ⟨tb, htb⟩ : ∃ x, x = (tc != 0) := ⟨_, rfl⟩
  rw [← htb]
  have HTb := Lib.hid htb
  clear htb
  go_cut [7, 8] from 30 to 54 (fun fv mv wx => fv = .int .u64 f ∧ mv = .int .u64 (m : Int) ∧ RB base W wx z ⟨z.N, z.Q, q', z.h⟩ ⟨s.ep, nx, L, s.M⟩ R R #[.int .i64 0, .int .u64 0, .int .u64 0, .int .u64 0] TRt)
  case first =>
    rcases HC.out with ⟨hL, e1, e2, e3, e4⟩ | ⟨hL, e1, e2, e3, e4⟩
    · obtain rfl : tf = f := HTk.out.1.trans e1.symm
      obtain rfl : tm = (m : Int) := HTk.out.2.1.trans e2.symm
      obtain rfl : tc = 0 := HTk.out.2.2.trans (tkC_some hm1 hL)
      obtain rfl : tb = false := HTb.out
      have HT : Hid (RB base W w1 z ⟨z.N, z.Q, q', z.h⟩ ⟨s.ep, nx, L, s.M⟩ R R #[.int .i64 0, .int .u64 0, .int .u64 0, .int .u64 0] TRt) := Lib.hid (by rw [e3, e4]; exact H2.out)
      clear e1 e2 e3 e4 hL
      go_wp2
      go_meet
      exact ⟨rfl, rfl, HT.out⟩
    · obtain rfl : tc = 8 := HTk.out.2.2.trans (by rw [hL]; exact tkC_none hm1)
      obtain rfl : tb = true := HTb.out
      have h3 : RB base W w1 z ⟨z.N, z.Q, q', z.h⟩ ⟨s.ep, s.nx, [], s.M⟩ R R #[.int .i64 0, .int .u64 0, .int .u64 0, .int .u64 0] TRt := by
        have := H2.out; rw [hL] at this; simp only [List.drop_nil] at this; exact this
      obtain ⟨-, c1, -, -, g1⟩ := PZ.cells h3.pz
      have g1 := g1 1
      dsimp only at c1 g1
      have HE := Lib.hid (And.intro e1 (And.intro e3 e4))
      have H4 := Lib.hid (RB.setX h3 (s.nx + (m : Int)))
      obtain ⟨y, hy⟩ : ∃ y, y = 18446744073709551615 - s.nx := ⟨_, rfl⟩
      have hwr : IntKind.u64.wrap (18446744073709551615 - s.nx) = y := by rw [hy]; exact wrap_u (by omega) (by omega)
      have hy0 : (y == 0) = false := by
        have : y ≠ 0 := fun e => by
          rw [← hy, e] at e2
          split at e2 <;> omega
        simpa using this
      rw [← hy] at e2
      have hw2 : IntKind.u64.wrap (s.nx + (m : Int)) = s.nx + (m : Int) := wrap_u (by omega) (by omega)
      have HY := Lib.hid hy
      clear e1 e3 e4 hL h3 hy
      by_cases hgt : most < y
      · have d3 : decide (most < y) = true := decide_eq_true hgt
        obtain rfl : (m : Int) = most := by rw [e2, if_neg (by omega)]
        clear e2 hgt
        go_wp2
        go_meet
        have h9 := H4.out
        refine ⟨by rw [HE.out.1], rfl, ?_⟩
        rw [HE.out.2.1, HE.out.2.2]
        exact h9
      · have d3 : decide (most < y) = false := decide_eq_false hgt
        have e5 : (m : Int) = y := by
          rw [e2]; split <;> omega
        rw [e5] at hw2
        clear e2 hgt
        go_wp2
        go_meet
        have h9 := H4.out
        rw [e5] at h9
        refine ⟨by rw [HE.out.1], by rw [e5], ?_⟩
        rw [HE.out.2.1, HE.out.2.2, e5]
        exact h9
  case rest =>
    obtain ⟨rfl, rfl, hr⟩ := hcut
    have H3 := Lib.hid hr
    clear hr H2 HC
    have HM := Lib.hid (And.intro hf0 (And.intro hfm (And.intro hm0 hmm)))
    clear hf0 hfm hm0
    go_wp2_with fail
    go_loopw [10] (fun iv wr => ∃ (k : Nat) (vh : Value), iv = .int .u64 (k : Int) ∧ k ≤ m ∧ RB base W wr z ⟨z.N, z.Q, q', vh⟩ ⟨s.ep, nx, L, s.M ++ nums f k who⟩ R R #[.int .i64 0, .int .u64 0, .int .u64 0, .int .u64 0] TRt) (fun iv _ => m - (intOf iv).toNat)
    case atStart => exact ⟨0, _, rfl, Nat.zero_le _, by have := H3.out; simpa [nums] using this⟩
    case round =>
      clear H3
      obtain ⟨k, vh, rfl, hk, hr⟩ := hrel
      have H4 := Lib.hid hr
      obtain ⟨c0, -, -, c3, g3⟩ := PZ.cells hr.pz
      have g3 := g3 3
      dsimp only at c0 c3 g3
      by_cases hkm : k < m
      · obtain ⟨A, c, rfl⟩ := held_form hr.pz.held
        have d3 : decide ((k : Int) < (m : Int)) = true := decide_eq_true (by omega)
        have hwr : IntKind.u64.wrap (f + (k : Int)) = f + (k : Int) := wrap_u (by have := HM.out; omega) (by have := HM.out; omega)
        have hwk : IntKind.u64.wrap ((k : Int) + 1) = ((k + 1 : Nat) : Int) := wrap_u (by omega) (by omega)
        obtain ⟨K, hK⟩ : ∃ K, K = s.M ++ nums f k who := ⟨_, rfl⟩
        have hKl : K.length ≤ 10008 := by rw [hK, List.length_append, nums_len]; have := HM9.out; omega
        dsimp only at c3
        rw [← hK] at c3
        have hrow := hr.pz.held
        dsimp only at hrow
        rw [← hK] at hrow
        obtain ⟨p, hp⟩ : ∃ p, p = K.length := ⟨_, rfl⟩
        rw [← hp] at c3 hrow hKl
        have bl : Below wr.heap.size wr (wr.alloc (.cells #[.int .u64 (f + (k : Int)), .int .i64 who] THd)) := (Below.refl _ _).alloc (Nat.le_refl _) _
        have hlow := hr.pz.low
        have hlt := hr.pz.lt
        dsimp only at hlow hlt
        have h5 := hr.below bl
        rw [← hK, ← hp] at h5
        have HR6 := Lib.hid (And.intro (own_keep2 hrow fun k hk => bl.block k hk) (And.intro h5 (And.intro hK hp)))
        have HC := Lib.hid (news_hd wr (f + (k : Int)) who)
        have H1 := Lib.hid (ones_hd (f + (k : Int)) who)
        have HBd := Lib.hid hKl
        have HSZ := Lib.hid (show base ≤ (wr.alloc (.cells #[.int .u64 (f + (k : Int)), .int .i64 who] THd)).heap.size by have := bl.size; omega)
        clear hr hrow bl hK hp hKl h5 hlow hlt
        go_wp2_with (at_builtin; refine wpList_append_lies _ rfl _ _ 91 rfl base THd i0 (.agg #[.int .u64 0, .int .i64 0]) 2 16 Tryz.underlying91 hinf hz0 hz1 hz2 rfl (by decide) _ _ _ rfl HR6.out.1 ⟨wr.heap.size, 0, none⟩ 1 1 [.int .u64 (f + (k : Int)), .int .i64 who] rfl rfl HC.out H1.out (by decide) (by have := HBd.out; unfold maxLen; omega) (by have := HBd.out; omega) HSZ.out _ rfl ?_)
        intro g1 cap1 w6 hown hg6 hat2 _
        rw [← hc_snoc K (f + (k : Int), who)] at hown
        have hl6 : p + 1 = (K ++ [(f + (k : Int), who)]).length := by rw [List.length_append, ← HR6.out.2.2.2]; rfl
        obtain ⟨hz6, hf6⟩ := PZ.row HR6.out.2.1.pz (v' := .slice (some ⟨g1, 0, none⟩) (p + 1) cap1) (M' := K ++ [(f + (k : Int), who)]) hg6 (by rw [← hl6]; exact hown) (by
          rcases hat2 with e | e
          · exact Or.inl e.symm
          · refine Or.inr fun j hj => ?_
            have hj : some g1 = some j := hj
            injection hj with hj
            rw [← hj, e]
            simp)
        have hb6 := (hg6.block _ HR6.out.2.1.pz.lt fun e => (HR6.out.2.1.pz.onh e.symm).1 rfl).trans HR6.out.2.1.pz.box
        have c6 := cell_of_row w6 z.N 3 _ _ (0, 0) hb6
        have g6 : w6.frozen? ⟨z.N, 3, none⟩ = false := by
          dsimp only at hb6
          simp [World.frozen?, hb6]
        have H6 := Lib.hid (RB.turn HR6.out.2.1 hz6 hf6)
        have HKe := Lib.hid HR6.out.2.2.1
        clear hown hg6 hat2 hz6 hf6 hb6 HR6 HC H1 HSZ hl6 c0 c3 g3 H4
        go_wp2
        go_roundw
        case rel =>
          refine ⟨k + 1, .slice (some ⟨g1, 0, none⟩) (p + 1) cap1, by rfl, hkm, ?_⟩
          rw [nums_succ, ← List.append_assoc, ← HKe.out]
          exact H6.out
        case measure => simp [intOf]; omega
      · obtain rfl : k = m := by omega
        have HR := Lib.hid (hr.fin (.int .i64 0) (.int .u64 s.ep) (.int .u64 f) (.int .u64 (k : Int)))
        obtain ⟨r0, r1, r2, r3, rf⟩ := get4 hr.rt
        have d3 : decide ((k : Int) < (k : Int)) = false := decide_eq_false (by omega)
        clear hr H4 c3 g3
        go_wp2
        generalize ((((wr.setCell ⟨R, 0, none⟩ (.int .i64 0)).setCell ⟨R, 1, none⟩ (.int .u64 s.ep)).setCell ⟨R, 2, none⟩ (.int .u64 f)).setCell ⟨R, 3, none⟩ (.int .u64 (k : Int))) = V4 at HR ⊢
        obtain ⟨q0, q1, q2, q3, -⟩ := get4 HR.out.1
        simp [bodyPost, results, Tryz.results39, go_sem, q0, q1, q2, q3]
        exact ⟨_, HR.out.2⟩
end
end Go.Proofs.YtpkkomifenlkaaaGreat.Au
/- The page's allocator: Is, At. -/
namespace Go.Proofs.YtpkkomifenlkaaaGreat.Au
open Go Go.RowKit Go.MuLone
set_option linter.unusedVariables false

section
variable {base S A : Nat} {sl v0 v1 : Value} {z : Nat → Pz} {s : Nat → Nu} {W V X : World}
theorem sl_at {W : World} {base n c : Nat} {A : Option Addr} {u v : Value} (h : W.ownsRow base TPr 1 (.slice A n c) 2 [u, v]) : n = 2 ∧ ∃ g, A = some ⟨g, 0, none⟩ ∧ W.cell? ⟨g, 0, none⟩ = some u ∧ W.cell? ⟨g, 1, none⟩ = some v := by
  have hn : n = 2 := by
    rcases h.2 with ⟨h1, h2⟩ | ⟨g, cap, cur, hv, r⟩
    · omega
    · injection hv
  subst hn
  refine ⟨rfl, ?_⟩
  obtain ⟨g, rfl, -, -, h0⟩ := own_cellG h 0 (by decide) (u := u) rfl
  obtain ⟨g', e, -, -, h1⟩ := own_cellG h 1 (by decide) (u := v) rfl
  injection e with e
  injection e with e
  subst e
  exact ⟨g, rfl, h0, h1⟩
set_option maxRecDepth 20000 in
set_option maxHeartbeats 2000000 in
theorem pis_any (sd ac : Int) (h : PA base W S A sl v0 v1 z s) (hA : A ≤ 1000000) :
    Calls Tryz.prog 37 #[.pointer (some ⟨S, 0, none⟩), .int .i64 sd, .int .i64 ac] W fun e w' => e = .returned (.bool (idx A sd ac).isSome) ∧ w' = W := by
  obtain ⟨A0, c0, rfl⟩ := own_form h.r0
  obtain ⟨B, cb, rfl⟩ := own_form h.rs
  obtain ⟨-, g, rfl, t0, -⟩ := sl_at h.rs
  have q0 := cell_of_row W S 0 _ _ (0, 0) h.box
  obtain ⟨E, hE⟩ : ∃ E, E = (idx A sd ac).isSome := ⟨_, rfl⟩
  rw [← hE]
  have no : ¬(0 ≤ sd ∧ sd ≤ 1 ∧ 1 ≤ ac ∧ ac ≤ (A : Int)) → E = false := fun hc => by rw [hE]; unfold idx; rw [if_neg hc]; rfl
  have ye : (0 ≤ sd ∧ sd ≤ 1 ∧ 1 ≤ ac ∧ ac ≤ (A : Int)) → E = true := fun hc => by rw [hE]; unfold idx; rw [if_pos hc]; rfl
  clear h hE
  by_cases a0 : 0 ≤ sd
  rotate_left
  · skip
    have d0 : decide (0 ≤ sd) = false := by simp; omega
    have hn := no (by omega)
    rw [hn]
    clear hn no ye
    go_enter Tryz.func37, Tryz.ntmps37
    go_wp2
    go_ret
    exact ⟨rfl, rfl⟩
  by_cases a1 : sd ≤ 1
  rotate_left
  · skip
    have d0 : decide (0 ≤ sd) = true := by simp; omega
    have d1 : decide (sd ≤ 1) = false := by simp; omega
    have hn := no (by omega)
    rw [hn]
    clear hn no ye
    go_enter Tryz.func37, Tryz.ntmps37
    go_wp2
    go_ret
    exact ⟨rfl, rfl⟩
  by_cases a2 : 1 ≤ ac
  rotate_left
  · skip
    have d0 : decide (0 ≤ sd) = true := by simp; omega
    have d1 : decide (sd ≤ 1) = true := by simp; omega
    have d2 : decide (1 ≤ ac) = false := by simp; omega
    have hn := no (by omega)
    rw [hn]
    clear hn no ye
    go_enter Tryz.func37, Tryz.ntmps37
    go_wp2
    go_ret
    exact ⟨rfl, rfl⟩
  by_cases a3 : ac ≤ (A : Int)
  rotate_left
  · skip
    have d0 : decide (0 ≤ sd) = true := by simp; omega
    have d1 : decide (sd ≤ 1) = true := by simp; omega
    have d2 : decide (1 ≤ ac) = true := by simp; omega
    have d3 : decide (ac ≤ (A : Int)) = false := by simp; omega
    have hn := no (by omega)
    rw [hn]
    clear hn no ye
    go_enter Tryz.func37, Tryz.ntmps37
    go_wp2
    go_ret
    exact ⟨rfl, rfl⟩
  have d0 : decide (0 ≤ sd) = true := by simp; omega
  have d1 : decide (sd ≤ 1) = true := by simp; omega
  have d2 : decide (1 ≤ ac) = true := by simp; omega
  have d3 : decide (ac ≤ (A : Int)) = true := by simp; omega
  have hn := ye (by omega)
  rw [hn]
  clear hn no ye
  go_enter Tryz.func37, Tryz.ntmps37
  go_wp2
  go_ret
  exact ⟨rfl, rfl⟩
set_option maxRecDepth 20000 in
set_option maxHeartbeats 2000000 in
theorem pat_any (sd ac : Int) (i : Nat) (h : PA base W S A sl v0 v1 z s) (hi : idx A sd ac = some i) (hA : A ≤ 1000000) :
    Calls Tryz.prog 38 #[.pointer (some ⟨S, 0, none⟩), .int .i64 sd, .int .i64 ac] W fun e w' => e = .returned (.pointer (some ⟨(z i).N, 0, none⟩)) ∧ w' = W := by
  obtain ⟨A0, c0, rfl⟩ := own_form h.r0
  obtain ⟨A1, c1, rfl⟩ := own_form h.r1
  obtain ⟨B, cb, rfl⟩ := own_form h.rs
  obtain ⟨-, g, rfl, t0, t1⟩ := sl_at h.rs
  have q0 := cell_of_row W S 0 _ _ (0, 0) h.box
  have HR := Lib.hid (And.intro h.r0 h.r1)
  unfold idx at hi
  split at hi
  rotate_left
  · cases hi
  rename_i hc
  injection hi with hi
  obtain ⟨k, hk⟩ : ∃ k : Nat, ac = (k : Int) + 1 := ⟨(ac - 1).toNat, by omega⟩
  subst hk
  have hkA : k < A := by omega
  have hw1 : IntKind.i64.wrap (k : Int) = (k : Int) := by rw [IntKind.wrap_i64]; omega
  have e1 : ((k : Int) + 1 - 1) = (k : Int) := by omega
  have e2 : (0 : Int) ≤ (k : Int) := by omega
  have e3 : (k : Int) < (A : Int) := by omega
  rcases (show sd = 0 ∨ sd = 1 by omega) with rfl | rfl
  · obtain ⟨g0, rfl, -, -, hcl⟩ := own_cellG HR.out.1 k hkA (pptrs_at z 0 A k hkA)
    have ei : 0 + k = i := by rw [← hi]; simp; try omega
    rw [ei] at hcl
    clear h hi hc ei t1
    go_enter Tryz.func38, Tryz.ntmps38
    go_wp2
    go_ret
    exact ⟨rfl, rfl⟩
  · obtain ⟨g0, rfl, -, -, hcl⟩ := own_cellG HR.out.2 k hkA (pptrs_at z A A k hkA)
    have ei : A + k = i := by rw [← hi]; simp; try omega
    rw [ei] at hcl
    clear h hi hc ei t0
    go_enter Tryz.func38, Tryz.ntmps38
    go_wp2
    go_ret
    exact ⟨rfl, rfl⟩
end
end Go.Proofs.YtpkkomifenlkaaaGreat.Au
