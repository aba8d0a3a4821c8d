import Derived.Test.YtpkkomifenlkaaaGreatNumB
import Derived.Test.YtpkkomifenlkaaaGreatLocks
import Derived.Conc.MuLone
import Derived.Deep.DeepCutAuto
/- An allocator in memory: all its accounts' numbers; which are whose. -/
namespace Go.Proofs.YtpkkomifenlkaaaGreat.Au
open Go Go.RowKit Go.MuLone
set_option linter.unusedVariables false

/-- where an allocator lies: its block, how many accounts it has on a ledger, where each one's numbers lie (those of the ledger 1 behind those of the ledger 0) -/
structure Alo where
  S : Nat
  A : Nat
  b : Nat → Nb
def ptrs (b : Nat → Nb) (o n : Nat) : List Value := (List.range n).map fun i => .pointer (some ⟨(b (o + i)).N, 0, none⟩)
theorem ptrs_len (b : Nat → Nb) (o n : Nat) : (ptrs b o n).length = n := by simp [ptrs]
theorem ptrs_at (b : Nat → Nb) (o n i : Nat) (h : i < n) : (ptrs b o n)[i]? = some (.pointer (some ⟨(b (o + i)).N, 0, none⟩)) := by simp [ptrs, h]
theorem ptrs_succ (b : Nat → Nb) (o n : Nat) : ptrs b o (n + 1) = ptrs b o n ++ [.pointer (some ⟨(b (o + n)).N, 0, none⟩)] := by
  unfold ptrs; rw [List.range_succ, List.map_append]; rfl
/-- which numbers are there -/
def Val (A n0 n1 j : Nat) : Prop := j < n0 ∨ (A ≤ j ∧ j < A + n1)
def upd {α : Type} (f : Nat → α) (j : Nat) (x : α) : Nat → α := fun i => if i = j then x else f i
theorem upd_at {α : Type} {f : Nat → α} {j : Nat} {x : α} : upd f j x j = x := by simp [upd]
theorem upd_off {α : Type} {f : Nat → α} {i j : Nat} {x : α} (h : i ≠ j) : upd f j x i = f i := by simp [upd, h]
theorem upd_self {α : Type} {f : Nat → α} {j : Nat} : upd f j (f j) = f := by
  funext i; unfold upd; by_cases e : i = j
  · rw [if_pos e, e]
  · rw [if_neg e]
/-- an allocator, with so many accounts' numbers -/
structure AIs (base : Nat) (W : World) (y : Alo) (n0 n1 : Nat) (lk : Int) (v0 v1 : Value) (v : Nat → Value) (s : Nat → Nu) : Prop where
  box : W.heap[y.S]? = some (.cells #[.int .i32 lk, .int .u32 0, v0, v1] TAl (0, 0))
  low : base ≤ y.S
  r0 : W.ownsRow base TNp 1 v0 n0 (ptrs y.b 0 n0)
  r1 : W.ownsRow base TNp 1 v1 n1 (ptrs y.b y.A n1)
  n : n0 ≤ y.A
  it : ∀ i, Val y.A n0 n1 i → NIs base W (y.b i) (v i) (s i)
  ap : ∀ i j, Val y.A n0 n1 i → Val y.A n0 n1 j → i ≠ j → Apt (y.b i) (v i) (y.b j) (v j)
/-- block k is none of an allocator's numbers', nor its box -/
structure Fre (y : Alo) (n0 n1 : Nat) (v : Nat → Value) (k : Nat) : Prop where
  s : k ≠ y.S
  i : ∀ i, Val y.A n0 n1 i → Off (y.b i) (v i) k
/-- all but the allocator stands -/
structure AF (y : Alo) (n0 n1 : Nat) (v v' : Nat → Value) (w w' : World) : Prop where
  os : w'.os = w.os
  tape : w'.tape = w.tape
  output : w'.output = w.output
  size : w.heap.size ≤ w'.heap.size
  block : ∀ k, k < w.heap.size → Fre y n0 n1 v k → w'.heap[k]? = w.heap[k]?
  free : ∀ k, k < w.heap.size → Fre y n0 n1 v k → Fre y n0 n1 v' k
section
variable {base : Nat} {y : Alo} {n0 n1 : Nat} {lk : Int} {v0 v1 : Value} {v u x : Nat → Value} {s : Nat → Nu} {W V X : World}
theorem AF.refl : AF y n0 n1 v v W W := ⟨rfl, rfl, rfl, Nat.le_refl _, fun _ _ _ => rfl, fun _ _ h => h⟩
theorem AF.trans (h : AF y n0 n1 v u W V) (g : AF y n0 n1 u x V X) : AF y n0 n1 v x W X :=
  ⟨g.os.trans h.os, g.tape.trans h.tape, g.output.trans h.output, Nat.le_trans h.size g.size, fun k hk f => (g.block k (Nat.lt_of_lt_of_le hk h.size) (h.free k hk f)).trans (h.block k hk f), fun k hk f => g.free k (Nat.lt_of_lt_of_le hk h.size) (h.free k hk f)⟩
theorem AF.of_below (h : Below W.heap.size W V) : AF y n0 n1 v v W V := ⟨h.os, h.tape, h.output, h.size, fun k hk _ => h.block k hk, fun _ _ f => f⟩
theorem AF.of_setS (i : Nat) (a : Value) : AF y n0 n1 v v W (W.setCell ⟨y.S, i, none⟩ a) := ⟨rfl, rfl, rfl, by simp, fun k _ f => Below.heap_setCell _ _ _ _ f.s, fun _ _ f => f⟩
theorem AF.of_fn {j : Nat} {v' : Value} (h : FN (y.b j) (v j) v' W V) (hj : Val y.A n0 n1 j) : AF y n0 n1 v (upd v j v') W V := by
  refine ⟨h.os, h.tape, h.output, h.size, fun k hk f => h.block k hk (f.i j hj), fun k hk f => ⟨f.s, fun i hi => ?_⟩⟩
  by_cases e : i = j
  · subst e
    rw [upd_at]
    have o := f.i i hi
    refine ⟨o.n, o.h, o.b, fun e => ?_⟩
    rcases h.own with q | q
    · exact o.o (e.trans q)
    · have := q k e.symm; omega
  · rw [upd_off e]; exact f.i i hi
theorem AF.setNew {n : Nat} (h : AF y n0 n1 v u W V) (hn : W.heap.size ≤ n) (i : Nat) (a : Value) : AF y n0 n1 v u W (V.setCell ⟨n, i, none⟩ a) :=
  ⟨h.os, h.tape, h.output, by simpa using h.size, fun k hk f => (Below.heap_setCell _ _ _ _ (by show k ≠ n; omega)).trans (h.block k hk f), h.free⟩
theorem AF.set4 {R : Nat} (f : AF y n0 n1 v u W V) (hR : W.heap.size ≤ R) (a b c d : Value) : AF y n0 n1 v u W ((((V.setCell ⟨R, 0, none⟩ a).setCell ⟨R, 1, none⟩ b).setCell ⟨R, 2, none⟩ c).setCell ⟨R, 3, none⟩ d) :=
  (((f.setNew hR 0 a).setNew hR 1 b).setNew hR 2 c).setNew hR 3 d
theorem AIs.ltS (h : AIs base W y n0 n1 lk v0 v1 v s) : y.S < W.heap.size := ltO h.box
/-- all that is of an allocator stands -/
theorem AIs.still (h : AIs base W y n0 n1 lk v0 v1 v s) (hS : V.heap[y.S]? = W.heap[y.S]?) (h0 : ∀ k, v0.ownBlock = some k → V.heap[k]? = W.heap[k]?) (h1 : ∀ k, v1.ownBlock = some k → V.heap[k]? = W.heap[k]?) (hi : ∀ i, Val y.A n0 n1 i → NIs base V (y.b i) (v i) (s i)) : AIs base V y n0 n1 lk v0 v1 v s :=
  ⟨hS.trans h.box, h.low, own_same h.r0 h0, own_same h.r1 h1, h.n, hi, h.ap⟩
theorem AIs.below (h : AIs base W y n0 n1 lk v0 v1 v s) (hb : Below W.heap.size W V) : AIs base V y n0 n1 lk v0 v1 v s :=
  h.still (hb.block _ h.ltS) (fun k hk => hb.block _ (h.r0.lt k hk).2) (fun k hk => hb.block _ (h.r1.lt k hk).2) fun i hi => (h.it i hi).below hb
theorem AIs.drew (h : AIs base W y n0 n1 lk v0 v1 v s) : AIs base W.drew y n0 n1 lk v0 v1 v s := h.still rfl (fun _ _ => rfl) (fun _ _ => rfl) fun i hi => (h.it i hi).drew
theorem cells_ne {i j : Nat} {a c : Array Value} {T U : TypeId} {f f' : Nat × Nat} (h1 : W.heap[i]? = some (.cells a T f)) (h2 : W.heap[j]? = some (.cells c U f')) (h3 : T ≠ U) : i ≠ j := fun e => by
  rw [e, h2] at h1
  injection h1 with h1
  injection h1 with _ h1 _
  exact h3 h1.symm
theorem cells_map {i j : Nat} {a : Array Value} {T : TypeId} {f : Nat × Nat} {es : Array MapEntry} {cl : Nat} (h1 : W.heap[i]? = some (.cells a T f)) (h2 : W.heap[j]? = some (.map es cl)) : i ≠ j := fun e => by
  rw [e, h2] at h1
  injection h1 with h1
  cases h1
/-- a block of another type is none of an account's -/
theorem NIs.off_type {b : Nb} {w : Value} {t : Nu} (h : NIs base W b w t) {k : Nat} {a : Array Value} {T : TypeId} {f : Nat × Nat} (hk : W.heap[k]? = some (.cells a T f)) (h1 : T ≠ TNm) (h2 : T ≠ Gp.THp) (h3 : T ≠ Gp.TRn) : Off b w k := by
  obtain ⟨es, cl, hm⟩ := h.mapO
  refine ⟨cells_ne hk h.box h1, cells_ne hk (GH_box h.gh) h2, cells_map hk hm, fun e => ?_⟩
  obtain ⟨⟨cs, fr, q⟩, _⟩ := GH_own h.gh e.symm
  exact cells_ne hk q h3 rfl
theorem AIs.offS (h : AIs base W y n0 n1 lk v0 v1 v s) {i : Nat} (hi : Val y.A n0 n1 i) : Off (y.b i) (v i) y.S := (h.it i hi).off_type h.box (by decide) (by decide) (by decide)
theorem AIs.off0 (h : AIs base W y n0 n1 lk v0 v1 v s) {i : Nat} (hi : Val y.A n0 n1 i) {k : Nat} (hk : v0.ownBlock = some k) : Off (y.b i) (v i) k := by
  obtain ⟨cs, fr, q⟩ := own_at h.r0 hk
  exact (h.it i hi).off_type q (by decide) (by decide) (by decide)
theorem AIs.off1 (h : AIs base W y n0 n1 lk v0 v1 v s) {i : Nat} (hi : Val y.A n0 n1 i) {k : Nat} (hk : v1.ownBlock = some k) : Off (y.b i) (v i) k := by
  obtain ⟨cs, fr, q⟩ := own_at h.r1 hk
  exact (h.it i hi).off_type q (by decide) (by decide) (by decide)
theorem AIs.rowS (h : AIs base W y n0 n1 lk v0 v1 v s) : (∀ k, v0.ownBlock = some k → k ≠ y.S) ∧ ∀ k, v1.ownBlock = some k → k ≠ y.S := by
  refine ⟨fun k hk => ?_, fun k hk => ?_⟩
  · obtain ⟨cs, fr, q⟩ := own_at h.r0 hk
    exact cells_ne q h.box (by decide)
  · obtain ⟨cs, fr, q⟩ := own_at h.r1 hk
    exact cells_ne q h.box (by decide)
theorem AIs.lock (h : AIs base W y n0 n1 lk v0 v1 v s) (l : Int) : AIs base (W.setCell ⟨y.S, 0, none⟩ (.int .i32 l)) y n0 n1 l v0 v1 v s :=
  ⟨by simp [World.setCell, Array.getElem?_modify, h.box], h.low, own_same h.r0 fun k hk => Below.heap_setCell _ _ _ _ (h.rowS.1 k hk), own_same h.r1 fun k hk => Below.heap_setCell _ _ _ _ (h.rowS.2 k hk), h.n, fun i hi => (h.it i hi).setOff (h.offS hi), h.ap⟩
/-- one account's numbers turn -/
theorem AIs.turn (h : AIs base W y n0 n1 lk v0 v1 v s) {j : Nat} (hj : Val y.A n0 n1 j) {v' : Value} {s' : Nu} (hn : NIs base V (y.b j) v' s') (hf : FN (y.b j) (v j) v' W V) : AIs base V y n0 n1 lk v0 v1 (upd v j v') (upd s j s') := by
  refine ⟨(hf.block _ h.ltS (h.offS hj)).trans h.box, h.low, own_same h.r0 fun k hk => hf.block k (h.r0.lt k hk).2 (h.off0 hj hk), own_same h.r1 fun k hk => hf.block k (h.r1.lt k hk).2 (h.off1 hj hk), h.n, fun i hi => ?_, fun i k hi hk hne => ?_⟩
  · by_cases e : i = j
    · subst e
      rw [upd_at, upd_at]; exact hn
    · rw [upd_off e, upd_off e]
      exact (h.it i hi).other (h.it j hj) (h.ap j i hj hi (Ne.symm e)) hf
  · by_cases e : i = j
    · subst e
      rw [upd_at, upd_off (Ne.symm hne)]
      exact (h.ap i k hi hk hne).turn (h.it k hk) hf
    · by_cases e2 : k = j
      · subst e2
        rw [upd_at, upd_off e]
        exact ((h.ap k i hk hi (Ne.symm hne)).turn (h.it i hi) hf).symm
      · rw [upd_off e, upd_off e2]
        exact h.ap i k hi hk hne
/-- a cell of a block that is none of these is set -/
theorem AIs.setFre (h : AIs base W y n0 n1 lk v0 v1 v s) {k i : Nat} {a : Value} (f : Fre y n0 n1 v k) (h0 : some k ≠ v0.ownBlock) (h1 : some k ≠ v1.ownBlock) : AIs base (W.setCell ⟨k, i, none⟩ a) y n0 n1 lk v0 v1 v s :=
  h.still (Below.heap_setCell _ _ _ _ f.s.symm) (fun j hj => Below.heap_setCell _ _ _ _ fun e => h0 (by rw [show k = j from e.symm]; exact hj.symm)) (fun j hj => Below.heap_setCell _ _ _ _ fun e => h1 (by rw [show k = j from e.symm]; exact hj.symm)) fun j hj => (h.it j hj).setOff (f.i j hj)
theorem AIs.fre_new (h : AIs base W y n0 n1 lk v0 v1 v s) {k : Nat} (hk : W.heap.size ≤ k) : Fre y n0 n1 v k ∧ some k ≠ v0.ownBlock ∧ some k ≠ v1.ownBlock :=
  ⟨⟨by have := h.ltS; omega, fun i hi => (h.it i hi).off_new hk⟩, fun e => by have := (h.r0.lt k e.symm).2; omega, fun e => by have := (h.r1.lt k e.symm).2; omega⟩
theorem AIs.set4 (h : AIs base W y n0 n1 lk v0 v1 v s) {R : Nat} (f : Fre y n0 n1 v R ∧ some R ≠ v0.ownBlock ∧ some R ≠ v1.ownBlock) (a b c d : Value) : AIs base ((((W.setCell ⟨R, 0, none⟩ a).setCell ⟨R, 1, none⟩ b).setCell ⟨R, 2, none⟩ c).setCell ⟨R, 3, none⟩ d) y n0 n1 lk v0 v1 v s :=
  (((h.setFre f.1 f.2.1 f.2.2).setFre f.1 f.2.1 f.2.2).setFre f.1 f.2.1 f.2.2).setFre f.1 f.2.1 f.2.2
theorem AIs.cellS (h : AIs base W y n0 n1 lk v0 v1 v s) : W.cell? ⟨y.S, 0, none⟩ = some (.int .i32 lk) ∧ W.cell? ⟨y.S, 2, none⟩ = some v0 ∧ W.cell? ⟨y.S, 3, none⟩ = some v1 ∧ W.frozen? ⟨y.S, 0, none⟩ = false :=
  ⟨cell_of_row W y.S 0 _ _ (0, 0) h.box, cell_of_row W y.S 2 _ _ (0, 0) h.box, cell_of_row W y.S 3 _ _ (0, 0) h.box, by simp [World.frozen?, h.box]⟩
/-- what turns an allocator leaves alone what lies below it -/
theorem AF.below (f : AF y n0 n1 v u W V) (h : AIs base W y n0 n1 lk v0 v1 v s) : Below base W V :=
  ⟨f.os, f.tape, f.output, f.size, fun k hk => by
    have hS := h.ltS
    have hl := h.low
    refine f.block k (by omega) ⟨by omega, fun i hi => ⟨fun e => ?_, fun e => ?_, fun e => ?_, fun e => ?_⟩⟩
    · have := (h.it i hi).low.1; omega
    · have := GH_low (h.it i hi).gh; omega
    · have := (h.it i hi).low.2; omega
    · have := (GH_own (h.it i hi).gh e.symm).2; omega⟩
theorem own_cellG {V : World} {base n c e : Nat} {A : Option Addr} {xs : List Value} (h : V.ownsRow base e 1 (.slice A n c) n xs) (i : Nat) (hi : i < n) {u : Value} (hu : xs[i]? = some u) : ∃ g, A = some ⟨g, 0, none⟩ ∧ base ≤ g ∧ g < V.heap.size ∧ V.cell? ⟨g, i, none⟩ = some u := by
  rcases h.2 with ⟨h1, h2⟩ | ⟨g, cap, cur, hv, hg, hh, r⟩
  · omega
  · injection hv with hA _ _
    refine ⟨g, hA, hg, ltO hh, ?_⟩
    have hc := h.cells (g := g) (by rw [hA]; rfl) i u hu
    rw [show (⟨g, 0, none⟩ : Addr).add i = ⟨g, i, none⟩ by unfold Addr.add; split <;> simp_all] at hc
    exact hc
/-- the place of an account's numbers -/
def idx (A : Nat) (sd ac : Int) : Option Nat := if 0 ≤ sd ∧ sd ≤ 1 ∧ 1 ≤ ac ∧ ac ≤ (A : Int) then some (sd.toNat * A + (ac - 1).toNat) else none
def numV (y : Alo) : Option Nat → Value
  | none => .pointer none
  | some i => .pointer (some ⟨(y.b i).N, 0, none⟩)
theorem idx_val {A : Nat} {sd ac : Int} {i : Nat} (h : idx A sd ac = some i) : Val A A A i := by
  unfold idx at h
  split at h
  · rename_i hc
    injection h with h
    subst h
    rcases (show sd = 0 ∨ sd = 1 by omega) with rfl | rfl
    · left
      show (0 : Int).toNat * A + _ < A
      simp
      omega
    · right
      show A ≤ (1 : Int).toNat * A + _ ∧ _
      simp
      omega
  · cases h
set_option maxRecDepth 20000 in
set_option maxHeartbeats 2000000 in
theorem of_any (sd ac : Int) (h : AIs base W y y.A y.A lk v0 v1 v s) (hA : y.A ≤ 1000000) :
    Calls Tryz.prog 24 #[.pointer (some ⟨y.S, 0, none⟩), .int .i64 sd, .int .i64 ac] W fun e w' => e = .returned (numV y (idx y.A sd ac)) ∧ w' = W := by
  obtain ⟨A0, c0, rfl⟩ := own_form h.r0
  obtain ⟨A1, c1, rfl⟩ := own_form h.r1
  obtain ⟨-, q2, q3, -⟩ := h.cellS
  have HR := Lib.hid (And.intro h.r0 h.r1)
  obtain ⟨E, hE⟩ : ∃ E, E = numV y (idx y.A sd ac) := ⟨_, rfl⟩
  rw [← hE]
  have HE := Lib.hid hE
  have no : ¬(0 ≤ sd ∧ sd ≤ 1 ∧ 1 ≤ ac ∧ ac ≤ (y.A : Int)) → E = .pointer none := fun hc => by rw [hE]; unfold idx; rw [if_neg hc]; rfl
  clear h hE
  generalize y.A = m at *
  by_cases hs0 : sd < 0
  · have d1 : decide (sd < 0) = true := decide_eq_true hs0
    have hn := no (by omega)
    rw [hn]
    clear hn no HE
    go_enter Tryz.func24, Tryz.ntmps24
    go_wp2
    go_ret
    exact ⟨rfl, rfl⟩
  · by_cases hs2 : 2 ≤ sd
    · have d1 : decide (sd < 0) = false := decide_eq_false hs0
      have d2 : decide (2 ≤ sd) = true := decide_eq_true hs2
      have hn := no (by omega)
      rw [hn]
      clear hn no HE
      go_enter Tryz.func24, Tryz.ntmps24
      go_wp2
      go_ret
      exact ⟨rfl, rfl⟩
    · rcases (show sd = 0 ∨ sd = 1 by omega) with rfl | rfl
      · skip
        rcases Int.lt_or_le ac 1 with ha | ha
        · have d3 : decide (ac < 1) = true := decide_eq_true ha
          have hn := no (by omega)
          rw [hn]
          clear hn no HE
          go_enter Tryz.func24, Tryz.ntmps24
          go_wp2
          go_ret
          exact ⟨rfl, rfl⟩
        · rcases Int.lt_or_le (m : Int) ac with hb | hb
          · have d3 : decide (ac < 1) = false := decide_eq_false (by omega)
            have d4 : decide ((m : Int) < ac) = true := decide_eq_true hb
            have hn := no (by omega)
            rw [hn]
            clear hn no HE
            go_enter Tryz.func24, Tryz.ntmps24
            go_wp2
            go_ret
            exact ⟨rfl, rfl⟩
          · obtain ⟨i, hi⟩ : ∃ i : Nat, ac = (i : Int) + 1 := ⟨(ac - 1).toNat, by omega⟩
            subst hi
            have d3 : decide (((i : Int) + 1) < 1) = false := decide_eq_false (by omega)
            have d4 : decide ((m : Int) < (i : Int) + 1) = false := decide_eq_false (by omega)
            have him : i < m := by omega
            obtain ⟨g, rfl, -, -, hc⟩ := own_cellG HR.out.1 i him (ptrs_at y.b 0 m i him)
            have hEv : E = .pointer (some ⟨(y.b (0 + i)).N, 0, none⟩) := by
              rw [HE.out]; unfold idx; rw [if_pos (by omega)]
              show numV y (some ((0 : Int).toNat * m + ((i : Int) + 1 - 1).toNat)) = _
              rw [show (0 : Int).toNat * m + ((i : Int) + 1 - 1).toNat = 0 + i by simp; try omega]; rfl
            rw [hEv]
            have hw1 : IntKind.i64.wrap (i : Int) = (i : Int) := by rw [IntKind.wrap_i64]; omega
            have e1 : ((i : Int) + 1 - 1) = (i : Int) := by omega
            have e2 : (0 : Int) ≤ (i : Int) := by omega
            have e3 : (i : Int) < (m : Int) := by omega
            clear hEv no HE
            go_enter Tryz.func24, Tryz.ntmps24
            go_wp2
            go_ret
            exact ⟨rfl, rfl⟩
      · skip
        rcases Int.lt_or_le ac 1 with ha | ha
        · have d3 : decide (ac < 1) = true := decide_eq_true ha
          have hn := no (by omega)
          rw [hn]
          clear hn no HE
          go_enter Tryz.func24, Tryz.ntmps24
          go_wp2
          go_ret
          exact ⟨rfl, rfl⟩
        · rcases Int.lt_or_le (m : Int) ac with hb | hb
          · have d3 : decide (ac < 1) = false := decide_eq_false (by omega)
            have d4 : decide ((m : Int) < ac) = true := decide_eq_true hb
            have hn := no (by omega)
            rw [hn]
            clear hn no HE
            go_enter Tryz.func24, Tryz.ntmps24
            go_wp2
            go_ret
            exact ⟨rfl, rfl⟩
          · obtain ⟨i, hi⟩ : ∃ i : Nat, ac = (i : Int) + 1 := ⟨(ac - 1).toNat, by omega⟩
            subst hi
            have d3 : decide (((i : Int) + 1) < 1) = false := decide_eq_false (by omega)
            have d4 : decide ((m : Int) < (i : Int) + 1) = false := decide_eq_false (by omega)
            have him : i < m := by omega
            obtain ⟨g, rfl, -, -, hc⟩ := own_cellG HR.out.2 i him (ptrs_at y.b m m i him)
            have hEv : E = .pointer (some ⟨(y.b (m + i)).N, 0, none⟩) := by
              rw [HE.out]; unfold idx; rw [if_pos (by omega)]
              show numV y (some ((1 : Int).toNat * m + ((i : Int) + 1 - 1).toNat)) = _
              rw [show (1 : Int).toNat * m + ((i : Int) + 1 - 1).toNat = m + i by simp; try omega]; rfl
            rw [hEv]
            have hw1 : IntKind.i64.wrap (i : Int) = (i : Int) := by rw [IntKind.wrap_i64]; omega
            have e1 : ((i : Int) + 1 - 1) = (i : Int) := by omega
            have e2 : (0 : Int) ≤ (i : Int) := by omega
            have e3 : (i : Int) < (m : Int) := by omega
            clear hEv no HE
            go_enter Tryz.func24, Tryz.ntmps24
            go_wp2
            go_ret
            exact ⟨rfl, rfl⟩
end
end Go.Proofs.YtpkkomifenlkaaaGreat.Au
/- An allocator: what it is asked. -/
namespace Go.Proofs.YtpkkomifenlkaaaGreat.Au
open Go Go.RowKit Go.MuLone
set_option linter.unusedVariables false

section
variable {base : Nat} {y : Alo} {n0 n1 : Nat} {lk : Int} {v0 v1 : Value} {v u x : Nat → Value} {s : Nat → Nu} {W V X : World}
theorem rowIs_same {w w1 : World} {g : Nat} {ls : List (Int × Int)} (h : Gp.RowIs w g ls) (e : w1.heap[g]? = w.heap[g]?) : Gp.RowIs w1 g ls := by
  refine ⟨?_, fun i x hx => ⟨(World.cell?_of_block e).trans (h.2 i x hx).1, (World.cell?_of_block e).trans (h.2 i x hx).2⟩⟩
  have h1 := h.1
  rcases Nat.lt_or_ge g w1.heap.size with h2 | h2
  · exact h2
  · rw [Array.getElem?_eq_none h2, Array.getElem?_eq_getElem h1] at e
    cases e
/-- how it stands while it is asked: the answer's box O was made behind W -/
structure Ask (base : Nat) (W V : World) (y : Alo) (lk : Int) (v0 v1 : Value) (v : Nat → Value) (s : Nat → Nu) (O : Nat) (T : TypeId) (a : Value) : Prop where
  al : AIs base V y y.A y.A lk v0 v1 v s
  af : AF y y.A y.A v v W V
  o : V.heap[O]? = some (.cells #[a] T (0, 0))
  lo : W.heap.size ≤ O
  fr : Fre y y.A y.A v O ∧ some O ≠ v0.ownBlock ∧ some O ≠ v1.ownBlock
theorem Ask.lock {O T : Nat} {a : Value} (h : Ask base W V y lk v0 v1 v s O T a) (l : Int) : Ask base W (V.setCell ⟨y.S, 0, none⟩ (.int .i32 l)) y l v0 v1 v s O T a :=
  ⟨h.al.lock l, h.af.trans (AF.of_setS 0 _), (Below.heap_setCell _ _ _ _ h.fr.1.s).trans h.o, h.lo, h.fr⟩
theorem Ask.below {O T : Nat} {a : Value} (h : Ask base W V y lk v0 v1 v s O T a) (hb : Below V.heap.size V X) : Ask base W X y lk v0 v1 v s O T a :=
  ⟨h.al.below hb, h.af.trans (AF.of_below hb), (hb.block _ (ltO h.o)).trans h.o, h.lo, h.fr⟩
theorem Ask.set {O T : Nat} {a : Value} (h : Ask base W V y lk v0 v1 v s O T a) (c : Value) : Ask base W (V.setCell ⟨O, 0, none⟩ c) y lk v0 v1 v s O T c :=
  ⟨h.al.setFre h.fr.1 h.fr.2.1 h.fr.2.2, h.af.setNew h.lo 0 c, by simp [World.setCell, Array.getElem?_modify, h.o], h.lo, h.fr⟩
theorem Ask.start (h : AIs base W y y.A y.A lk v0 v1 v s) (T : TypeId) (a : Value) : Ask base W (W.alloc (.cells #[a] T)) y lk v0 v1 v s W.heap.size T a := by
  have hb : Below W.heap.size W (W.alloc (.cells #[a] T)) := (Below.refl _ _).alloc (Nat.le_refl _) _
  exact ⟨h.below hb, AF.of_below hb, heap_alloc_new W _, Nat.le_refl _, h.fre_new (Nat.le_refl _)⟩
theorem Ask.cell {O T : Nat} {a : Value} (h : Ask base W V y lk v0 v1 v s O T a) : V.cell? ⟨O, 0, none⟩ = some a ∧ V.frozen? ⟨O, 0, none⟩ = false :=
  ⟨cell_of_row V O 0 _ _ (0, 0) h.o, by simp [World.frozen?, h.o]⟩
set_option maxRecDepth 20000 in
theorem ask_none (sd ac : Int) (f : Value) {O T : Nat} {a : Value} (h : Ask base W V y 0 v0 v1 v s O T a) (hA : y.A ≤ 1000000) (hi : idx y.A sd ac = none) :
    Calls Tryz.prog 19 #[.pointer (some ⟨y.S, 0, none⟩), .int .i64 sd, .int .i64 ac, f] V fun e w' => e = .returned (.bool false) ∧ Ask base W w' y 0 v0 v1 v s O T a := by
  obtain ⟨c0, -, -, f0⟩ := h.al.cellS
  have H0 := Lib.hid h
  clear h
  go_enter_defers Tryz.func19, Tryz.ntmps19
  go_wp2_with fail
  refine (lock_free muLib ⟨y.S, 0, none⟩ _ c0 f0).mono ?_
  rintro _ w1 ⟨rfl, hw⟩
  have H1 : Hid (Ask base W w1 y 1 v0 v1 v s O T a) := Lib.hid (by rw [hw]; exact H0.out.lock 1)
  clear hw c0 f0 H0
  go_wp2_with fail
  refine (of_any sd ac H1.out.al hA).mono ?_
  rintro _ w2 ⟨rfl, rfl⟩
  rw [hi]
  unfold numV
  go_wp2
  refine leaves_cons (f := 23) (args := #[.pointer (some ⟨y.S, 0, none⟩)]) (by simp) (by simp [go_sem]) ?_
  refine (unlock_deferred muLib ⟨y.S, 0, none⟩ .returning _ H1.out.al.cellS.1 H1.out.al.cellS.2.2.2).mono ?_
  rintro _ u' w9 ⟨rfl, rfl, hw9⟩
  refine ⟨.bool false, ?_, rfl, by rw [hw9]; exact H1.out.lock 0⟩
  simp [results, Tryz.results19, go_sem]
set_option maxRecDepth 20000 in
theorem look_Epoch {i O T : Nat} {a : Value} (h : Ask base W V y lk v0 v1 v s O T a) (hv : Val y.A y.A y.A i) :
    Calls Tryz.prog 20 #[.pointer (some ⟨(y.b i).N, 0, none⟩), .pointer (some ⟨O, 0, none⟩)] V fun e w' => e = .returned (.tuple #[]) ∧ Ask base W w' y lk v0 v1 v s O T (.int .u64 (s i).ep) := by
  obtain ⟨p0, f0⟩ := h.cell
  obtain ⟨c0, c1, -⟩ := (h.al.it i hv).cells
  have H1 := Lib.hid (h.set (.int .u64 (s i).ep))
  clear h
  go_enter Tryz.func20, Tryz.ntmps20
  go_wp2
  exact bodyPost_end (results_none Tryz.results20 _ _ _) rfl ⟨rfl, H1.out⟩
set_option maxRecDepth 20000 in
theorem look_Next {i O T : Nat} {a : Value} (h : Ask base W V y lk v0 v1 v s O T a) (hv : Val y.A y.A y.A i) :
    Calls Tryz.prog 21 #[.pointer (some ⟨(y.b i).N, 0, none⟩), .pointer (some ⟨O, 0, none⟩)] V fun e w' => e = .returned (.tuple #[]) ∧ Ask base W w' y lk v0 v1 v s O T (.int .u64 (s i).nx) := by
  obtain ⟨p0, f0⟩ := h.cell
  obtain ⟨c0, c1, -⟩ := (h.al.it i hv).cells
  have H1 := Lib.hid (h.set (.int .u64 (s i).nx))
  clear h
  go_enter Tryz.func21, Tryz.ntmps21
  go_wp2
  exact bodyPost_end (results_none Tryz.results21 _ _ _) rfl ⟨rfl, H1.out⟩
set_option maxRecDepth 20000 in
theorem look_Free {i O T : Nat} {a : Value} (h : Ask base W V y lk v0 v1 v s O T a) (hv : Val y.A y.A y.A i) :
    Calls Tryz.prog 29 #[.pointer (some ⟨(y.b i).N, 0, none⟩), .pointer (some ⟨O, 0, none⟩)] V fun e w' => e = .returned (.tuple #[]) ∧ ∃ v2 ls, Ask base W w' y lk v0 v1 v s O T v2 ∧ Gp.RunsV W.heap.size v2 ls w' ∧ Gm.Srt ls ∧ (s i).L = Gm.expd ls := by
  obtain ⟨p0, f0⟩ := h.cell
  obtain ⟨-, -, c2, -⟩ := (h.al.it i hv).cells
  have HR := Lib.hid (Gp.grunsH base (y.b i).H (v i) (s i).L V (h.al.it i hv).gh)
  have H1 := Lib.hid h
  clear h p0 f0
  go_enter Tryz.func29, Tryz.ntmps29
  go_wp2_with fail
  refine HR.out.mono ?_
  rintro _ w1 ⟨v2, ls, rfl, hru, hs, hL, hb⟩
  have H2 := H1.out.below hb
  obtain ⟨p0, f0⟩ := H2.cell
  have hru2 : Gp.RunsV W.heap.size v2 ls (w1.setCell ⟨O, 0, none⟩ v2) := by
    rcases hru with hr | ⟨g, c, e1, e2, e3, e4⟩
    · exact Or.inl hr
    · have hO := ltO H1.out.o
      have hlo := H1.out.lo
      refine Or.inr ⟨g, c, e1, by omega, ?_, fun j => ?_⟩
      · have hbk : (w1.setCell ⟨O, 0, none⟩ v2).heap[g]? = w1.heap[g]? := Below.heap_setCell _ _ _ _ (by show g ≠ O; omega)
        exact rowIs_same e3 hbk
      · have hbk : (w1.setCell ⟨O, 0, none⟩ v2).heap[g]? = w1.heap[g]? := Below.heap_setCell _ _ _ _ (by show g ≠ O; omega)
        exact (World.frozen?_of_block hbk).trans (e4 j)
  have hform : ∃ A n c, v2 = .slice A n c := by
    rcases hru with ⟨e1, _⟩ | ⟨g, c, e1, _⟩
    · exact ⟨_, _, _, e1⟩
    · exact ⟨_, _, _, e1⟩
  obtain ⟨A, n, c, rfl⟩ := hform
  have H3 := Lib.hid (And.intro (H2.set (.slice A n c)) (And.intro hru2 (And.intro hs hL)))
  clear H2 hru hru2 hs hL hb HR
  go_wp2
  exact bodyPost_end (results_none Tryz.results29 _ _ _) rfl ⟨rfl, _, ls, H3.out⟩
set_option maxRecDepth 20000 in
theorem look_Held {Bw : Nat} {who : Int} {m : Nat} {i O T : Nat} {a : Value} (h : Ask base W V y lk v0 v1 v s O T a) (hv : Val y.A y.A y.A i) (hB : V.heap[Bw]? = some (.cells #[.int .i64 who] 3 (0, 0))) (hS : SortU m) (hm : (s i).M.length ≤ m) (hm9 : m ≤ 1000000) :
    Calls Tryz.prog 31 #[.pointer (some ⟨(y.b i).N, 0, none⟩), .pointer (some ⟨Bw, 0, none⟩), .pointer (some ⟨O, 0, none⟩)] V fun e w' => e = .returned (.tuple #[]) ∧ ∃ v2, Ask base W w' y lk v0 v1 v s O T v2 ∧ w'.ownsRow W.heap.size TU 1 v2 (hbs who (s i).M).length (uc (hbs who (s i).M)) := by
  obtain ⟨p0, f0⟩ := h.cell
  have b0 := cell_of_row V Bw 0 _ _ (0, 0) hB
  have HR := Lib.hid (held_any (h.al.it i hv) who m hS hm hm9)
  have H1 := Lib.hid h
  clear h p0 f0 hB hS hm hm9
  go_enter Tryz.func31, Tryz.ntmps31
  go_wp2_with fail
  refine HR.out.mono ?_
  rintro _ w1 ⟨v2, l, rfl, hro, hlp, hpw, hb⟩
  have H2 := H1.out.below hb
  obtain ⟨p0, f0⟩ := H2.cell
  have hO := ltO H1.out.o
  have hlo := H1.out.lo
  have hro2 : (w1.setCell ⟨O, 0, none⟩ v2).ownsRow W.heap.size TU 1 v2 l.length (uc l) := by
    have h1 := own_same hro (w1 := w1.setCell ⟨O, 0, none⟩ v2) fun k hk => Below.heap_setCell _ _ _ _ (by have := (hro.lt k hk).1; show k ≠ O; omega)
    refine ⟨h1.1, ?_⟩
    rcases h1.2 with q | ⟨g, cap, cur, q, hg, r⟩
    · exact Or.inl q
    · exact Or.inr ⟨g, cap, cur, q, by have := H1.out.af.size; omega, r⟩
  obtain ⟨A, c, rfl⟩ := own_form hro
  have hl : l = hbs who (s i).M := hbs_eq hlp hpw
  rw [hl] at hro2 ⊢
  have H3 := Lib.hid (And.intro (H2.set (.slice A (hbs who (s i).M).length c)) hro2)
  clear H2 hro2 hro hlp hpw hb HR hl
  go_wp2
  exact bodyPost_end (results_none Tryz.results31 _ _ _) rfl ⟨rfl, _, H3.out⟩
set_option maxRecDepth 20000 in
theorem ask_Epoch (sd ac : Int) {i O T : Nat} {a : Value} (h : Ask base W V y 0 v0 v1 v s O T a) (hA : y.A ≤ 1000000) (hi : idx y.A sd ac = some i) :
    Calls Tryz.prog 19 #[.pointer (some ⟨y.S, 0, none⟩), .int .i64 sd, .int .i64 ac, .func (.func 20) #[] #[.pointer (some ⟨O, 0, none⟩)]] V fun e w' => e = .returned (.bool true) ∧ Ask base W w' y 0 v0 v1 v s O T (.int .u64 (s i).ep) := by
  obtain ⟨c0, -, -, f0⟩ := h.al.cellS
  have hv := idx_val hi
  have H0 := Lib.hid h
  clear h
  go_enter_defers Tryz.func19, Tryz.ntmps19
  go_wp2_with fail
  refine (lock_free muLib ⟨y.S, 0, none⟩ _ c0 f0).mono ?_
  rintro _ w1 ⟨rfl, hw⟩
  have H1 : Hid (Ask base W w1 y 1 v0 v1 v s O T a) := Lib.hid (by rw [hw]; exact H0.out.lock 1)
  clear hw c0 f0
  go_wp2_with fail
  refine (of_any sd ac H1.out.al hA).mono ?_
  rintro _ w2 ⟨rfl, rfl⟩
  rw [hi]
  unfold numV
  go_wp2_with fail
  refine (look_Epoch H1.out hv).mono ?_
  rintro _ w3 ⟨rfl, hq⟩
  have H3 := Lib.hid hq
  clear hq
  go_wp2
  refine leaves_cons (f := 23) (args := #[.pointer (some ⟨y.S, 0, none⟩)]) (by simp) (by simp [go_sem]) ?_
  refine (unlock_deferred muLib ⟨y.S, 0, none⟩ .returning _ H3.out.al.cellS.1 H3.out.al.cellS.2.2.2).mono ?_
  rintro _ u' w9 ⟨rfl, rfl, hw9⟩
  refine ⟨.bool true, ?_, rfl, ?_⟩
  · simp [results, Tryz.results19, go_sem]
  · rw [hw9]; exact H3.out.lock 0
set_option maxRecDepth 20000 in
theorem ask_Next (sd ac : Int) {i O T : Nat} {a : Value} (h : Ask base W V y 0 v0 v1 v s O T a) (hA : y.A ≤ 1000000) (hi : idx y.A sd ac = some i) :
    Calls Tryz.prog 19 #[.pointer (some ⟨y.S, 0, none⟩), .int .i64 sd, .int .i64 ac, .func (.func 21) #[] #[.pointer (some ⟨O, 0, none⟩)]] V fun e w' => e = .returned (.bool true) ∧ Ask base W w' y 0 v0 v1 v s O T (.int .u64 (s i).nx) := by
  obtain ⟨c0, -, -, f0⟩ := h.al.cellS
  have hv := idx_val hi
  have H0 := Lib.hid h
  clear h
  go_enter_defers Tryz.func19, Tryz.ntmps19
  go_wp2_with fail
  refine (lock_free muLib ⟨y.S, 0, none⟩ _ c0 f0).mono ?_
  rintro _ w1 ⟨rfl, hw⟩
  have H1 : Hid (Ask base W w1 y 1 v0 v1 v s O T a) := Lib.hid (by rw [hw]; exact H0.out.lock 1)
  clear hw c0 f0
  go_wp2_with fail
  refine (of_any sd ac H1.out.al hA).mono ?_
  rintro _ w2 ⟨rfl, rfl⟩
  rw [hi]
  unfold numV
  go_wp2_with fail
  refine (look_Next H1.out hv).mono ?_
  rintro _ w3 ⟨rfl, hq⟩
  have H3 := Lib.hid hq
  clear hq
  go_wp2
  refine leaves_cons (f := 23) (args := #[.pointer (some ⟨y.S, 0, none⟩)]) (by simp) (by simp [go_sem]) ?_
  refine (unlock_deferred muLib ⟨y.S, 0, none⟩ .returning _ H3.out.al.cellS.1 H3.out.al.cellS.2.2.2).mono ?_
  rintro _ u' w9 ⟨rfl, rfl, hw9⟩
  refine ⟨.bool true, ?_, rfl, ?_⟩
  · simp [results, Tryz.results19, go_sem]
  · rw [hw9]; exact H3.out.lock 0
set_option maxRecDepth 20000 in
theorem ask_Free (sd ac : Int) {i O T : Nat} {a : Value} (h : Ask base W V y 0 v0 v1 v s O T a) (hA : y.A ≤ 1000000) (hi : idx y.A sd ac = some i) (hSl : y.S < W.heap.size) :
    Calls Tryz.prog 19 #[.pointer (some ⟨y.S, 0, none⟩), .int .i64 sd, .int .i64 ac, .func (.func 29) #[] #[.pointer (some ⟨O, 0, none⟩)]] V fun e w' => e = .returned (.bool true) ∧ ∃ v2 ls, Ask base W w' y 0 v0 v1 v s O T v2 ∧ Gp.RunsV W.heap.size v2 ls w' ∧ Gm.Srt ls ∧ (s i).L = Gm.expd ls := by
  obtain ⟨c0, -, -, f0⟩ := h.al.cellS
  have hv := idx_val hi
  have H5 := Lib.hid hSl
  have H0 := Lib.hid h
  clear h hSl
  go_enter_defers Tryz.func19, Tryz.ntmps19
  go_wp2_with fail
  refine (lock_free muLib ⟨y.S, 0, none⟩ _ c0 f0).mono ?_
  rintro _ w1 ⟨rfl, hw⟩
  have H1 : Hid (Ask base W w1 y 1 v0 v1 v s O T a) := Lib.hid (by rw [hw]; exact H0.out.lock 1)
  clear hw c0 f0
  go_wp2_with fail
  refine (of_any sd ac H1.out.al hA).mono ?_
  rintro _ w2 ⟨rfl, rfl⟩
  rw [hi]
  unfold numV
  go_wp2_with fail
  refine (look_Free H1.out hv).mono ?_
  rintro _ w3 ⟨rfl, hq⟩
  obtain ⟨v2, ls, hq1, hq2⟩ := hq
  have H3 := Lib.hid hq1
  have H4 := Lib.hid hq2
  clear hq1 hq2
  go_wp2
  refine leaves_cons (f := 23) (args := #[.pointer (some ⟨y.S, 0, none⟩)]) (by simp) (by simp [go_sem]) ?_
  refine (unlock_deferred muLib ⟨y.S, 0, none⟩ .returning _ H3.out.al.cellS.1 H3.out.al.cellS.2.2.2).mono ?_
  rintro _ u' w9 ⟨rfl, rfl, hw9⟩
  refine ⟨.bool true, ?_, rfl, ?_⟩
  · simp [results, Tryz.results19, go_sem]
  · refine ⟨v2, ls, by rw [hw9]; exact H3.out.lock 0, ?_, H4.out.2⟩
    rw [hw9]
    rcases H4.out.1 with hr | ⟨g, c, e1, e2, e3, e4⟩
    · exact Or.inl hr
    · have hbk : (w3.setCell ⟨y.S, 0, none⟩ (.int .i32 0)).heap[g]? = w3.heap[g]? := Below.heap_setCell _ _ _ _ (by have h1 := H3.out.lo; have h2 := H5.out; show g ≠ y.S; omega)
      exact Or.inr ⟨g, c, e1, e2, rowIs_same e3 hbk, fun j => (World.frozen?_of_block hbk).trans (e4 j)⟩
set_option maxRecDepth 20000 in
theorem ask_Held (sd ac : Int) (who : Int) {i O T : Nat} {a : Value} (h : Ask base W V y 0 v0 v1 v s O T a) (hA : y.A ≤ 1000000) (hi : idx y.A sd ac = some i) (hSl : y.S < W.heap.size) {Bw m : Nat} (hB : V.heap[Bw]? = some (.cells #[.int .i64 who] 3 (0, 0))) (hBS : Bw ≠ y.S) (hS : SortU m) (hm : (s i).M.length ≤ m) (hm9 : m ≤ 1000000) :
    Calls Tryz.prog 19 #[.pointer (some ⟨y.S, 0, none⟩), .int .i64 sd, .int .i64 ac, .func (.func 31) #[] #[.pointer (some ⟨Bw, 0, none⟩), .pointer (some ⟨O, 0, none⟩)]] V fun e w' => e = .returned (.bool true) ∧ ∃ v2, Ask base W w' y 0 v0 v1 v s O T v2 ∧ w'.ownsRow W.heap.size TU 1 v2 (hbs who (s i).M).length (uc (hbs who (s i).M)) := by
  obtain ⟨c0, -, -, f0⟩ := h.al.cellS
  have hv := idx_val hi
  have H0 := Lib.hid (And.intro h (And.intro hSl (And.intro (And.intro hB hBS) (And.intro hS (And.intro hm hm9)))))
  clear h hSl hB hBS hS hm hm9
  go_enter_defers Tryz.func19, Tryz.ntmps19
  go_wp2_with fail
  refine (lock_free muLib ⟨y.S, 0, none⟩ _ c0 f0).mono ?_
  rintro _ w1 ⟨rfl, hw⟩
  have H1 : Hid (Ask base W w1 y 1 v0 v1 v s O T a) := Lib.hid (by rw [hw]; exact H0.out.1.lock 1)
  have HB1 : Hid (w1.heap[Bw]? = some (.cells #[.int .i64 who] 3 (0, 0))) := Lib.hid (by rw [hw]; exact (Below.heap_setCell _ _ _ _ (by exact H0.out.2.2.1.2)).trans H0.out.2.2.1.1)
  clear hw c0 f0
  go_wp2_with fail
  refine (of_any sd ac H1.out.al hA).mono ?_
  rintro _ w2 ⟨rfl, rfl⟩
  rw [hi]
  unfold numV
  go_wp2_with fail
  refine (look_Held H1.out hv HB1.out H0.out.2.2.2.1 H0.out.2.2.2.2.1 H0.out.2.2.2.2.2).mono ?_
  rintro _ w3 ⟨rfl, hq⟩
  obtain ⟨v2, hq1, hq2⟩ := hq
  have H3 := Lib.hid hq1
  have H4 := Lib.hid hq2
  clear hq1 hq2
  go_wp2
  refine leaves_cons (f := 23) (args := #[.pointer (some ⟨y.S, 0, none⟩)]) (by simp) (by simp [go_sem]) ?_
  refine (unlock_deferred muLib ⟨y.S, 0, none⟩ .returning _ H3.out.al.cellS.1 H3.out.al.cellS.2.2.2).mono ?_
  rintro _ u' w9 ⟨rfl, rfl, hw9⟩
  refine ⟨.bool true, ?_, rfl, ?_⟩
  · simp [results, Tryz.results19, go_sem]
  · refine ⟨v2, by rw [hw9]; exact H3.out.lock 0, ?_⟩
    rw [hw9]
    exact own_same H4.out fun k hk => Below.heap_setCell _ _ _ _ (by have := (H4.out.lt k hk).1; have := H0.out.2.1; show k ≠ y.S; omega)
/-- what Epoch tells -/
def ansEpoch (s : Nat → Nu) : Option Nat → Value
  | none => .tuple #[.int .u64 0, .bool false]
  | some i => .tuple #[.int .u64 (s i).ep, .bool true]
set_option maxRecDepth 20000 in
theorem alEpoch (sd ac : Int) (h : AIs base W y y.A y.A 0 v0 v1 v s) (hA : y.A ≤ 1000000) :
    Calls Tryz.prog 6 #[.pointer (some ⟨y.S, 0, none⟩), .int .i64 sd, .int .i64 ac] W fun e w' => e = .returned (ansEpoch s (idx y.A sd ac)) ∧ AIs base w' y y.A y.A 0 v0 v1 v s ∧ AF y y.A y.A v v W w' := by
  have H0 := Ask.start h TU (.int .u64 0)
  obtain ⟨O, hO⟩ : ∃ O, O = W.heap.size := ⟨_, rfl⟩
  obtain ⟨w0, hw0⟩ : ∃ X, X = W.alloc (.cells #[.int .u64 0] TU) := ⟨_, rfl⟩
  rw [← hw0, ← hO] at H0
  have HX := Lib.hid H0
  clear h H0
  go_enter Tryz.func6, Tryz.ntmps6
  go_upto_region 2 with fail
  rw [← hw0, ← hO]
  clear hw0 hO
  cases hi : idx y.A sd ac with
  | none =>
    go_wp2_with fail
    refine (ask_none sd ac _ HX.out hA hi).mono ?_
    rintro _ w1 ⟨rfl, h1⟩
    obtain ⟨q0, -⟩ := h1.cell
    have H1 := Lib.hid (And.intro h1.al h1.af)
    clear h1
    go_wp2
    refine bodyPost_ret (v := .tuple #[.int .u64 0, .bool false]) (by simp [results, Tryz.results6, go_sem]) rfl ?_
    exact ⟨by rw [hi]; rfl, H1.out⟩
  | some i =>
    go_wp2_with fail
    refine (ask_Epoch sd ac HX.out hA hi).mono ?_
    rintro _ w1 ⟨rfl, h1⟩
    obtain ⟨q0, -⟩ := h1.cell
    have H1 := Lib.hid (And.intro h1.al h1.af)
    clear h1
    go_wp2
    refine bodyPost_ret (v := .tuple #[.int .u64 (s i).ep, .bool true]) (by simp [results, Tryz.results6, go_sem]) rfl ?_
    exact ⟨by rw [hi]; rfl, H1.out⟩
/-- what Next tells -/
def ansNext (s : Nat → Nu) : Option Nat → Value
  | none => .tuple #[.int .u64 0, .bool false]
  | some i => .tuple #[.int .u64 (s i).nx, .bool true]
set_option maxRecDepth 20000 in
theorem alNext (sd ac : Int) (h : AIs base W y y.A y.A 0 v0 v1 v s) (hA : y.A ≤ 1000000) :
    Calls Tryz.prog 7 #[.pointer (some ⟨y.S, 0, none⟩), .int .i64 sd, .int .i64 ac] W fun e w' => e = .returned (ansNext s (idx y.A sd ac)) ∧ AIs base w' y y.A y.A 0 v0 v1 v s ∧ AF y y.A y.A v v W w' := by
  have H0 := Ask.start h TU (.int .u64 0)
  obtain ⟨O, hO⟩ : ∃ O, O = W.heap.size := ⟨_, rfl⟩
  obtain ⟨w0, hw0⟩ : ∃ X, X = W.alloc (.cells #[.int .u64 0] TU) := ⟨_, rfl⟩
  rw [← hw0, ← hO] at H0
  have HX := Lib.hid H0
  clear h H0
  go_enter Tryz.func7, Tryz.ntmps7
  go_upto_region 2 with fail
  rw [← hw0, ← hO]
  clear hw0 hO
  cases hi : idx y.A sd ac with
  | none =>
    go_wp2_with fail
    refine (ask_none sd ac _ HX.out hA hi).mono ?_
    rintro _ w1 ⟨rfl, h1⟩
    obtain ⟨q0, -⟩ := h1.cell
    have H1 := Lib.hid (And.intro h1.al h1.af)
    clear h1
    go_wp2
    refine bodyPost_ret (v := .tuple #[.int .u64 0, .bool false]) (by simp [results, Tryz.results7, go_sem]) rfl ?_
    exact ⟨by rw [hi]; rfl, H1.out⟩
  | some i =>
    go_wp2_with fail
    refine (ask_Next sd ac HX.out hA hi).mono ?_
    rintro _ w1 ⟨rfl, h1⟩
    obtain ⟨q0, -⟩ := h1.cell
    have H1 := Lib.hid (And.intro h1.al h1.af)
    clear h1
    go_wp2
    refine bodyPost_ret (v := .tuple #[.int .u64 (s i).nx, .bool true]) (by simp [results, Tryz.results7, go_sem]) rfl ?_
    exact ⟨by rw [hi]; rfl, H1.out⟩
/-- what Free tells -/
def FreeV (base : Nat) (s : Nat → Nu) (w : World) : Option Nat → Value → Prop
  | none, v => v = .slice none 0 0
  | some i, v => ∃ ls, Gp.RunsV base v ls w ∧ Gm.Srt ls ∧ (s i).L = Gm.expd ls
set_option maxRecDepth 20000 in
theorem alFree (sd ac : Int) (h : AIs base W y y.A y.A 0 v0 v1 v s) (hA : y.A ≤ 1000000) :
    Calls Tryz.prog 9 #[.pointer (some ⟨y.S, 0, none⟩), .int .i64 sd, .int .i64 ac] W fun e w' => ∃ v2, e = .returned v2 ∧ FreeV W.heap.size s w' (idx y.A sd ac) v2 ∧ AIs base w' y y.A y.A 0 v0 v1 v s ∧ AF y y.A y.A v v W w' := by
  have H0 := Ask.start h 34 (.slice none 0 0)
  have hSl := Lib.hid h.ltS
  obtain ⟨O, hO⟩ : ∃ O, O = W.heap.size := ⟨_, rfl⟩
  obtain ⟨w0, hw0⟩ : ∃ X, X = W.alloc (.cells #[.slice none 0 0] 34) := ⟨_, rfl⟩
  rw [← hw0, ← hO] at H0
  have HX := Lib.hid H0
  clear h H0
  go_enter Tryz.func9, Tryz.ntmps9
  go_upto_region 2 with fail
  rw [← hw0, ← hO]
  clear hw0 hO
  cases hi : idx y.A sd ac with
  | none =>
    go_wp2_with fail
    refine (ask_none sd ac _ HX.out hA hi).mono ?_
    rintro _ w1 ⟨rfl, h1⟩
    obtain ⟨q0, -⟩ := h1.cell
    have H1 := Lib.hid (And.intro h1.al h1.af)
    clear h1
    go_wp2
    go_ret
    exact ⟨_, rfl, by rw [hi]; rfl, H1.out⟩
  | some i =>
    go_wp2_with fail
    refine (ask_Free sd ac HX.out hA hi hSl.out).mono ?_
    rintro _ w1 ⟨rfl, v2, ls, h1, h2⟩
    obtain ⟨q0, -⟩ := h1.cell
    have H1 := Lib.hid (And.intro (And.intro h1.al h1.af) h2)
    have hform : ∃ A n c, v2 = .slice A n c := by
      rcases h2.1 with ⟨e1, _⟩ | ⟨g, c, e1, _⟩
      · exact ⟨_, _, _, e1⟩
      · exact ⟨_, _, _, e1⟩
    obtain ⟨A, n, c, rfl⟩ := hform
    clear h1 h2
    go_wp2
    go_ret
    exact ⟨_, rfl, by rw [hi]; exact ⟨ls, H1.out.2⟩, H1.out.1⟩
/-- what Held tells -/
def heldL (s : Nat → Nu) (who : Int) : Option Nat → List Int
  | none => []
  | some i => hbs who (s i).M
set_option maxRecDepth 20000 in
theorem alHeld (sd ac who : Int) (h : AIs base W y y.A y.A 0 v0 v1 v s) (hA : y.A ≤ 1000000) (m : Nat) (hS : SortU m) (hm : ∀ i, Val y.A y.A y.A i → (s i).M.length ≤ m) (hm9 : m ≤ 1000000) :
    Calls Tryz.prog 10 #[.pointer (some ⟨y.S, 0, none⟩), .int .i64 sd, .int .i64 ac, .int .i64 who] W fun e w' => ∃ v2, e = .returned v2 ∧ w'.ownsRow W.heap.size TU 1 v2 (heldL s who (idx y.A sd ac)).length (uc (heldL s who (idx y.A sd ac))) ∧ AIs base w' y y.A y.A 0 v0 v1 v s ∧ AF y y.A y.A v v W w' := by
  have b0 : Below W.heap.size W (W.alloc (.cells #[.int .i64 who] 3)) := (Below.refl _ _).alloc (Nat.le_refl _) _
  have hbx := heap_alloc_new W (.cells #[.int .i64 who] 3)
  have hSl := Lib.hid h.ltS
  have H0 := Ask.start (h.below b0) 36 (.slice none 0 0)
  have H0' : Ask base W _ y 0 v0 v1 v s _ _ _ := ⟨H0.al, (AF.of_below b0).trans H0.af, H0.o, by have := H0.lo; simp at this ⊢, H0.fr⟩
  have hbx2 : ((W.alloc (.cells #[.int .i64 who] 3)).alloc (.cells #[.slice none 0 0] 36)).heap[W.heap.size]? = some (.cells #[.int .i64 who] 3 (0, 0)) := (Below.heap_alloc _ _ _ (by simp)).trans hbx
  obtain ⟨w0, hw0⟩ : ∃ X, X = (W.alloc (.cells #[.int .i64 who] 3)).alloc (.cells #[.slice none 0 0] 36) := ⟨_, rfl⟩
  have hsz : (W.alloc (.cells #[.int .i64 who] 3)).heap.size = W.heap.size + 1 := by simp
  rw [← hw0, hsz] at H0'
  rw [← hw0] at hbx2
  obtain ⟨O, hO⟩ : ∃ O, O = W.heap.size := ⟨_, rfl⟩
  rw [← hO] at H0' hbx2
  have hOS : O ≠ y.S := by have := hSl.out; omega
  have HX := Lib.hid (And.intro H0' (And.intro hbx2 (And.intro hOS (And.intro hS (And.intro hm hm9)))))
  clear h H0 H0' hbx hbx2 hsz b0 hS hm hm9 hOS
  go_enter Tryz.func10, Tryz.ntmps10
  go_upto_region 2 with fail
  rw [← hw0, ← hO]
  have HO := Lib.hid hO
  clear hw0 hO
  cases hi : idx y.A sd ac with
  | none =>
    go_wp2_with fail
    refine (ask_none sd ac _ HX.out.1 hA hi).mono ?_
    rintro _ w1 ⟨rfl, h1⟩
    obtain ⟨q0, -⟩ := h1.cell
    have H1 := Lib.hid (And.intro h1.al h1.af)
    clear h1
    go_wp2
    go_ret
    exact ⟨_, rfl, by rw [hi]; exact World.ownsRow_nil _ _ _ _, H1.out⟩
  | some i =>
    go_wp2_with fail
    refine (ask_Held sd ac who HX.out.1 hA hi hSl.out HX.out.2.1 HX.out.2.2.1 HX.out.2.2.2.1 (HX.out.2.2.2.2.1 i (idx_val hi)) HX.out.2.2.2.2.2).mono ?_
    rintro _ w1 ⟨rfl, v2, h1, h2⟩
    obtain ⟨q0, -⟩ := h1.cell
    obtain ⟨A, c, rfl⟩ := own_form h2
    have H1 := Lib.hid (And.intro (And.intro h1.al h1.af) h2)
    clear h1 h2
    go_wp2
    go_ret
    exact ⟨_, rfl, by rw [hi]; exact H1.out.2, H1.out.1⟩
end
end Go.Proofs.YtpkkomifenlkaaaGreat.Au
