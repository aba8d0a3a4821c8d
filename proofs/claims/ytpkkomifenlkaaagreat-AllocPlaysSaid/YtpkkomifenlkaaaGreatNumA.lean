import Derived.Test.YtpkkomifenlkaaaGreatCommon
import Derived.MapKept
import Derived.Test.YtpkkomifenlkaaaGreatGapC
import Derived.Test.YtpkkomifenlkaaaGreatGapClear
import Derived.Deep.RegionHeld3
import Derived.Deep.CutBlock
import Derived.Deep.DeepCutAuto
/- Maps from numbers to their holders: what the map's operations do. -/
namespace Go.Proofs.YtpkkomifenlkaaaGreat.Au
open Go Go.RowKit Go.MapKept

/-- an entry: a number, its holder; its stamp -/
abbrev Mu := (Int × Int) × Nat
def toU (x : Mu) : MapEntry := { key := .int .u64 x.1.1, val := .int .i64 x.1.2, born := x.2 }
/-- who holds a number -/
def lk (k : Int) : List (Int × Int) → Option Int
  | [] => none
  | x :: l => if k = x.1 then some x.2 else lk k l
/-- block B is a map that holds these, in the order in which they came -/
def MU (W : World) (B : Nat) (M : List (Int × Int)) : Prop := ∃ (l : List Mu) (clock : Nat), W.heap[B]? = some (.map (l.map toU).toArray clock) ∧ l.map (·.1) = M ∧ (∀ x ∈ l, x.2 < clock) ∧ (l.map (·.2)).Nodup
theorem MU.lt {W : World} {B : Nat} {M : List (Int × Int)} (h : MU W B M) : B < W.heap.size := by
  obtain ⟨l, clock, h1, _⟩ := h
  exact (Array.getElem?_eq_some_iff.1 h1).1
theorem MU.of_eq {W V : World} {B : Nat} {M : List (Int × Int)} (h : MU W B M) (e : V.heap[B]? = W.heap[B]?) : MU V B M := by
  obtain ⟨l, clock, h1, h2⟩ := h
  exact ⟨l, clock, e.trans h1, h2⟩
theorem MU.nil (W : World) : MU (W.alloc (.map #[] 0)) W.heap.size [] := ⟨[], 0, heap_alloc_new W _, rfl, by simp, by simp⟩
/-- where a number stands first -/
def atU (k : Int) : List Mu → Nat → Option (Nat × Value)
  | [], _ => none
  | x :: l, i => if k = x.1.1 then some (i, .int .i64 x.1.2) else atU k l (i + 1)
theorem now_run (k : Int) : ∀ (l : List Mu) (i : Nat), Instr.findNow (.int .u64) (.int .u64 k) (l.map toU) i = some (atU k l i)
  | [], _ => rfl
  | x :: l, i => by
    show Instr.findNow _ _ (toU x :: l.map toU) i = _
    unfold Instr.findNow atU
    by_cases h : k = x.1.1
    · simp [toU, Instr.sameNow, h]
    · have : (k == x.1.1) = false := by simpa using h
      simp only [toU, Instr.sameNow, if_true, this, h, if_false]
      exact now_run k l (i + 1)
theorem find_run (k : Int) (l : List Mu) (W : World) : (Instr.findKey 22 (.int .u64 k) (l.map toU)).run Tryz.prog W = .ok (atU k l 0) W :=
  run_findKey Tryz.underlying22 (now_run k l 0)
theorem check_u (em : Bool) (k : Int) (W : World) : (Instr.checkKey em 10000 22 (.int .u64 k)).run Tryz.prog W = .ok () W :=
  run_checkKey (d := .int .u64) Tryz.underlying22 (show IsKey (.int .u64) (.int .u64 k) from rfl) em 9999
theorem atU_lk (k : Int) : ∀ (l : List Mu) (i : Nat), (atU k l i).map (·.2) = (lk k (l.map (·.1))).map (fun v => .int .i64 v)
  | [], _ => rfl
  | x :: l, i => by
    unfold atU lk
    simp only [List.map_cons]
    by_cases h : k = x.1.1
    · simp [h]
    · simp only [h, if_false]; exact atU_lk k l (i + 1)
theorem atU_some {k : Int} : ∀ {l : List Mu} {i j : Nat} {v : Value}, atU k l i = some (j, v) → ∃ m, j = i + m ∧ m < l.length ∧ ((l.map (·.1.1)).Nodup → l.eraseIdx m = l.filter (fun x => !decide (x.1.1 = k)))
  | [], _, _, _, h => by cases h
  | x :: l, i, j, v, h => by
    unfold atU at h
    by_cases hk : k = x.1.1
    · rw [if_pos hk] at h
      injection h with h; injection h with h1 h2
      refine ⟨0, h1.symm, by simp, fun hn => ?_⟩
      rw [List.map_cons, List.nodup_cons] at hn
      rw [List.filter_cons, if_neg (by simp [hk])]
      show l = _
      rw [List.filter_eq_self.2]
      intro y hy
      simp only [Bool.not_eq_true', decide_eq_false_iff_not]
      intro e
      exact hn.1 (by rw [← hk, ← e]; exact List.mem_map_of_mem hy)
    · rw [if_neg hk] at h
      obtain ⟨m, h1, h2, h3⟩ := atU_some h
      refine ⟨m + 1, by omega, by simp; omega, fun hn => ?_⟩
      rw [List.map_cons, List.nodup_cons] at hn
      rw [List.filter_cons, if_pos (by simp; exact fun e => hk e.symm), ← h3 hn.2]
      rfl
theorem atU_none {k : Int} : ∀ {l : List Mu} {i : Nat}, atU k l i = none → ∀ x ∈ l, x.1.1 ≠ k
  | [], _, _, x, hx => by cases hx
  | y :: l, i, h, x, hx => by
    unfold atU at h
    by_cases hk : k = y.1.1
    · rw [if_pos hk] at h; cases h
    · rw [if_neg hk] at h
      rcases List.mem_cons.1 hx with rfl | hx
      · exact fun e => hk e.symm
      · exact atU_none h x hx
theorem lk_none {k : Int} : ∀ {M : List (Int × Int)}, lk k M = none ↔ ∀ x ∈ M, x.1 ≠ k
  | [] => by simp [lk]
  | y :: M => by
    unfold lk
    by_cases hk : k = y.1
    · simp [hk]
    · simp only [hk, if_false, List.mem_cons, forall_eq_or_imp]
      rw [lk_none]
      exact ⟨fun h => ⟨fun e => hk e.symm, h⟩, fun h => h.2⟩
theorem lk_some {k v : Int} : ∀ {M : List (Int × Int)}, lk k M = some v → (k, v) ∈ M
  | [], h => by cases h
  | y :: M, h => by
    unfold lk at h
    by_cases hk : k = y.1
    · rw [if_pos hk] at h; injection h with h; rw [hk, ← h]; simp
    · rw [if_neg hk] at h; exact List.mem_cons_of_mem _ (lk_some h)
/-- 'x, is := m[k]' -/
theorem look_run (k : Int) (B : Nat) (M : List (Int × Int)) (W : World) (h : MU W B M) :
    (Instr.lookup 57 (.map (some B)) (.int .u64 k) true).run Tryz.prog W = .ok (.tuple #[.int .i64 ((lk k M).getD 0), .bool (lk k M).isSome]) W := by
  obtain ⟨l, clock, h1, rfl, _⟩ := h
  have e := atU_lk k l 0
  unfold Instr.lookup
  simp only [Sem.run_bind, run_underlying Tryz.underlying57, Result.andThen_ok, MapKept.run_getObj_map h1, Sem.run_pure, check_u, find_run]
  cases hf : atU k l 0 with
  | none =>
    rw [hf] at e
    have e2 : lk k (l.map (·.1)) = none := by
      cases hl : lk k (l.map (·.1)) with
      | none => rfl
      | some v => rw [hl] at e; cases e
    rw [e2]
    simp [Result.andThen_ok, Tryz.zeroValue3]
  | some x =>
    obtain ⟨i, v⟩ := x
    rw [hf] at e
    cases hl : lk k (l.map (·.1)) with
    | none => rw [hl] at e; cases e
    | some y =>
      rw [hl] at e
      injection e with e
      simp only [Sem.run_bind, Sem.run_pure, Result.andThen_ok, if_true]
      rw [show v = .int .i64 y from e]
      simp
/-- only block B may have turned, and no block was made -/
structure OnB (B : Nat) (w w' : World) : Prop where
  os : w'.os = w.os
  tape : w'.tape = w.tape
  output : w'.output = w.output
  size : w'.heap.size = w.heap.size
  block : ∀ k, k ≠ B → w'.heap[k]? = w.heap[k]?
theorem onB_set (B : Nat) (w : World) (o : Obj) : OnB B w { w with heap := w.heap.setIfInBounds B o } :=
  ⟨rfl, rfl, rfl, by simp, fun k hk => by simp [Ne.symm hk]⟩
/-- 'm[k] = v' of a number that is not there -/
theorem put_run (k v : Int) (B : Nat) (M : List (Int × Int)) (W : World) (h : MU W B M) (hn : lk k M = none) :
    ∃ W', (Instr.mapUpdate 57 (.map (some B)) (.int .u64 k) (.int .i64 v)).run Tryz.prog W = .ok () W' ∧ MU W' B (M ++ [(k, v)]) ∧ OnB B W W' := by
  have hlt := h.lt
  obtain ⟨l, clock, h1, rfl, h3, h4⟩ := h
  have hf : atU k l 0 = none := by
    have e := atU_lk k l 0
    rw [hn] at e
    cases hf : atU k l 0 with
    | none => rfl
    | some x => rw [hf] at e; cases e
  refine ⟨{ W with heap := W.heap.setIfInBounds B (.map ((l ++ [((k, v), clock)]).map toU).toArray (clock + 1)) }, ?_, ⟨l ++ [((k, v), clock)], clock + 1, by simp [hlt], by simp, ?_, ?_⟩, onB_set B W _⟩
  · unfold Instr.mapUpdate
    simp only [Sem.run_bind, run_underlying Tryz.underlying57, Result.andThen_ok, MapKept.run_getObj_map h1, check_u, find_run, hf, MapKept.run_setObj_map _ h1]
    simp [toU]
  · intro x hx
    rcases List.mem_append.1 hx with hx | hx
    · exact Nat.lt_succ_of_lt (h3 x hx)
    · rw [List.mem_singleton] at hx; subst hx; exact Nat.lt_succ_self _
  · rw [List.map_append, List.nodup_append]
    refine ⟨h4, by simp, fun a ha b hb => ?_⟩
    obtain ⟨x, hx, rfl⟩ := List.mem_map.1 ha
    simp only [List.map_cons, List.map_nil, List.mem_singleton] at hb
    subst hb
    exact Nat.ne_of_lt (h3 x hx)
theorem map_erase {α β : Type} (f : α → β) : ∀ (l : List α) (i : Nat), (l.map f).eraseIdx i = (l.eraseIdx i).map f
  | [], _ => rfl
  | _ :: _, 0 => rfl
  | x :: l, i + 1 => by
    show f x :: (l.map f).eraseIdx i = f x :: (l.eraseIdx i).map f
    rw [map_erase f l i]
/-- what is held behind 'delete(m, k)' -/
def dl (k : Int) (M : List (Int × Int)) : List (Int × Int) := M.filter fun x => !decide (x.1 = k)
theorem del_run (k : Int) (B : Nat) (M : List (Int × Int)) (ty : TypeId) (W : World) (h : MU W B M) (hn : (M.map (·.1)).Nodup) :
    ∃ W', (Builtin.delete_ #[57, 22] ty #[.map (some B), .int .u64 k]).run Tryz.prog W = .ok (.tuple #[]) W' ∧ MU W' B (dl k M) ∧ OnB B W W' := by
  have hlt := h.lt
  obtain ⟨l, clock, h1, rfl, h3, h4⟩ := h
  have hn' : (l.map (·.1.1)).Nodup := by rw [List.map_map] at hn; exact hn
  have hd : dl k (l.map (·.1)) = (l.filter (fun x => !decide (x.1.1 = k))).map (·.1) := by
    unfold dl
    rw [List.filter_map]
    rfl
  refine ⟨{ W with heap := W.heap.setIfInBounds B (.map ((l.filter (fun x => !decide (x.1.1 = k))).map toU).toArray clock) }, ?_, ⟨l.filter (fun x => !decide (x.1.1 = k)), clock, by simp [hlt], hd.symm, fun x hx => h3 x (List.mem_filter.1 hx).1, ?_⟩, onB_set B W _⟩
  · unfold Builtin.delete_
    simp only [Sem.run_bind, List.getElem?_toArray, List.getElem?_cons_zero, List.getElem?_cons_succ, run_underlying Tryz.underlying57, Result.andThen_ok, MapKept.run_getObj_map h1, check_u, find_run]
    cases hf : atU k l 0 with
    | none =>
      have e : l.filter (fun x => !decide (x.1.1 = k)) = l := List.filter_eq_self.2 fun x hx => by simpa using atU_none hf x hx
      simp only [Sem.run_bind, MapKept.run_setObj_map _ h1, Result.andThen_ok, e]
      rfl
    | some x =>
      obtain ⟨i, v⟩ := x
      obtain ⟨m, e1, e2, e3⟩ := atU_some hf
      have hi : i < l.length := by omega
      have he : (l.map toU).toArray.eraseIdxIfInBounds i = ((l.filter (fun x => !decide (x.1.1 = k))).map toU).toArray := by
        unfold Array.eraseIdxIfInBounds
        rw [dif_pos (by simpa using hi)]
        apply Array.toList_inj.1
        have e4 : i = m := by omega
        subst e4
        rw [← e3 hn']
        simp [map_erase]
      simp only [Sem.run_bind, MapKept.run_setObj_map _ h1, Result.andThen_ok, he]
      rfl
  · exact ((List.filter_sublist).map _).nodup h4
theorem clear_run (B : Nat) (M : List (Int × Int)) (ty : TypeId) (W : World) (h : MU W B M) :
    ∃ W', (Builtin.clear_ #[57] ty #[.map (some B)]).run Tryz.prog W = .ok (.tuple #[]) W' ∧ MU W' B [] ∧ OnB B W W' := by
  have hlt := h.lt
  obtain ⟨l, clock, h1, rfl, h3, h4⟩ := h
  refine ⟨{ W with heap := W.heap.setIfInBounds B (.map #[] clock) }, ?_, ⟨[], clock, by simp [hlt], rfl, by simp, by simp⟩, onB_set B W _⟩
  unfold Builtin.clear_
  simp only [Sem.run_bind, List.getElem?_toArray, List.getElem?_cons_zero, run_underlying Tryz.underlying57, Result.andThen_ok, MapKept.run_getObj_map h1, MapKept.run_setObj_map _ h1]
  rfl
end Go.Proofs.YtpkkomifenlkaaaGreat.Au
/- An account's numbers in memory, and what turning them leaves alone. -/
namespace Go.Proofs.YtpkkomifenlkaaaGreat.Au
open Go Go.RowKit
set_option linter.unusedVariables false

abbrev TAl : Nat := 71
abbrev TNm : Nat := 59
abbrev TNp : Nat := 55
theorem ltO {w : World} {g : Nat} {o : Obj} (h : w.heap[g]? = some o) : g < w.heap.size := (Array.getElem?_eq_some_iff.1 h).1
/-- where an account's numbers lie -/
structure Nb where
  N : Nat
  H : Nat
  B : Nat
/-- what they are: the epoch, the next number, those that were given back, those that are held and by whom -/
structure Nu where
  ep : Int
  nx : Int
  L : List Int
  M : List (Int × Int)
theorem own_at {w : World} {base e n size k : Nat} {v : Value} {xs : List Value} (h : w.ownsRow base e size v n xs) (hk : v.ownBlock = some k) : ∃ cs fr, w.heap[k]? = some (.cells cs e fr) := by
  rcases h.2 with ⟨h2, -⟩ | ⟨g, cap, cur, hv, hg, hh, r⟩
  · rw [h2] at hk; cases hk
  · rw [hv] at hk
    have : g = k := by injection hk
    exact ⟨_, _, this ▸ hh⟩
theorem own_same {w w1 : World} {base n e size : Nat} {v : Value} {xs : List Value} (h : w.ownsRow base e size v n xs) (hb : ∀ k, v.ownBlock = some k → w1.heap[k]? = w.heap[k]?) : w1.ownsRow base e size v n xs := by
  refine ⟨h.1, ?_⟩
  rcases h.2 with h2 | ⟨g, cap, cur, hv, hg, hh, r⟩
  · exact Or.inl h2
  · exact Or.inr ⟨g, cap, cur, hv, hg, (hb g (by rw [hv]; rfl)).trans hh, r⟩
theorem GH_still {B HH : Nat} {W V : World} {v : Value} {L : List Int} (h : Gp.GH B W HH v L) (e1 : V.heap[HH]? = W.heap[HH]?) (e2 : ∀ k, v.ownBlock = some k → V.heap[k]? = W.heap[k]?) : Gp.GH B V HH v L := by
  obtain ⟨l, h1, h2, h3⟩ := h.ex
  exact ⟨⟨l, ⟨e1.trans h1.box, h1.low, own_same h1.row e2, h1.few⟩, h2, h3⟩, h.few⟩
theorem GH_box {B HH : Nat} {W : World} {v : Value} {L : List Int} (h : Gp.GH B W HH v L) : W.heap[HH]? = some (.cells #[v] Gp.THp (0, 0)) := by
  obtain ⟨l, h1, h2, h3⟩ := h.ex
  exact h1.box
theorem GH_low {B HH : Nat} {W : World} {v : Value} {L : List Int} (h : Gp.GH B W HH v L) : B ≤ HH := by
  obtain ⟨l, h1, h2, h3⟩ := h.ex
  exact h1.low
theorem GH_own {B HH k : Nat} {W : World} {v : Value} {L : List Int} (h : Gp.GH B W HH v L) (hk : v.ownBlock = some k) : (∃ cs fr, W.heap[k]? = some (.cells cs Gp.TRn fr)) ∧ B ≤ k := by
  obtain ⟨l, h1, h2, h3⟩ := h.ex
  exact ⟨own_at h1.row hk, (h1.row.lt k hk).1⟩
/-- an account's numbers: nothing of them lies below block base -/
structure NIs (base : Nat) (W : World) (b : Nb) (v : Value) (s : Nu) : Prop where
  box : W.heap[b.N]? = some (.cells #[.int .u64 s.ep, .int .u64 s.nx, .pointer (some ⟨b.H, 0, none⟩), .map (some b.B)] TNm (0, 0))
  low : base ≤ b.N ∧ base ≤ b.B
  gh : Gp.GH base W b.H v s.L
  map : MU W b.B s.M
/-- block k is none of these -/
structure Off (b : Nb) (v : Value) (k : Nat) : Prop where
  n : k ≠ b.N
  h : k ≠ b.H
  b : k ≠ b.B
  o : some k ≠ v.ownBlock
/-- all but these numbers stands; their row is the same, or new -/
structure FN (b : Nb) (v v' : Value) (w w' : World) : Prop where
  os : w'.os = w.os
  tape : w'.tape = w.tape
  output : w'.output = w.output
  size : w.heap.size ≤ w'.heap.size
  block : ∀ k, k < w.heap.size → Off b v k → w'.heap[k]? = w.heap[k]?
  own : v'.ownBlock = v.ownBlock ∨ ∀ k, v'.ownBlock = some k → w.heap.size ≤ k
section
variable {base : Nat} {b : Nb} {v v1 v2 : Value} {s : Nu} {W V X : World}
theorem FN.refl : FN b v v W W := ⟨rfl, rfl, rfl, Nat.le_refl _, fun _ _ _ => rfl, Or.inl rfl⟩
theorem FN.trans (h : FN b v v1 W V) (g : FN b v1 v2 V X) : FN b v v2 W X := by
  refine ⟨g.os.trans h.os, g.tape.trans h.tape, g.output.trans h.output, Nat.le_trans h.size g.size, fun k hk o => ?_, ?_⟩
  · refine (g.block k (Nat.lt_of_lt_of_le hk h.size) ⟨o.n, o.h, o.b, fun e => ?_⟩).trans (h.block k hk o)
    rcases h.own with ho | ho
    · exact o.o (e.trans ho)
    · have := ho k e.symm; omega
  · rcases g.own with go | go
    · rcases h.own with ho | ho
      · exact Or.inl (go.trans ho)
      · exact Or.inr fun k hk => ho k (go.symm.trans hk)
    · exact Or.inr fun k hk => Nat.le_trans h.size (go k hk)
theorem FN.of_below (h : Below W.heap.size W V) : FN b v v W V := ⟨h.os, h.tape, h.output, h.size, fun k hk _ => h.block k hk, Or.inl rfl⟩
theorem FN.of_fr (h : Gp.Fr b.H v v1 W V) : FN b v v1 W V := ⟨h.os, h.tape, h.output, h.size, fun k hk o => h.block k hk o.h o.o, h.own⟩
theorem FN.of_onB (h : OnB b.B W V) : FN b v v W V := ⟨h.os, h.tape, h.output, by rw [h.size]; exact Nat.le_refl _, fun k hk o => h.block k o.b, Or.inl rfl⟩
theorem FN.of_setN (i : Nat) (x : Value) : FN b v v W (W.setCell ⟨b.N, i, none⟩ x) := ⟨rfl, rfl, rfl, by simp, fun k hk o => Below.heap_setCell _ _ _ _ o.n, Or.inl rfl⟩
theorem FN.alloc (h : FN b v v1 W V) (o : Obj) : FN b v v1 W (V.alloc o) :=
  ⟨h.os, h.tape, h.output, Nat.le_trans h.size (by simp), fun k hk f => (Below.heap_alloc _ _ _ (Nat.lt_of_lt_of_le hk h.size)).trans (h.block k hk f), h.own⟩
theorem FN.drew (h : FN b v v1 W V) : FN b v v1 W V.drew := ⟨h.os, h.tape, h.output, h.size, h.block, h.own⟩
/-- a cell of a block that is new is set -/
theorem FN.setNew {n : Nat} (h : FN b v v1 W V) (hn : W.heap.size ≤ n) (i : Nat) (x : Value) : FN b v v1 W (V.setCell ⟨n, i, none⟩ x) :=
  ⟨h.os, h.tape, h.output, by simpa using h.size, fun k hk f => (Below.heap_setCell _ _ _ _ (by show k ≠ n; omega)).trans (h.block k hk f), h.own⟩
theorem FN.setRow {n : Nat} (h : FN b v v1 W V) (hn : W.heap.size ≤ n) (cs : Array Value) : FN b v v1 W (V.setRow n cs) :=
  ⟨h.os, h.tape, h.output, by simpa using h.size, fun k hk f => (setRow_other V n k cs (by omega)).trans (h.block k hk f), h.own⟩
theorem NIs.lt (h : NIs base W b v s) : b.N < W.heap.size ∧ b.H < W.heap.size ∧ b.B < W.heap.size ∧ ∀ k, v.ownBlock = some k → k < W.heap.size :=
  ⟨ltO h.box, h.gh.lt, h.map.lt, h.gh.ownLt⟩
theorem NIs.mapO (h : NIs base W b v s) : ∃ es c, W.heap[b.B]? = some (.map es c) := by
  obtain ⟨l, c, h1, _⟩ := h.map
  exact ⟨_, _, h1⟩
/-- all that is of an account stands -/
theorem NIs.still (h : NIs base W b v s) (h1 : V.heap[b.N]? = W.heap[b.N]?) (h2 : V.heap[b.H]? = W.heap[b.H]?) (h3 : V.heap[b.B]? = W.heap[b.B]?) (h4 : ∀ k, v.ownBlock = some k → V.heap[k]? = W.heap[k]?) : NIs base V b v s :=
  ⟨h1.trans h.box, h.low, GH_still h.gh h2 h4, h.map.of_eq h3⟩
theorem NIs.below (h : NIs base W b v s) (hb : Below W.heap.size W V) : NIs base V b v s :=
  h.still (hb.block _ h.lt.1) (hb.block _ h.lt.2.1) (hb.block _ h.lt.2.2.1) fun k hk => hb.block _ (h.lt.2.2.2 k hk)
theorem NIs.alloc (h : NIs base W b v s) (o : Obj) : NIs base (W.alloc o) b v s := h.below ((Below.refl _ _).alloc (Nat.le_refl _) o)
theorem NIs.nb (h : NIs base W b v s) : b.N ≠ b.B := fun e => by
  obtain ⟨es, c, hm⟩ := h.mapO
  have := h.box
  rw [e, hm] at this
  injection this with this
  cases this
theorem NIs.hb (h : NIs base W b v s) : b.H ≠ b.B := fun e => by
  obtain ⟨es, c, hm⟩ := h.mapO
  have := GH_box h.gh
  rw [e, hm] at this
  injection this with this
  cases this
theorem NIs.nh (h : NIs base W b v s) : b.N ≠ b.H := fun e => by
  have h1 := h.box
  rw [e, GH_box h.gh] at h1
  injection h1 with h1
  injection h1 with _ h1 _
  exact absurd h1 (by decide)
theorem NIs.on (h : NIs base W b v s) {k : Nat} (hk : v.ownBlock = some k) : k ≠ b.N ∧ k ≠ b.H ∧ k ≠ b.B := by
  obtain ⟨⟨cs, fr, e⟩, _⟩ := GH_own h.gh hk
  refine ⟨fun x => ?_, fun x => ?_, fun x => ?_⟩
  · rw [x, h.box] at e
    injection e with e
    injection e with _ e _
    exact absurd e (by decide)
  · rw [x, GH_box h.gh] at e
    injection e with e
    injection e with _ e _
    exact absurd e (by decide)
  · obtain ⟨es, c, hm⟩ := h.mapO
    rw [x, hm] at e
    injection e with e
    cases e
/-- the map turns -/
theorem NIs.onB (h : NIs base W b v s) {M : List (Int × Int)} (hm : MU V b.B M) (ho : OnB b.B W V) : NIs base V b v ⟨s.ep, s.nx, s.L, M⟩ :=
  ⟨(ho.block _ h.nb).trans h.box, h.low, GH_still h.gh (ho.block _ h.hb) fun k hk => ho.block _ (h.on hk).2.2, hm⟩
/-- the heap turns -/
theorem NIs.onH (h : NIs base W b v s) {L : List Int} (hg : Gp.GH base V b.H v1 L) (ho : Gp.Fr b.H v v1 W V) : NIs base V b v1 ⟨s.ep, s.nx, L, s.M⟩ :=
  ⟨(ho.block _ h.lt.1 h.nh fun e => (h.on e.symm).1 rfl).trans h.box, h.low, hg, h.map.of_eq (ho.block _ h.lt.2.2.1 h.hb.symm fun e => (h.on e.symm).2.2 rfl)⟩
theorem NIs.setE (h : NIs base W b v s) (x : Int) : NIs base (W.setCell ⟨b.N, 0, none⟩ (.int .u64 x)) b v ⟨x, s.nx, s.L, s.M⟩ :=
  ⟨by simp [World.setCell, Array.getElem?_modify, h.box], h.low, GH_still h.gh (Below.heap_setCell _ _ _ _ h.nh.symm) fun k hk => Below.heap_setCell _ _ _ _ (h.on hk).1, h.map.of_eq (Below.heap_setCell _ _ _ _ h.nb.symm)⟩
theorem NIs.setX (h : NIs base W b v s) (x : Int) : NIs base (W.setCell ⟨b.N, 1, none⟩ (.int .u64 x)) b v ⟨s.ep, x, s.L, s.M⟩ :=
  ⟨by simp [World.setCell, Array.getElem?_modify, h.box], h.low, GH_still h.gh (Below.heap_setCell _ _ _ _ h.nh.symm) fun k hk => Below.heap_setCell _ _ _ _ (h.on hk).1, h.map.of_eq (Below.heap_setCell _ _ _ _ h.nb.symm)⟩
theorem NIs.cells (h : NIs base W b v s) : W.cell? ⟨b.N, 0, none⟩ = some (.int .u64 s.ep) ∧ W.cell? ⟨b.N, 1, none⟩ = some (.int .u64 s.nx) ∧ W.cell? ⟨b.N, 2, none⟩ = some (.pointer (some ⟨b.H, 0, none⟩)) ∧ W.cell? ⟨b.N, 3, none⟩ = some (.map (some b.B)) ∧ W.frozen? ⟨b.N, 0, none⟩ = false ∧ W.frozen? ⟨b.N, 1, none⟩ = false :=
  ⟨cell_of_row W b.N 0 _ _ (0, 0) h.box, cell_of_row W b.N 1 _ _ (0, 0) h.box, cell_of_row W b.N 2 _ _ (0, 0) h.box, cell_of_row W b.N 3 _ _ (0, 0) h.box, by simp [World.frozen?, h.box], by simp [World.frozen?, h.box]⟩
/-- a cell of a block that is none of these is set -/
theorem NIs.setOff (h : NIs base W b v s) {n i : Nat} {x : Value} (o : Off b v n) : NIs base (W.setCell ⟨n, i, none⟩ x) b v s :=
  h.still (Below.heap_setCell _ _ _ _ o.n.symm) (Below.heap_setCell _ _ _ _ o.h.symm) (Below.heap_setCell _ _ _ _ o.b.symm) fun k hk => Below.heap_setCell _ _ _ _ fun e => o.o (by rw [show n = k from e.symm]; exact hk.symm)
theorem NIs.off_new (h : NIs base W b v s) {n : Nat} (hn : W.heap.size ≤ n) : Off b v n :=
  ⟨by have := h.lt.1; omega, by have := h.lt.2.1; omega, by have := h.lt.2.2.1; omega, fun e => by have := h.lt.2.2.2 n e.symm; omega⟩
/-- what turns numbers leaves alone what lies below them -/
theorem FN.below (f : FN b v v1 W V) (h : NIs base W b v s) : Below base W V :=
  ⟨f.os, f.tape, f.output, f.size, fun k hk => by
    by_cases hl : k < W.heap.size
    · refine f.block k hl ⟨fun e => ?_, fun e => ?_, fun e => ?_, fun e => ?_⟩
      · have := h.low.1; omega
      · have := GH_low h.gh; omega
      · have := h.low.2; omega
      · have := (GH_own h.gh e.symm).2; omega
    · have := h.lt.1; have := h.low.1; omega⟩
/-- two accounts' numbers lie apart -/
structure Apt (b : Nb) (v : Value) (c : Nb) (u : Value) : Prop where
  n : b.N ≠ c.N
  h : b.H ≠ c.H
  b : b.B ≠ c.B
  o : ∀ k, v.ownBlock = some k → u.ownBlock ≠ some k
theorem Apt.symm {c : Nb} {u : Value} (h : Apt b v c u) : Apt c u b v := ⟨h.n.symm, h.h.symm, h.b.symm, fun k h1 h2 => h.o k h2 h1⟩
theorem NIs.off_apt {c : Nb} {u : Value} {t : Nu} {base' : Nat} (h : NIs base W b v s) (g : NIs base' W c u t) (a : Apt b v c u) : Off b v c.N ∧ Off b v c.H ∧ Off b v c.B ∧ ∀ k, u.ownBlock = some k → Off b v k := by
  have tN := h.box
  have tH := GH_box h.gh
  obtain ⟨es, cl, tB⟩ := h.mapO
  have uN := g.box
  have uH := GH_box g.gh
  obtain ⟨es', cl', uB⟩ := g.mapO
  have ne : ∀ {i j : Nat} {x y : Array Value} {T U : TypeId} {f f' : Nat × Nat}, W.heap[i]? = some (.cells x T f) → W.heap[j]? = some (.cells y U f') → T ≠ U → i ≠ j := fun h1 h2 h3 e => by
    rw [e, h2] at h1
    injection h1 with h1
    injection h1 with _ h1 _
    exact h3 h1.symm
  have nm : ∀ {i j : Nat} {x : Array Value} {T : TypeId} {f : Nat × Nat} {es : Array MapEntry} {cl : Nat}, W.heap[i]? = some (.cells x T f) → W.heap[j]? = some (.map es cl) → i ≠ j := fun h1 h2 e => by
    rw [e, h2] at h1
    injection h1 with h1
    cases h1
  refine ⟨⟨a.n.symm, ne uN tH (by decide), nm uN tB, fun e => ?_⟩, ⟨ne uH tN (by decide), a.h.symm, nm uH tB, fun e => ?_⟩, ⟨(nm tN uB).symm, (nm tH uB).symm, a.b.symm, fun e => ?_⟩, fun k hk => ?_⟩
  · obtain ⟨⟨cs, fr, q⟩, _⟩ := GH_own h.gh e.symm
    exact ne q uN (by decide) rfl
  · obtain ⟨⟨cs, fr, q⟩, _⟩ := GH_own h.gh e.symm
    exact ne q uH (by decide) rfl
  · obtain ⟨⟨cs, fr, q⟩, _⟩ := GH_own h.gh e.symm
    exact nm q uB rfl
  · obtain ⟨⟨cs, fr, q⟩, _⟩ := GH_own g.gh hk
    exact ⟨ne q tN (by decide), ne q tH (by decide), nm q tB, fun e => a.o k e.symm hk⟩
/-- another account's numbers stand -/
theorem NIs.other {c : Nb} {u : Value} {t : Nu} {base' : Nat} (g : NIs base' W c u t) (h : NIs base W b v s) (a : Apt b v c u) (f : FN b v v1 W V) : NIs base' V c u t := by
  obtain ⟨o1, o2, o3, o4⟩ := h.off_apt g a
  exact g.still (f.block _ g.lt.1 o1) (f.block _ g.lt.2.1 o2) (f.block _ g.lt.2.2.1 o3) fun k hk => f.block _ (g.lt.2.2.2 k hk) (o4 k hk)
theorem Apt.turn {c : Nb} {u : Value} {t : Nu} {base' : Nat} (a : Apt b v c u) (g : NIs base' W c u t) (f : FN b v v1 W V) : Apt b v1 c u := by
  refine ⟨a.n, a.h, a.b, fun k h1 h2 => ?_⟩
  rcases f.own with o | o
  · exact a.o k (o.symm.trans h1) h2
  · have := o k h1
    have := g.lt.2.2.2 k h2
    omega
end
end Go.Proofs.YtpkkomifenlkaaaGreat.Au
/- An account's numbers: begun anew. -/
namespace Go.Proofs.YtpkkomifenlkaaaGreat.Au
open Go Go.RowKit
set_option linter.unusedVariables false

abbrev TRt : Nat := 32
theorem wrap_u {n : Int} (h : 0 ≤ n) (h2 : n ≤ 18446744073709551615) : IntKind.u64.wrap n = n := by rw [IntKind.wrap_u64]; omega
/-- an answer -/
def rt (e ep n m : Int) : Value := .agg #[.int .i64 e, .int .u64 ep, .int .u64 n, .int .u64 m]
/-- all four cells of an answer's box are set -/
theorem set4 {w : World} {R : Nat} {x y z u : Value} {T : TypeId} (a b c d : Value) (h : w.heap[R]? = some (.cells #[x, y, z, u] T (0, 0))) :
    ((((w.setCell ⟨R, 0, none⟩ a).setCell ⟨R, 1, none⟩ b).setCell ⟨R, 2, none⟩ c).setCell ⟨R, 3, none⟩ d).heap[R]? = some (.cells #[a, b, c, d] T (0, 0)) := by
  simp [World.setCell, Array.getElem?_modify, h]
theorem get4 {w : World} {R : Nat} {a b c d : Value} {T : TypeId} (h : w.heap[R]? = some (.cells #[a, b, c, d] T (0, 0))) : w.cell? ⟨R, 0, none⟩ = some a ∧ w.cell? ⟨R, 1, none⟩ = some b ∧ w.cell? ⟨R, 2, none⟩ = some c ∧ w.cell? ⟨R, 3, none⟩ = some d ∧ ∀ i, w.frozen? ⟨R, i, none⟩ = false :=
  ⟨cell_of_row w R 0 _ _ (0, 0) h, cell_of_row w R 1 _ _ (0, 0) h, cell_of_row w R 2 _ _ (0, 0) h, cell_of_row w R 3 _ _ (0, 0) h, fun i => by simp [World.frozen?, h]⟩
section
variable {base : Nat} {b : Nb} {v v1 v2 : Value} {s : Nu} {W V X : World}
theorem NIs.set4 {R : Nat} (h : NIs base V b v s) (o : Off b v R) (x y z u : Value) : NIs base ((((V.setCell ⟨R, 0, none⟩ x).setCell ⟨R, 1, none⟩ y).setCell ⟨R, 2, none⟩ z).setCell ⟨R, 3, none⟩ u) b v s :=
  (((h.setOff o).setOff o).setOff o).setOff o
theorem FN.set4 {R : Nat} (f : FN b v v1 W V) (hR : W.heap.size ≤ R) (x y z u : Value) : FN b v v1 W ((((V.setCell ⟨R, 0, none⟩ x).setCell ⟨R, 1, none⟩ y).setCell ⟨R, 2, none⟩ z).setCell ⟨R, 3, none⟩ u) :=
  (((f.setNew hR 0 x).setNew hR 1 y).setNew hR 2 z).setNew hR 3 u
/-- a block that was made behind W stays off -/
theorem FN.off {R : Nat} (f : FN b v v1 W V) (h : NIs base W b v s) (o : Off b v R) (hR : R < W.heap.size) : Off b v1 R := by
  refine ⟨o.n, o.h, o.b, fun e => ?_⟩
  rcases f.own with q | q
  · exact o.o (e.trans q)
  · have := q R e.symm; omega
theorem GH_clear {B HH : Nat} {L : List Int} (h : Gp.GH B W HH v L) : Gp.GH B (W.setCell ⟨HH, 0, none⟩ (.slice none 0 0)) HH (.slice none 0 0) [] :=
  ⟨⟨[], ⟨by simp [World.setCell, Array.getElem?_modify, GH_box h], GH_low h, ⟨rfl, Or.inl ⟨rfl, rfl⟩⟩, by simp⟩, fun k _ h => by simp at h, Gm.Rep.nil⟩, by simp⟩
theorem fr_clear (HH : Nat) : Gp.Fr HH v (.slice none 0 0) W (W.setCell ⟨HH, 0, none⟩ (.slice none 0 0)) :=
  ⟨rfl, rfl, rfl, by simp, fun k _ h1 _ => Below.heap_setCell _ _ _ _ h1, Or.inr fun k hk => by cases hk⟩
set_option maxRecDepth 20000 in
theorem resync_top (h : NIs base W b v s) (he : s.ep = 18446744073709551615) (nx : Int) :
    Calls Tryz.prog 27 #[.pointer (some ⟨b.N, 0, none⟩), .int .u64 nx] W fun e w' => e = .returned (rt 11 0 0 0) ∧ NIs base w' b v s ∧ FN b v v W w' := by
  unfold rt
  have hb := heap_alloc_new W (.cells #[.int .i64 0, .int .u64 0, .int .u64 0, .int .u64 0] TRt)
  have h1 := h.alloc (.cells #[.int .i64 0, .int .u64 0, .int .u64 0, .int .u64 0] TRt)
  have o1 := h.off_new (Nat.le_refl W.heap.size)
  have f1 : FN b v v W (W.alloc (.cells #[.int .i64 0, .int .u64 0, .int .u64 0, .int .u64 0] TRt)) := FN.refl.alloc _
  obtain ⟨w0, hw0⟩ : ∃ X, X = W.alloc (.cells #[.int .i64 0, .int .u64 0, .int .u64 0, .int .u64 0] TRt) := ⟨_, rfl⟩
  obtain ⟨R, hR⟩ : ∃ R, R = W.heap.size := ⟨_, rfl⟩
  have hRl : W.heap.size ≤ R := by omega
  rw [← hw0] at hb h1 f1
  rw [← hR] at hb o1
  have HR := Lib.hid (And.intro (set4 (.int .i64 11) (.int .u64 0) (.int .u64 0) (.int .u64 0) hb) (And.intro (h1.set4 o1 (.int .i64 11) (.int .u64 0) (.int .u64 0) (.int .u64 0)) (f1.set4 hRl (.int .i64 11) (.int .u64 0) (.int .u64 0) (.int .u64 0))))
  obtain ⟨c0, -⟩ := h1.cells
  rw [he] at c0
  obtain ⟨r0, r1, r2, r3, rf⟩ := get4 hb
  clear hb h1 o1 f1 h he hRl
  go_enter Tryz.func27, Tryz.ntmps27
  go_upto_region 1 with fail
  rw [← hw0, ← hR]
  clear hw0 hR
  go_wp2
  generalize ((((w0.setCell ⟨R, 0, none⟩ (.int .i64 11)).setCell ⟨R, 1, none⟩ (.int .u64 0)).setCell ⟨R, 2, none⟩ (.int .u64 0)).setCell ⟨R, 3, none⟩ (.int .u64 0)) = V4 at HR ⊢
  obtain ⟨q0, q1, q2, q3, -⟩ := get4 HR.out.1
  simp [bodyPost, results, Tryz.results27, go_sem, q0, q1, q2, q3]
  exact HR.out.2
set_option maxRecDepth 20000 in
set_option maxHeartbeats 1000000 in
theorem resync_any (h : NIs base W b v s) (he : s.ep ≠ 18446744073709551615) (h0 : 0 ≤ s.ep) (h9 : s.ep ≤ 18446744073709551615) (nx : Int) :
    Calls Tryz.prog 27 #[.pointer (some ⟨b.N, 0, none⟩), .int .u64 nx] W fun e w' => e = .returned (rt 0 (s.ep + 1) 0 0) ∧ ∃ v', NIs base w' b v' ⟨s.ep + 1, nx, [], []⟩ ∧ FN b v v' W w' := by
  unfold rt
  have hb := heap_alloc_new W (.cells #[.int .i64 0, .int .u64 0, .int .u64 0, .int .u64 0] TRt)
  have h1 := h.alloc (.cells #[.int .i64 0, .int .u64 0, .int .u64 0, .int .u64 0] TRt)
  have o1 := h.off_new (Nat.le_refl W.heap.size)
  have f1 : FN b v v W (W.alloc (.cells #[.int .i64 0, .int .u64 0, .int .u64 0, .int .u64 0] TRt)) := FN.refl.alloc _
  obtain ⟨w0, hw0⟩ : ∃ X, X = W.alloc (.cells #[.int .i64 0, .int .u64 0, .int .u64 0, .int .u64 0] TRt) := ⟨_, rfl⟩
  obtain ⟨R, hR⟩ : ∃ R, R = W.heap.size := ⟨_, rfl⟩
  have hRl : W.heap.size ≤ R := by omega
  rw [← hw0] at hb h1 f1
  rw [← hR] at hb o1
  have hRl1 : R < w0.heap.size := ltO hb
  have s1 := h1.setE (s.ep + 1)
  have f2 : FN b v v W _ := f1.trans (FN.of_setN 0 (.int .u64 (s.ep + 1)))
  have s2 := s1.setX nx
  have f3 : FN b v v W _ := f2.trans (FN.of_setN 1 (.int .u64 nx))
  have hb2 : ((w0.setCell ⟨b.N, 0, none⟩ (.int .u64 (s.ep + 1))).setCell ⟨b.N, 1, none⟩ (.int .u64 nx)).heap[R]? = some (.cells #[.int .i64 0, .int .u64 0, .int .u64 0, .int .u64 0] TRt (0, 0)) :=
    (Below.heap_setCell _ _ _ _ o1.n).trans ((Below.heap_setCell _ _ _ _ o1.n).trans hb)
  have HS := Lib.hid (And.intro s2 (And.intro f3 hb2))
  obtain ⟨e0, e1, -, -, g0, -⟩ := h1.cells
  have g1 := s1.cells.2.2.2.2.2
  have hne : (s.ep == 18446744073709551615) = false := by simpa using he
  have hwr : IntKind.u64.wrap (s.ep + 1) = s.ep + 1 := wrap_u (by omega) (by omega)
  have HO := Lib.hid (And.intro o1 hRl)
  clear hb h1 o1 f1 h he hRl s1 s2 f2 f3 hb2 h0 h9
  go_enter Tryz.func27, Tryz.ntmps27
  go_upto_region 1 with fail
  rw [← hw0, ← hR]
  clear hw0 hR
  go_upto_region 5 with fail
  generalize ((w0.setCell ⟨b.N, 0, none⟩ (.int .u64 (s.ep + 1))).setCell ⟨b.N, 1, none⟩ (.int .u64 nx)) = w2 at HS ⊢
  clear e0 e1 g0 g1 hne hwr
  obtain ⟨-, -, c2, -⟩ := HS.out.1.cells
  go_wp2_with fail
  refine (Gp.clear_any b.H v w2 (GH_box HS.out.1.gh)).mono ?_
  rintro _ w3 ⟨rfl, hw3⟩
  have n3 := HS.out.1.onH (GH_clear HS.out.1.gh) (fr_clear b.H)
  have f3 := HS.out.2.1.trans (FN.of_fr (fr_clear (v := v) (W := w2) b.H))
  have hb3 := (Below.heap_setCell w2 ⟨b.H, 0, none⟩ (.slice none 0 0) R HO.out.1.h).trans HS.out.2.2
  rw [← hw3] at n3 f3 hb3
  clear hw3 HS
  obtain ⟨c0, -, -, c3, -⟩ := n3.cells
  obtain ⟨w4, hr4, hm4, ho4⟩ := clear_run b.B s.M 0 w3 n3.map
  have n4 := n3.onB hm4 ho4
  have f4 := f3.trans (FN.of_onB ho4)
  have hb4 := (ho4.block R HO.out.1.b).trans hb3
  obtain ⟨d0, -⟩ := n4.cells
  have o4 : Off b (.slice none 0 0) R := ⟨HO.out.1.n, HO.out.1.h, HO.out.1.b, by intro e; cases e⟩
  have HR := Lib.hid (And.intro (set4 (.int .i64 0) (.int .u64 (s.ep + 1)) (.int .u64 0) (.int .u64 0) hb4) (And.intro (n4.set4 o4 (.int .i64 0) (.int .u64 (s.ep + 1)) (.int .u64 0) (.int .u64 0)) (f4.set4 HO.out.2 (.int .i64 0) (.int .u64 (s.ep + 1)) (.int .u64 0) (.int .u64 0))))
  obtain ⟨r0, r1, r2, r3, rf⟩ := get4 hb4
  clear n3 f3 hb3 hm4 ho4 n4 f4 hb4 o4 HO
  go_wp2
  generalize ((((w4.setCell ⟨R, 0, none⟩ (.int .i64 0)).setCell ⟨R, 1, none⟩ (.int .u64 (s.ep + 1))).setCell ⟨R, 2, none⟩ (.int .u64 0)).setCell ⟨R, 3, none⟩ (.int .u64 0)) = V4 at HR ⊢
  obtain ⟨q0, q1, q2, q3, -⟩ := get4 HR.out.1
  simp [bodyPost, results, Tryz.results27, go_sem, q0, q1, q2, q3]
  exact ⟨_, HR.out.2⟩
end
end Go.Proofs.YtpkkomifenlkaaaGreat.Au
/- An account's numbers: reserve. -/
namespace Go.Proofs.YtpkkomifenlkaaaGreat.Au
open Go Go.RowKit
set_option linter.unusedVariables false

/-- so many numbers from one on, all held by one -/
def nums (f : Int) (m : Nat) (who : Int) : List (Int × Int) := (List.range m).map fun (i : Nat) => (f + (i : Int), who)
theorem nums_succ (f : Int) (m : Nat) (who : Int) : nums f (m + 1) who = nums f m who ++ [(f + (m : Int), who)] := by
  unfold nums; rw [List.range_succ, List.map_append]; rfl
theorem nums_len (f : Int) (m : Nat) (who : Int) : (nums f m who).length = m := by simp [nums]
theorem nums_mem {f : Int} {m : Nat} {who : Int} {x : Int × Int} : x ∈ nums f m who ↔ x.2 = who ∧ f ≤ x.1 ∧ x.1 < f + (m : Int) := by
  unfold nums
  constructor
  · intro h
    obtain ⟨i, hi, rfl⟩ := List.mem_map.1 h
    have := List.mem_range.1 hi
    exact ⟨rfl, by dsimp only; omega, by dsimp only; omega⟩
  · rintro ⟨h1, h2, h3⟩
    refine List.mem_map.2 ⟨(x.1 - f).toNat, List.mem_range.2 (by omega), ?_⟩
    obtain ⟨a, c⟩ := x
    dsimp only at h1 h2 h3 ⊢
    rw [h1]
    congr 1
    omega
theorem lk_app {k : Int} {A B : List (Int × Int)} (h1 : lk k A = none) (h2 : lk k B = none) : lk k (A ++ B) = none := by
  rw [lk_none] at h1 h2 ⊢
  intro x hx
  rcases List.mem_append.1 hx with hx | hx
  · exact h1 x hx
  · exact h2 x hx
theorem lk_nums {k f : Int} {m : Nat} {who : Int} (h : f + (m : Int) ≤ k) : lk k (nums f m who) = none := by
  rw [lk_none]
  intro x hx
  have := nums_mem.1 hx
  omega
theorem min_run (x y : Int) (tys : Array TypeId) (ty : TypeId) (V : World) : (Builtin.min_ tys ty #[.int .u64 x, .int .u64 y]).run Tryz.prog V = .ok (.int .u64 (if y < x then y else x)) V := by
  simp [Builtin.min_, Builtin.min2]
section
variable {base : Nat} {b : Nb} {v v1 v2 : Value} {s : Nu} {W V X : World}
theorem NIs.drew (h : NIs base W b v s) : NIs base W.drew b v s := h.still rfl rfl rfl fun _ _ => rfl
set_option maxRecDepth 20000 in
theorem reserve_bad (h : NIs base W b v s) (who most : Int) (hm : most < 1 ∨ 8 < most) :
    Calls Tryz.prog 25 #[.pointer (some ⟨b.N, 0, none⟩), .int .i64 who, .int .u64 most] W fun e w' => e = .returned (rt 1 0 0 0) ∧ NIs base w' b v s ∧ FN b v v W w' := by
  unfold rt
  have hb := heap_alloc_new W (.cells #[.int .i64 0, .int .u64 0, .int .u64 0, .int .u64 0] TRt)
  have h1 := h.alloc (.cells #[.int .i64 0, .int .u64 0, .int .u64 0, .int .u64 0] TRt)
  have o1 := h.off_new (Nat.le_refl W.heap.size)
  have f1 : FN b v v W (W.alloc (.cells #[.int .i64 0, .int .u64 0, .int .u64 0, .int .u64 0] TRt)) := FN.refl.alloc _
  obtain ⟨w0, hw0⟩ : ∃ X, X = W.alloc (.cells #[.int .i64 0, .int .u64 0, .int .u64 0, .int .u64 0] TRt) := ⟨_, rfl⟩
  obtain ⟨R, hR⟩ : ∃ R, R = W.heap.size := ⟨_, rfl⟩
  have hRl : W.heap.size ≤ R := by omega
  rw [← hw0] at hb h1 f1
  rw [← hR] at hb o1
  have HR := Lib.hid (And.intro (set4 (.int .i64 1) (.int .u64 0) (.int .u64 0) (.int .u64 0) hb) (And.intro (h1.set4 o1 (.int .i64 1) (.int .u64 0) (.int .u64 0) (.int .u64 0)) (f1.set4 hRl (.int .i64 1) (.int .u64 0) (.int .u64 0) (.int .u64 0))))
  obtain ⟨r0, r1, r2, r3, rf⟩ := get4 hb
  clear hb h1 o1 f1 h hRl
  rcases Int.lt_or_le most 1 with hm1 | hm1
  all_goals
    first
    | have d1 : decide (most < 1) = true := decide_eq_true hm1
      have HM := Lib.hid hm
      clear hm hm1
      go_enter Tryz.func25, Tryz.ntmps25
      go_upto_region 1 with fail
      rw [← hw0, ← hR]
      clear hw0 hR
      go_wp2
      generalize ((((w0.setCell ⟨R, 0, none⟩ (.int .i64 1)).setCell ⟨R, 1, none⟩ (.int .u64 0)).setCell ⟨R, 2, none⟩ (.int .u64 0)).setCell ⟨R, 3, none⟩ (.int .u64 0)) = V4 at HR ⊢
      obtain ⟨q0, q1, q2, q3, -⟩ := get4 HR.out.1
      simp [bodyPost, results, Tryz.results25, go_sem, q0, q1, q2, q3]
      exact HR.out.2
    | have d1 : decide (most < 1) = false := decide_eq_false (by omega)
      have d2 : decide (8 < most) = true := decide_eq_true (by omega)
      clear hm hm1
      go_enter Tryz.func25, Tryz.ntmps25
      go_upto_region 1 with fail
      rw [← hw0, ← hR]
      clear hw0 hR
      go_wp2
      generalize ((((w0.setCell ⟨R, 0, none⟩ (.int .i64 1)).setCell ⟨R, 1, none⟩ (.int .u64 0)).setCell ⟨R, 2, none⟩ (.int .u64 0)).setCell ⟨R, 3, none⟩ (.int .u64 0)) = V4 at HR ⊢
      obtain ⟨q0, q1, q2, q3, -⟩ := get4 HR.out.1
      simp [bodyPost, results, Tryz.results25, go_sem, q0, q1, q2, q3]
      exact HR.out.2
set_option maxRecDepth 20000 in
set_option maxHeartbeats 1000000 in
theorem reserve_any (h : NIs base W b v s) (who most : Int) (hm1 : 1 ≤ most) (hm8 : most ≤ 8) (h0 : 0 ≤ s.nx) (h9 : s.nx ≤ 18446744073709551615) (f : Int) (m : Nat) (nx : Int) (L : List Int)
    (hc : (s.L ≠ [] ∧ f = Gp.tkF most s.L ∧ (m : Int) = Gp.tkM most s.L ∧ nx = s.nx ∧ L = s.L.drop (Gp.tkM most s.L).toNat) ∨ (s.L = [] ∧ f = s.nx ∧ (m : Int) = (if 18446744073709551615 - s.nx < most then 18446744073709551615 - s.nx else most) ∧ nx = s.nx + (m : Int) ∧ L = []))
    (hf0 : 0 ≤ f) (hfm : f + (m : Int) ≤ 18446744073709551615) (hm0 : 0 < m) (hmm : (m : Int) ≤ 8) (hnew : ∀ i, i < m → lk (f + (i : Int)) s.M = none) :
    Calls Tryz.prog 25 #[.pointer (some ⟨b.N, 0, none⟩), .int .i64 who, .int .u64 most] W fun e w' => e = .returned (rt 0 s.ep f (m : Int)) ∧ ∃ v', NIs base w' b v' ⟨s.ep, nx, L, s.M ++ nums f m who⟩ ∧ FN b v v' W w' := by
  unfold rt
  have hb := heap_alloc_new W (.cells #[.int .i64 0, .int .u64 0, .int .u64 0, .int .u64 0] TRt)
  have h1 := h.alloc (.cells #[.int .i64 0, .int .u64 0, .int .u64 0, .int .u64 0] TRt)
  have o1 := h.off_new (Nat.le_refl W.heap.size)
  have f1 : FN b v v W (W.alloc (.cells #[.int .i64 0, .int .u64 0, .int .u64 0, .int .u64 0] TRt)) := FN.refl.alloc _
  obtain ⟨w0, hw0⟩ : ∃ X, X = W.alloc (.cells #[.int .i64 0, .int .u64 0, .int .u64 0, .int .u64 0] TRt) := ⟨_, rfl⟩
  obtain ⟨R, hR⟩ : ∃ R, R = W.heap.size := ⟨_, rfl⟩
  have hRl : W.heap.size ≤ R := by omega
  rw [← hw0] at hb h1 f1
  rw [← hR] at hb o1
  obtain ⟨-, -, c2, -⟩ := h1.cells
  have d1 : decide (most < 1) = false := decide_eq_false (by omega)
  have d2 : decide (8 < most) = false := decide_eq_false (by omega)
  have HX := Lib.hid (And.intro hb (And.intro h1 (And.intro o1 (And.intro f1 hRl))))
  have HN := Lib.hid hnew
  have HC := Lib.hid hc
  clear hb h1 o1 f1 h hRl hnew hc
  go_enter Tryz.func25, Tryz.ntmps25
  go_upto_region 1 with fail
  rw [← hw0, ← hR]
  clear hw0 hR
  go_wp2_with fail
  refine (Gp.gtake_any base b.H v s.L most w0 HX.out.2.1.gh (by have := HX.out.2.1.lt.1; have := HX.out.2.1.low.1; omega) (by omega)).mono ?_
  rintro _ w1 ⟨rfl, v1, hg, -, hf⟩
  have n1 := HX.out.2.1.onH hg hf
  have ff := HX.out.2.2.2.1.trans (FN.of_fr hf)
  have oo : Off b v1 R := (FN.of_fr hf).off HX.out.2.1 HX.out.2.2.1 (ltO HX.out.1)
  have hb1 := (hf.block R (ltO HX.out.1) HX.out.2.2.1.h HX.out.2.2.1.o).trans HX.out.1
  have HT1 := Lib.hid (And.intro n1 (And.intro ff (And.intro oo hb1)))
  have HRl := Lib.hid HX.out.2.2.2.2
  have HO1 := Lib.hid oo
  clear hg hf n1 ff oo hb1 HX c2 d1 d2
  obtain ⟨tf, htf⟩ : ∃ x, x = Gp.tkF most s.L := ⟨_, rfl⟩
  obtain ⟨tm, htm⟩ : ∃ x, x = Gp.tkM most s.L := ⟨_, rfl⟩
  obtain ⟨tc, htc⟩ : ∃ x, x = Gp.tkC most s.L := ⟨_, rfl⟩
  rw [← htf, ← htm, ← htc]
  have HTk := Lib.hid (And.intro htf (And.intro htm htc))
  clear htf htm htc
  go_upto_if 29 with fail
  obtain ⟨tb, htb⟩ : ∃ x, x = (tc != 0) := ⟨_, rfl⟩
  rw [← htb]
  have HTb := Lib.hid htb
  clear htb
  go_cut [7, 8] from 30 to 48 (fun fv mv wx => fv = .int .u64 f ∧ mv = .int .u64 (m : Int) ∧ NIs base wx b v1 ⟨s.ep, nx, L, s.M⟩ ∧ FN b v v1 W wx ∧ wx.heap[R]? = some (.cells #[.int .i64 0, .int .u64 0, .int .u64 0, .int .u64 0] TRt (0, 0)))
  case first =>
    rcases HC.out with ⟨hL, e1, e2, e3, e4⟩ | ⟨hL, e1, e2, e3, e4⟩
    · have k1 : Gp.tkC most s.L = 0 := by unfold Gp.tkC; rw [if_neg (by omega), if_neg hL]
      obtain rfl : tf = f := HTk.out.1.trans e1.symm
      obtain rfl : tm = (m : Int) := HTk.out.2.1.trans e2.symm
      obtain rfl : tc = 0 := HTk.out.2.2.trans k1
      obtain rfl : tb = false := HTb.out
      have HT : Hid (NIs base w1 b v1 ⟨s.ep, nx, L, s.M⟩ ∧ FN b v v1 W w1 ∧ w1.heap[R]? = some (.cells #[.int .i64 0, .int .u64 0, .int .u64 0, .int .u64 0] TRt (0, 0))) := Lib.hid (by rw [e3, e4]; exact ⟨HT1.out.1, HT1.out.2.1, HT1.out.2.2.2⟩)
      clear e1 e2 e3 e4 hL k1
      go_wp2
      go_meet
      exact ⟨rfl, rfl, HT.out⟩
    · have k1 : Gp.tkC most s.L = 8 := by unfold Gp.tkC; rw [if_neg (by omega), if_pos hL]
      have HT : Hid (NIs base w1 b v1 ⟨s.ep, s.nx, [], s.M⟩ ∧ FN b v v1 W w1 ∧ w1.heap[R]? = some (.cells #[.int .i64 0, .int .u64 0, .int .u64 0, .int .u64 0] TRt (0, 0))) := Lib.hid (by have := HT1.out.1; rw [hL] at this; simp only [List.drop_nil] at this; exact ⟨this, HT1.out.2.1, HT1.out.2.2.2⟩)
      obtain rfl : tc = 8 := HTk.out.2.2.trans k1
      obtain rfl : tb = true := HTb.out
      have HE := Lib.hid (And.intro e1 (And.intro e2 (And.intro e3 e4)))
      have hwr : IntKind.u64.wrap (18446744073709551615 - s.nx) = 18446744073709551615 - s.nx := wrap_u (by omega) (by omega)
      have hmr := fun V => (min_run most (18446744073709551615 - s.nx) #[22, 22] 22 V).trans (by rw [← e2])
      clear e1 e2 e3 e4 hL k1 HT1
      go_upto_region 5 with fail
      refine wp_region_held_drew (S := fun V => NIs base V b v1 ⟨s.ep, s.nx, [], s.M⟩) (by kernel_rfl) HT.out.1.drew (fun hHeld => ?_)
      refine wpAnyH_take (i := 0) (oi := _) (v := ?_) rfl (by kernel_rfl) (by kernel_rfl) (by kernel_rfl) (fun _ _ _ h => h) (Or.inl ⟨by rfl, ?_⟩) (by assumption) ?_
      rotate_left
      · (intro W hSw; (try dsimp only at hSw); go_simp; try with_reducible rfl)
      try simp only [Act.put, List.getElem_toArray, List.getElem_cons_zero, List.setIfInBounds_toArray, List.set_cons_zero, List.set_cons_succ]
      refine wpAnyH_take (i := 1) (oi := _) (v := ?_) rfl (by kernel_rfl) (by kernel_rfl) (by kernel_rfl) (fun _ _ _ h => h) (Or.inl ⟨by rfl, ?_⟩) (by assumption) ?_
      rotate_left
      · (intro W hSw; (try dsimp only at hSw); go_simp; try with_reducible rfl)
      try simp only [Act.put, List.getElem_toArray, List.getElem_cons_succ, List.getElem_cons_zero, List.setIfInBounds_toArray, List.set_cons_zero, List.set_cons_succ]
      refine wpAnyH_take (i := 2) (oi := _) (v := ?_) rfl (by kernel_rfl) (by kernel_rfl) (by kernel_rfl) (fun _ _ _ h => h) (Or.inl ⟨by rfl, ?_⟩) (by assumption) ?_
      rotate_left
      · (intro W hSw; (try dsimp only at hSw); go_simp; try with_reducible rfl)
      try simp only [Act.put, List.getElem_toArray, List.getElem_cons_succ, List.getElem_cons_zero, List.setIfInBounds_toArray, List.set_cons_zero, List.set_cons_succ]
      refine wpAnyH_take (i := 3) (oi := _) (v := ?_) rfl (by kernel_rfl) (by kernel_rfl) (by kernel_rfl) (fun _ _ _ h => h) (Or.inl ⟨by rfl, ?_⟩) (by assumption) ?_
      rotate_left
      · (intro V hSw; have q1 := hSw.cells.2.1; clear hSw; go_simp; try with_reducible rfl)
      try simp only [Act.put, List.getElem_toArray, List.getElem_cons_succ, List.getElem_cons_zero, List.setIfInBounds_toArray, List.set_cons_zero, List.set_cons_succ]
      refine wpAnyH_take (i := 4) (oi := _) (v := ?_) rfl (by kernel_rfl) (by kernel_rfl) (by kernel_rfl) (fun _ _ _ h => h) (Or.inl ⟨by rfl, ?_⟩) (by assumption) ?_
      rotate_left
      · (intro W hSw; (try dsimp only at hSw); go_simp; try with_reducible rfl)
      try simp only [Act.put, List.getElem_toArray, List.getElem_cons_succ, List.getElem_cons_zero, List.setIfInBounds_toArray, List.set_cons_zero, List.set_cons_succ]
      refine wpAnyH_take (i := 5) (oi := _) (v := ?_) rfl (by kernel_rfl) (by kernel_rfl) (by kernel_rfl) (fun _ _ _ h => h) (Or.inl ⟨by rfl, ?_⟩) (by assumption) ?_
      rotate_left
      · (intro W hSw; (try dsimp only at hSw); go_simp; try with_reducible rfl)
      try simp only [Act.put, List.getElem_toArray, List.getElem_cons_succ, List.getElem_cons_zero, List.setIfInBounds_toArray, List.set_cons_zero, List.set_cons_succ]
      refine wpAnyH_take (i := 6) (oi := _) (v := ?_) rfl (by kernel_rfl) (by kernel_rfl) (by kernel_rfl) (fun _ _ _ h => h) (Or.inl ⟨by rfl, ?_⟩) (by assumption) ?_
      rotate_left
      · (intro W hSw; (try dsimp only at hSw); go_simp; try with_reducible rfl)
      try simp only [Act.put, List.getElem_toArray, List.getElem_cons_succ, List.getElem_cons_zero, List.setIfInBounds_toArray, List.set_cons_zero, List.set_cons_succ]
      refine wpAnyH_take (i := 7) (oi := _) (v := ?_) rfl (by kernel_rfl) (by kernel_rfl) (by kernel_rfl) (fun _ _ _ h => h) (Or.inl ⟨by rfl, ?_⟩) (by assumption) ?_
      rotate_left
      · (intro W hSw; (try dsimp only at hSw); go_simp; try with_reducible rfl)
      try simp only [Act.put, List.getElem_toArray, List.getElem_cons_succ, List.getElem_cons_zero, List.setIfInBounds_toArray, List.set_cons_zero, List.set_cons_succ]
      refine wpAnyH_take (i := 8) (oi := _) (v := ?_) rfl (by kernel_rfl) (by kernel_rfl) (by kernel_rfl) (fun _ _ _ h => h) (Or.inl ⟨by rfl, ?_⟩) (by assumption) ?_
      rotate_left
      · (intro V hSw; have q1 := hSw.cells.2.1; clear hSw; go_simp; try with_reducible rfl)
      try simp only [Act.put, List.getElem_toArray, List.getElem_cons_succ, List.getElem_cons_zero, List.setIfInBounds_toArray, List.set_cons_zero, List.set_cons_succ]
      refine wpAnyH_take (i := 9) (oi := _) (v := ?_) rfl (by kernel_rfl) (by kernel_rfl) (by kernel_rfl) (fun _ _ _ h => h) (Or.inl ⟨by rfl, ?_⟩) (by assumption) ?_
      rotate_left
      · (intro W hSw; (try dsimp only at hSw); go_simp; try with_reducible rfl)
      try simp only [Act.put, List.getElem_toArray, List.getElem_cons_succ, List.getElem_cons_zero, List.setIfInBounds_toArray, List.set_cons_zero, List.set_cons_succ]
      refine wpAnyH_take (i := 11) (oi := _) (v := ?_) rfl (by kernel_rfl) (by kernel_rfl) (by kernel_rfl) (fun _ _ _ h => h) (Or.inl ⟨by rfl, ?_⟩) (by assumption) ?_
      rotate_left
      · (intro W hSw; (try dsimp only at hSw); go_simp; try with_reducible rfl)
      try simp only [Act.put, List.getElem_toArray, List.getElem_cons_succ, List.getElem_cons_zero, List.setIfInBounds_toArray, List.set_cons_zero, List.set_cons_succ]
      refine wpAnyH_ready (rs := [10]) (by kernel_rfl) (by simp) ?_
      refine AllReadyH.cons rfl (fun K hK => ?_) AllReadyH.nil
      simp only [List.getElem_toArray, List.getElem_cons_succ, List.getElem_cons_zero]
      rw [if_pos (by rfl)]
      go_simp
      refine hK.out _ _ HT.out.1.drew (fun hHeld => ?_)
      clear hK K
      try simp only [Act.put, List.getElem_toArray, List.getElem_cons_succ, List.getElem_cons_zero, List.setIfInBounds_toArray, List.set_cons_zero, List.set_cons_succ]
      refine wpAnyH_take (i := 12) (oi := _) (v := ?_) rfl (by kernel_rfl) (by kernel_rfl) (by kernel_rfl) (fun _ _ _ h => h) (Or.inl ⟨by rfl, ?_⟩) (by assumption) ?_
      rotate_left
      · (intro W hSw; (try dsimp only at hSw); go_simp; try with_reducible rfl)
      try simp only [Act.put, List.getElem_toArray, List.getElem_cons_succ, List.getElem_cons_zero, List.setIfInBounds_toArray, List.set_cons_zero, List.set_cons_succ]
      refine wpAnyH_done (by kernel_rfl) ?_ _
      have n5 : NIs base w1.drew b v1 ⟨s.ep, s.nx, [], s.M⟩ := HT.out.1.still rfl rfl rfl fun _ _ => rfl
      have f5 : FN b v v1 W w1.drew := HT.out.2.1.drew
      have hb5 : w1.drew.heap[R]? = some (.cells #[.int .i64 0, .int .u64 0, .int .u64 0, .int .u64 0] TRt (0, 0)) := HT.out.2.2
      obtain ⟨w5, hw5⟩ : ∃ X, X = w1.drew := ⟨_, rfl⟩
      rw [← hw5] at n5 f5 hb5 ⊢
      clear hw5 HT hmr hwr
      have c1 := n5.cells.2.1
      have g1 := n5.cells.2.2.2.2.2
      have hwr : IntKind.u64.wrap (s.nx + (m : Int)) = s.nx + (m : Int) := wrap_u (by have := HE.out.1; omega) (by have := HE.out.1; omega)
      have n6 := n5.setX (s.nx + (m : Int))
      have f6 := f5.trans (FN.of_setN 1 (.int .u64 (s.nx + (m : Int))))
      have hb6 := (Below.heap_setCell w5 ⟨b.N, 1, none⟩ (.int .u64 (s.nx + (m : Int))) R HO1.out.n).trans hb5
      have H6 := Lib.hid (And.intro n6 (And.intro f6 hb6))
      clear n5 f5 hb5 n6 f6 hb6
      go_wp2
      go_meet
      refine ⟨by rw [HE.out.1], rfl, ?_, H6.out.2.1, H6.out.2.2⟩
      have h9 := H6.out.1
      rw [HE.out.2.2.1, HE.out.2.2.2]
      exact h9
  case rest =>
    obtain ⟨rfl, rfl, hn, hfn, hbx⟩ := hcut
    have H3 := Lib.hid (And.intro hn (And.intro hfn hbx))
    have hmz : ((m : Int) == 0) = false := by simp; omega
    clear hn hfn hbx HT1 HC
    have HM := Lib.hid (And.intro hf0 (And.intro hfm (And.intro hm0 hmm)))
    clear hf0 hfm hm0
    go_wp2_with fail
    go_loopw [53] (fun iv wr => ∃ k : Nat, iv = .int .u64 (k : Int) ∧ k ≤ m ∧ NIs base wr b v1 ⟨s.ep, nx, L, s.M ++ nums f k who⟩ ∧ FN b v v1 W wr ∧ wr.heap[R]? = some (.cells #[.int .i64 0, .int .u64 0, .int .u64 0, .int .u64 0] TRt (0, 0))) (fun iv _ => m - (intOf iv).toNat)
    case atStart => exact ⟨0, rfl, Nat.zero_le _, by have := H3.out.1; simpa [nums] using this, H3.out.2.1, H3.out.2.2⟩
    case round =>
      obtain ⟨k, rfl, hk, hn, hfn, hbx⟩ := hrel
      by_cases hkm : k < m
      · have hl := lk_app (HN.out k hkm) (lk_nums (f := f) (m := k) (who := who) (Int.le_refl _))
        obtain ⟨w7, hr7, hm7, ho7⟩ := put_run (f + (k : Int)) who b.B _ wr hn.map hl
        have n7 := hn.onB hm7 ho7
        have f7 := hfn.trans (FN.of_onB ho7)
        have hb7 := (ho7.block R HO1.out.b).trans hbx
        have c3 := hn.cells.2.2.2.1
        have H7 := Lib.hid (And.intro n7 (And.intro f7 hb7))
        have hwr : IntKind.u64.wrap (f + (k : Int)) = f + (k : Int) := wrap_u (by have := HM.out; omega) (by have := HM.out; omega)
        have hwk : IntKind.u64.wrap ((k : Int) + 1) = ((k + 1 : Nat) : Int) := wrap_u (by omega) (by omega)
        have d3 : decide ((k : Int) < (m : Int)) = true := decide_eq_true (by omega)
        clear hn hfn hbx hl hm7 ho7 n7 f7 hb7
        go_wp2
        go_roundw
        case rel =>
          refine ⟨k + 1, by rfl, hkm, ?_, H7.out.2.1, H7.out.2.2⟩
          have := H7.out.1
          rw [nums_succ, ← List.append_assoc]
          exact this
        case measure => simp [intOf]; omega
      · obtain rfl : k = m := by omega
        have c0 := hn.cells.1
        have HR := Lib.hid (And.intro (set4 (.int .i64 0) (.int .u64 s.ep) (.int .u64 f) (.int .u64 (k : Int)) hbx) (And.intro (hn.set4 HO1.out (.int .i64 0) (.int .u64 s.ep) (.int .u64 f) (.int .u64 (k : Int))) (hfn.set4 HRl.out (.int .i64 0) (.int .u64 s.ep) (.int .u64 f) (.int .u64 (k : Int)))))
        obtain ⟨r0, r1, r2, r3, rf⟩ := get4 hbx
        have d3 : decide ((k : Int) < (k : Int)) = false := decide_eq_false (by omega)
        clear hn hfn hbx
        go_wp2
        generalize ((((wr.setCell ⟨R, 0, none⟩ (.int .i64 0)).setCell ⟨R, 1, none⟩ (.int .u64 s.ep)).setCell ⟨R, 2, none⟩ (.int .u64 f)).setCell ⟨R, 3, none⟩ (.int .u64 (k : Int))) = V4 at HR ⊢
        obtain ⟨q0, q1, q2, q3, -⟩ := get4 HR.out.1
        simp [bodyPost, results, Tryz.results25, go_sem, q0, q1, q2, q3]
        exact ⟨_, HR.out.2⟩
set_option maxRecDepth 20000 in
set_option maxHeartbeats 1000000 in
theorem reserve_end (h : NIs base W b v s) (who most : Int) (hm1 : 1 ≤ most) (hm8 : most ≤ 8) (hL : s.L = []) (hx : s.nx = 18446744073709551615) :
    Calls Tryz.prog 25 #[.pointer (some ⟨b.N, 0, none⟩), .int .i64 who, .int .u64 most] W fun e w' => e = .returned (rt 11 0 0 0) ∧ ∃ v', NIs base w' b v' s ∧ FN b v v' W w' := by
  unfold rt
  have hb := heap_alloc_new W (.cells #[.int .i64 0, .int .u64 0, .int .u64 0, .int .u64 0] TRt)
  have h1 := h.alloc (.cells #[.int .i64 0, .int .u64 0, .int .u64 0, .int .u64 0] TRt)
  have o1 := h.off_new (Nat.le_refl W.heap.size)
  have f1 : FN b v v W (W.alloc (.cells #[.int .i64 0, .int .u64 0, .int .u64 0, .int .u64 0] TRt)) := FN.refl.alloc _
  obtain ⟨w0, hw0⟩ : ∃ X, X = W.alloc (.cells #[.int .i64 0, .int .u64 0, .int .u64 0, .int .u64 0] TRt) := ⟨_, rfl⟩
  obtain ⟨R, hR⟩ : ∃ R, R = W.heap.size := ⟨_, rfl⟩
  have hRl : W.heap.size ≤ R := by omega
  rw [← hw0] at hb h1 f1
  rw [← hR] at hb o1
  obtain ⟨-, -, c2, -⟩ := h1.cells
  have d1 : decide (most < 1) = false := decide_eq_false (by omega)
  have d2 : decide (8 < most) = false := decide_eq_false (by omega)
  have HX := Lib.hid (And.intro hb (And.intro h1 (And.intro o1 (And.intro f1 hRl))))
  clear hb h1 o1 f1 h hRl
  go_enter Tryz.func25, Tryz.ntmps25
  go_upto_region 1 with fail
  rw [← hw0, ← hR]
  clear hw0 hR
  go_wp2_with fail
  refine (Gp.gtake_any base b.H v s.L most w0 HX.out.2.1.gh (by have := HX.out.2.1.lt.1; have := HX.out.2.1.low.1; omega) (by omega)).mono ?_
  rintro _ w1 ⟨rfl, v1, hg, -, hf⟩
  have n1 := HX.out.2.1.onH hg hf
  have ff := HX.out.2.2.2.1.trans (FN.of_fr hf)
  have oo : Off b v1 R := (FN.of_fr hf).off HX.out.2.1 HX.out.2.2.1 (ltO HX.out.1)
  have hb1 := (hf.block R (ltO HX.out.1) HX.out.2.2.1.h HX.out.2.2.1.o).trans HX.out.1
  have HRl := Lib.hid HX.out.2.2.2.2
  have HO1 := Lib.hid oo
  have k1 : Gp.tkC most s.L = 8 := by unfold Gp.tkC; rw [if_neg (by omega), if_pos hL]
  have HT : Hid (NIs base w1 b v1 ⟨s.ep, s.nx, [], s.M⟩ ∧ FN b v v1 W w1 ∧ w1.heap[R]? = some (.cells #[.int .i64 0, .int .u64 0, .int .u64 0, .int .u64 0] TRt (0, 0))) := Lib.hid (by have := n1; rw [hL] at this; simp only [List.drop_nil] at this; exact ⟨this, ff, hb1⟩)
  rw [k1]
  have HL := Lib.hid (And.intro hL hx)
  have hwr : IntKind.u64.wrap (18446744073709551615 - s.nx) = 0 := by rw [hx]; decide
  have hmr := fun V => (min_run most 0 #[22, 22] 22 V).trans (by rw [if_pos (show (0 : Int) < most by omega)])
  clear hg hf n1 ff oo hb1 HX c2 d1 d2 k1 hL hx
  go_upto_region 5 with fail
  refine wp_region_held_drew (S := fun V => NIs base V b v1 ⟨s.ep, s.nx, [], s.M⟩) (by kernel_rfl) HT.out.1.drew (fun hHeld => ?_)
  refine wpAnyH_take (i := 0) (oi := _) (v := ?_) rfl (by kernel_rfl) (by kernel_rfl) (by kernel_rfl) (fun _ _ _ h => h) (Or.inl ⟨by rfl, ?_⟩) (by assumption) ?_
  rotate_left
  · (intro W hSw; (try dsimp only at hSw); go_simp; try with_reducible rfl)
  try simp only [Act.put, List.getElem_toArray, List.getElem_cons_zero, List.setIfInBounds_toArray, List.set_cons_zero, List.set_cons_succ]
  refine wpAnyH_take (i := 1) (oi := _) (v := ?_) rfl (by kernel_rfl) (by kernel_rfl) (by kernel_rfl) (fun _ _ _ h => h) (Or.inl ⟨by rfl, ?_⟩) (by assumption) ?_
  rotate_left
  · (intro W hSw; (try dsimp only at hSw); go_simp; try with_reducible rfl)
  try simp only [Act.put, List.getElem_toArray, List.getElem_cons_succ, List.getElem_cons_zero, List.setIfInBounds_toArray, List.set_cons_zero, List.set_cons_succ]
  refine wpAnyH_take (i := 2) (oi := _) (v := ?_) rfl (by kernel_rfl) (by kernel_rfl) (by kernel_rfl) (fun _ _ _ h => h) (Or.inl ⟨by rfl, ?_⟩) (by assumption) ?_
  rotate_left
  · (intro W hSw; (try dsimp only at hSw); go_simp; try with_reducible rfl)
  try simp only [Act.put, List.getElem_toArray, List.getElem_cons_succ, List.getElem_cons_zero, List.setIfInBounds_toArray, List.set_cons_zero, List.set_cons_succ]
  refine wpAnyH_take (i := 3) (oi := _) (v := ?_) rfl (by kernel_rfl) (by kernel_rfl) (by kernel_rfl) (fun _ _ _ h => h) (Or.inl ⟨by rfl, ?_⟩) (by assumption) ?_
  rotate_left
  · (intro V hSw; have q1 := hSw.cells.2.1; clear hSw; go_simp; try with_reducible rfl)
  try simp only [Act.put, List.getElem_toArray, List.getElem_cons_succ, List.getElem_cons_zero, List.setIfInBounds_toArray, List.set_cons_zero, List.set_cons_succ]
  refine wpAnyH_take (i := 4) (oi := _) (v := ?_) rfl (by kernel_rfl) (by kernel_rfl) (by kernel_rfl) (fun _ _ _ h => h) (Or.inl ⟨by rfl, ?_⟩) (by assumption) ?_
  rotate_left
  · (intro W hSw; (try dsimp only at hSw); go_simp; try with_reducible rfl)
  try simp only [Act.put, List.getElem_toArray, List.getElem_cons_succ, List.getElem_cons_zero, List.setIfInBounds_toArray, List.set_cons_zero, List.set_cons_succ]
  refine wpAnyH_take (i := 5) (oi := _) (v := ?_) rfl (by kernel_rfl) (by kernel_rfl) (by kernel_rfl) (fun _ _ _ h => h) (Or.inl ⟨by rfl, ?_⟩) (by assumption) ?_
  rotate_left
  · (intro W hSw; (try dsimp only at hSw); go_simp; try with_reducible rfl)
  try simp only [Act.put, List.getElem_toArray, List.getElem_cons_succ, List.getElem_cons_zero, List.setIfInBounds_toArray, List.set_cons_zero, List.set_cons_succ]
  refine wpAnyH_take (i := 6) (oi := _) (v := ?_) rfl (by kernel_rfl) (by kernel_rfl) (by kernel_rfl) (fun _ _ _ h => h) (Or.inl ⟨by rfl, ?_⟩) (by assumption) ?_
  rotate_left
  · (intro W hSw; (try dsimp only at hSw); go_simp; try with_reducible rfl)
  try simp only [Act.put, List.getElem_toArray, List.getElem_cons_succ, List.getElem_cons_zero, List.setIfInBounds_toArray, List.set_cons_zero, List.set_cons_succ]
  refine wpAnyH_take (i := 7) (oi := _) (v := ?_) rfl (by kernel_rfl) (by kernel_rfl) (by kernel_rfl) (fun _ _ _ h => h) (Or.inl ⟨by rfl, ?_⟩) (by assumption) ?_
  rotate_left
  · (intro W hSw; (try dsimp only at hSw); go_simp; try with_reducible rfl)
  try simp only [Act.put, List.getElem_toArray, List.getElem_cons_succ, List.getElem_cons_zero, List.setIfInBounds_toArray, List.set_cons_zero, List.set_cons_succ]
  refine wpAnyH_take (i := 8) (oi := _) (v := ?_) rfl (by kernel_rfl) (by kernel_rfl) (by kernel_rfl) (fun _ _ _ h => h) (Or.inl ⟨by rfl, ?_⟩) (by assumption) ?_
  rotate_left
  · (intro V hSw; have q1 := hSw.cells.2.1; clear hSw; go_simp; try with_reducible rfl)
  try simp only [Act.put, List.getElem_toArray, List.getElem_cons_succ, List.getElem_cons_zero, List.setIfInBounds_toArray, List.set_cons_zero, List.set_cons_succ]
  refine wpAnyH_take (i := 9) (oi := _) (v := ?_) rfl (by kernel_rfl) (by kernel_rfl) (by kernel_rfl) (fun _ _ _ h => h) (Or.inl ⟨by rfl, ?_⟩) (by assumption) ?_
  rotate_left
  · (intro W hSw; (try dsimp only at hSw); go_simp; try with_reducible rfl)
  try simp only [Act.put, List.getElem_toArray, List.getElem_cons_succ, List.getElem_cons_zero, List.setIfInBounds_toArray, List.set_cons_zero, List.set_cons_succ]
  refine wpAnyH_take (i := 11) (oi := _) (v := ?_) rfl (by kernel_rfl) (by kernel_rfl) (by kernel_rfl) (fun _ _ _ h => h) (Or.inl ⟨by rfl, ?_⟩) (by assumption) ?_
  rotate_left
  · (intro W hSw; (try dsimp only at hSw); go_simp; try with_reducible rfl)
  try simp only [Act.put, List.getElem_toArray, List.getElem_cons_succ, List.getElem_cons_zero, List.setIfInBounds_toArray, List.set_cons_zero, List.set_cons_succ]
  refine wpAnyH_ready (rs := [10]) (by kernel_rfl) (by simp) ?_
  refine AllReadyH.cons rfl (fun K hK => ?_) AllReadyH.nil
  simp only [List.getElem_toArray, List.getElem_cons_succ, List.getElem_cons_zero]
  rw [if_pos (by rfl)]
  go_simp
  refine hK.out _ _ HT.out.1.drew (fun hHeld => ?_)
  clear hK K
  try simp only [Act.put, List.getElem_toArray, List.getElem_cons_succ, List.getElem_cons_zero, List.setIfInBounds_toArray, List.set_cons_zero, List.set_cons_succ]
  refine wpAnyH_take (i := 12) (oi := _) (v := ?_) rfl (by kernel_rfl) (by kernel_rfl) (by kernel_rfl) (fun _ _ _ h => h) (Or.inl ⟨by rfl, ?_⟩) (by assumption) ?_
  rotate_left
  · (intro W hSw; (try dsimp only at hSw); go_simp; try with_reducible rfl)
  try simp only [Act.put, List.getElem_toArray, List.getElem_cons_succ, List.getElem_cons_zero, List.setIfInBounds_toArray, List.set_cons_zero, List.set_cons_succ]
  refine wpAnyH_done (by kernel_rfl) ?_ _
  have n5 : NIs base w1.drew b v1 ⟨s.ep, s.nx, [], s.M⟩ := HT.out.1.still rfl rfl rfl fun _ _ => rfl
  have f5 : FN b v v1 W w1.drew := HT.out.2.1.drew
  have hb5 : w1.drew.heap[R]? = some (.cells #[.int .i64 0, .int .u64 0, .int .u64 0, .int .u64 0] TRt (0, 0)) := HT.out.2.2
  obtain ⟨w5, hw5⟩ : ∃ X, X = w1.drew := ⟨_, rfl⟩
  rw [← hw5] at n5 f5 hb5 ⊢
  clear hw5 HT hmr hwr
  have c1 := n5.cells.2.1
  have g1 := n5.cells.2.2.2.2.2
  have hwr : IntKind.u64.wrap s.nx = s.nx := by rw [HL.out.2]; decide
  have n6 := n5.setX s.nx
  have f6 := f5.trans (FN.of_setN 1 (.int .u64 s.nx))
  have hb6 := (Below.heap_setCell w5 ⟨b.N, 1, none⟩ (.int .u64 s.nx) R HO1.out.n).trans hb5
  have HR := Lib.hid (And.intro (set4 (.int .i64 11) (.int .u64 0) (.int .u64 0) (.int .u64 0) hb6) (And.intro (n6.set4 HO1.out (.int .i64 11) (.int .u64 0) (.int .u64 0) (.int .u64 0)) (f6.set4 HRl.out (.int .i64 11) (.int .u64 0) (.int .u64 0) (.int .u64 0))))
  obtain ⟨r0, r1, r2, r3, rf⟩ := get4 hb6
  clear n5 f5 hb5 n6 f6 hb6
  go_upto_region 7 with fail
  generalize (w5.setCell ⟨b.N, 1, none⟩ (.int .u64 s.nx)) = w6 at HR r0 r1 r2 r3 rf ⊢
  clear c1 g1 hwr
  go_wp2
  generalize ((((w6.setCell ⟨R, 0, none⟩ (.int .i64 11)).setCell ⟨R, 1, none⟩ (.int .u64 0)).setCell ⟨R, 2, none⟩ (.int .u64 0)).setCell ⟨R, 3, none⟩ (.int .u64 0)) = V4 at HR ⊢
  obtain ⟨q0, q1, q2, q3, -⟩ := get4 HR.out.1
  simp [bodyPost, results, Tryz.results25, go_sem, q0, q1, q2, q3]
  have hh := HR.out.2; rw [HL.out.1.symm] at hh; exact ⟨_, hh⟩
end
end Go.Proofs.YtpkkomifenlkaaaGreat.Au
/- An account's numbers: a number leaves. -/
namespace Go.Proofs.YtpkkomifenlkaaaGreat.Au
open Go Go.RowKit
set_option linter.unusedVariables false

abbrev TOp : Nat := 26
/-- an operation -/
structure Oq where
  kd : Int
  who : Int
  kc : Int
  kf : Int
  ks : Int
  sd : Int
  ac : Int
  ep : Int
  nn : Int
def Oq.cells (o : Oq) : Array Value := #[.int .i64 o.kd, .int .i64 o.who, .int .i64 o.kc, .int .i64 o.kf, .int .u64 o.ks, .int .i64 o.sd, .int .i64 o.ac, .int .u64 o.ep, .int .u64 o.nn]
def Oq.val (o : Oq) : Value := .agg o.cells
/-- what it tells that a number leaves -/
def lvC (o : Oq) (s : Nu) : Int := if o.ep ≠ s.ep then 12 else match lk o.nn s.M with
  | none => 8
  | some h => if h ≠ o.who then 9 else 0
def lvS (o : Oq) (s : Nu) : Nu := if lvC o s = 0 then ⟨s.ep, s.nx, if o.kd = 8 then Gm.putS o.nn s.L else s.L, dl o.nn s.M⟩ else s
section
variable {base : Nat} {b : Nb} {v v1 v2 : Value} {s : Nu} {W V X : World}
set_option maxRecDepth 20000 in
set_option maxHeartbeats 2000000 in
theorem leave_any (h : NIs base W b v s) (o : Oq) (hn : (s.M.map (·.1)).Nodup) (hn0 : 0 ≤ o.nn) (hn9 : o.nn ≤ 18446744073709551615) (hf : s.L.length < 900) :
    Calls Tryz.prog 26 #[.pointer (some ⟨b.N, 0, none⟩), o.val] W fun e w' => e = .returned (.int .i64 (lvC o s)) ∧ ∃ v', NIs base w' b v' (lvS o s) ∧ FN b v v' W w' := by
  obtain ⟨kd, who, kc, kf, ks, sd, ac, ep, nn⟩ := o
  have hC : lvC ⟨kd, who, kc, kf, ks, sd, ac, ep, nn⟩ s = if ep ≠ s.ep then 12 else match lk nn s.M with
    | none => 8
    | some h => if h ≠ who then 9 else 0 := rfl
  have hS : lvS ⟨kd, who, kc, kf, ks, sd, ac, ep, nn⟩ s = if lvC ⟨kd, who, kc, kf, ks, sd, ac, ep, nn⟩ s = 0 then ⟨s.ep, s.nx, if kd = 8 then Gm.putS nn s.L else s.L, dl nn s.M⟩ else s := rfl
  generalize lvS ⟨kd, who, kc, kf, ks, sd, ac, ep, nn⟩ s = s' at hS ⊢
  generalize lvC ⟨kd, who, kc, kf, ks, sd, ac, ep, nn⟩ s = cd at hC hS ⊢
  dsimp only at hn0 hn9
  have HC := Lib.hid (And.intro hC hS)
  clear hC hS
  unfold Oq.val Oq.cells
  dsimp only
  have hb := heap_alloc_new W (.cells #[.int .i64 kd, .int .i64 who, .int .i64 kc, .int .i64 kf, .int .u64 ks, .int .i64 sd, .int .i64 ac, .int .u64 ep, .int .u64 nn] TOp)
  have h1 := h.alloc (.cells #[.int .i64 kd, .int .i64 who, .int .i64 kc, .int .i64 kf, .int .u64 ks, .int .i64 sd, .int .i64 ac, .int .u64 ep, .int .u64 nn] TOp)
  have o1 := h.off_new (Nat.le_refl W.heap.size)
  have f1 : FN b v v W (W.alloc (.cells #[.int .i64 kd, .int .i64 who, .int .i64 kc, .int .i64 kf, .int .u64 ks, .int .i64 sd, .int .i64 ac, .int .u64 ep, .int .u64 nn] TOp)) := FN.refl.alloc _
  obtain ⟨w0, hw0⟩ : ∃ X, X = W.alloc (.cells #[.int .i64 kd, .int .i64 who, .int .i64 kc, .int .i64 kf, .int .u64 ks, .int .i64 sd, .int .i64 ac, .int .u64 ep, .int .u64 nn] TOp) := ⟨_, rfl⟩
  obtain ⟨R, hR⟩ : ∃ R, R = W.heap.size := ⟨_, rfl⟩
  have hRl : W.heap.size ≤ R := by omega
  rw [← hw0] at hb h1 f1
  rw [← hR] at hb o1
  have HX := Lib.hid (And.intro hb (And.intro h1 (And.intro o1 (And.intro f1 hRl))))
  have HN := Lib.hid (And.intro hn (And.intro hn0 (And.intro hn9 hf)))
  obtain ⟨hv, hz⟩ : ∃ hv, hv = (lk nn s.M).getD 0 := ⟨_, rfl⟩
  obtain ⟨is, hi⟩ : ∃ is, is = (lk nn s.M).isSome := ⟨_, rfl⟩
  have HLk : Hid (∀ V, NIs base V b v s → (Instr.lookup 57 (.map (some b.B)) (.int .u64 nn) true).run Tryz.prog V = .ok (.tuple #[.int .i64 hv, .bool is]) V) := Lib.hid fun V hV => by rw [hz, hi]; exact look_run nn b.B s.M V hV.map
  have HZ := Lib.hid (And.intro hz hi)
  clear hb h1 o1 f1 h hRl hn hn0 hn9 hf hz hi
  go_enter Tryz.func26, Tryz.ntmps26
  go_upto_region 1 with fail
  rw [← hw0, ← hR]
  clear hw0 hR
  refine wp_region_held_drew (S := fun V => NIs base V b v s ∧ V.heap[R]? = some (.cells #[.int .i64 kd, .int .i64 who, .int .i64 kc, .int .i64 kf, .int .u64 ks, .int .i64 sd, .int .i64 ac, .int .u64 ep, .int .u64 nn] TOp (0, 0))) (by kernel_rfl) ⟨HX.out.2.1.drew, HX.out.1⟩ (fun hHeld => ?_)
  refine wpAnyH_take (i := 0) (oi := _) (v := ?_) rfl (by kernel_rfl) (by kernel_rfl) (by kernel_rfl) (fun _ _ _ h => h) (Or.inl ⟨by rfl, ?_⟩) (by assumption) ?_
  rotate_left
  · (intro W hSw; (try dsimp only at hSw); go_simp; try with_reducible rfl)
  try simp only [Act.put, List.getElem_toArray, List.getElem_cons_zero, List.setIfInBounds_toArray, List.set_cons_zero, List.set_cons_succ]
  refine wpAnyH_take (i := 1) (oi := _) (v := ?_) rfl (by kernel_rfl) (by kernel_rfl) (by kernel_rfl) (fun _ _ _ h => h) (Or.inl ⟨by rfl, ?_⟩) (by assumption) ?_
  rotate_left
  · (intro W hSw; (try dsimp only at hSw); go_simp; try with_reducible rfl)
  try simp only [Act.put, List.getElem_toArray, List.getElem_cons_succ, List.getElem_cons_zero, List.setIfInBounds_toArray, List.set_cons_zero, List.set_cons_succ]
  refine wpAnyH_take (i := 2) (oi := _) (v := ?_) rfl (by kernel_rfl) (by kernel_rfl) (by kernel_rfl) (fun _ _ _ h => h) (Or.inl ⟨by rfl, ?_⟩) (by assumption) ?_
  rotate_left
  · (intro W hSw; (try dsimp only at hSw); go_simp; try with_reducible rfl)
  try simp only [Act.put, List.getElem_toArray, List.getElem_cons_succ, List.getElem_cons_zero, List.setIfInBounds_toArray, List.set_cons_zero, List.set_cons_succ]
  refine wpAnyH_take (i := 3) (oi := _) (v := ?_) rfl (by kernel_rfl) (by kernel_rfl) (by kernel_rfl) (fun _ _ _ h => h) (Or.inl ⟨by rfl, ?_⟩) (by assumption) ?_
  rotate_left
  · (intro V hSw; obtain ⟨q0, q1, q2, q3, -⟩ := hSw.1.cells; clear hSw; go_simp; try with_reducible rfl)
  try simp only [Act.put, List.getElem_toArray, List.getElem_cons_succ, List.getElem_cons_zero, List.setIfInBounds_toArray, List.set_cons_zero, List.set_cons_succ]
  refine wpAnyH_take (i := 4) (oi := _) (v := ?_) rfl (by kernel_rfl) (by kernel_rfl) (by kernel_rfl) (fun _ _ _ h => h) (Or.inl ⟨by rfl, ?_⟩) (by assumption) ?_
  rotate_left
  · (intro W hSw; (try dsimp only at hSw); go_simp; try with_reducible rfl)
  try simp only [Act.put, List.getElem_toArray, List.getElem_cons_succ, List.getElem_cons_zero, List.setIfInBounds_toArray, List.set_cons_zero, List.set_cons_succ]
  refine wpAnyH_take (i := 5) (oi := _) (v := ?_) rfl (by kernel_rfl) (by kernel_rfl) (by kernel_rfl) (fun _ _ _ h => h) (Or.inl ⟨by rfl, ?_⟩) (by assumption) ?_
  rotate_left
  · (intro V hSw; have q := fun i => cell_of_row V R i _ _ (0, 0) hSw.2; have q0 := q 0; have q1 := q 1; have q6 := q 7; have q7 := q 8; clear q hSw; go_simp; try with_reducible rfl)
  try simp only [Act.put, List.getElem_toArray, List.getElem_cons_succ, List.getElem_cons_zero, List.setIfInBounds_toArray, List.set_cons_zero, List.set_cons_succ]
  refine wpAnyH_take (i := 6) (oi := _) (v := ?_) rfl (by kernel_rfl) (by kernel_rfl) (by kernel_rfl) (fun _ _ _ h => h) (Or.inl ⟨by rfl, ?_⟩) (by assumption) ?_
  rotate_left
  · (intro V hSw; have q := HLk.out V hSw.1; clear hSw; go_simp; try with_reducible rfl)
  try simp only [Act.put, List.getElem_toArray, List.getElem_cons_succ, List.getElem_cons_zero, List.setIfInBounds_toArray, List.set_cons_zero, List.set_cons_succ]
  refine wpAnyH_take (i := 7) (oi := _) (v := ?_) rfl (by kernel_rfl) (by kernel_rfl) (by kernel_rfl) (fun _ _ _ h => h) (Or.inl ⟨by rfl, ?_⟩) (by assumption) ?_
  rotate_left
  · (intro W hSw; (try dsimp only at hSw); go_simp; try with_reducible rfl)
  try simp only [Act.put, List.getElem_toArray, List.getElem_cons_succ, List.getElem_cons_zero, List.setIfInBounds_toArray, List.set_cons_zero, List.set_cons_succ]
  refine wpAnyH_take (i := 8) (oi := _) (v := ?_) rfl (by kernel_rfl) (by kernel_rfl) (by kernel_rfl) (fun _ _ _ h => h) (Or.inl ⟨by rfl, ?_⟩) (by assumption) ?_
  rotate_left
  · (intro W hSw; (try dsimp only at hSw); go_simp; try with_reducible rfl)
  try simp only [Act.put, List.getElem_toArray, List.getElem_cons_succ, List.getElem_cons_zero, List.setIfInBounds_toArray, List.set_cons_zero, List.set_cons_succ]
  refine wpAnyH_take (i := 9) (oi := _) (v := ?_) rfl (by kernel_rfl) (by kernel_rfl) (by kernel_rfl) (fun _ _ _ h => h) (Or.inl ⟨by rfl, ?_⟩) (by assumption) ?_
  rotate_left
  · (intro W hSw; (try dsimp only at hSw); go_simp; try with_reducible rfl)
  try simp only [Act.put, List.getElem_toArray, List.getElem_cons_succ, List.getElem_cons_zero, List.setIfInBounds_toArray, List.set_cons_zero, List.set_cons_succ]
  refine wpAnyH_take (i := 10) (oi := _) (v := ?_) rfl (by kernel_rfl) (by kernel_rfl) (by kernel_rfl) (fun _ _ _ h => h) (Or.inl ⟨by rfl, ?_⟩) (by assumption) ?_
  rotate_left
  · (intro W hSw; (try dsimp only at hSw); go_simp; try with_reducible rfl)
  try simp only [Act.put, List.getElem_toArray, List.getElem_cons_succ, List.getElem_cons_zero, List.setIfInBounds_toArray, List.set_cons_zero, List.set_cons_succ]
  refine wpAnyH_take (i := 11) (oi := _) (v := ?_) rfl (by kernel_rfl) (by kernel_rfl) (by kernel_rfl) (fun _ _ _ h => h) (Or.inl ⟨by rfl, ?_⟩) (by assumption) ?_
  rotate_left
  · (intro W hSw; (try dsimp only at hSw); go_simp; try with_reducible rfl)
  try simp only [Act.put, List.getElem_toArray, List.getElem_cons_succ, List.getElem_cons_zero, List.setIfInBounds_toArray, List.set_cons_zero, List.set_cons_succ]
  refine wpAnyH_done (by kernel_rfl) ?_ _
  obtain ⟨w1, hw1⟩ : ∃ X, X = w0.drew := ⟨_, rfl⟩
  have H1 : Hid (NIs base w1 b v s ∧ w1.heap[R]? = some (.cells #[.int .i64 kd, .int .i64 who, .int .i64 kc, .int .i64 kf, .int .u64 ks, .int .i64 sd, .int .i64 ac, .int .u64 ep, .int .u64 nn] TOp (0, 0)) ∧ FN b v v W w1) := Lib.hid (by rw [hw1]; exact ⟨HX.out.2.1.drew, HX.out.1, HX.out.2.2.2.1.drew⟩)
  rw [← hw1]
  clear hw1
  go_upto_region 2 with fail
  obtain ⟨x, hx⟩ : ∃ x, x = (ep != s.ep) := ⟨_, rfl⟩
  have HE := Lib.hid hx
  refine wp_region_held_drew (S := fun V => NIs base V b v s ∧ V.heap[R]? = some (.cells #[.int .i64 kd, .int .i64 who, .int .i64 kc, .int .i64 kf, .int .u64 ks, .int .i64 sd, .int .i64 ac, .int .u64 ep, .int .u64 nn] TOp (0, 0))) (by kernel_rfl) ⟨H1.out.1.drew, H1.out.2.1⟩ (fun hHeld => ?_)
  refine wpAnyH_take (i := 0) (oi := _) (v := ?_) rfl (by kernel_rfl) (by kernel_rfl) (by kernel_rfl) (fun _ _ _ h => h) (Or.inl ⟨by rfl, ?_⟩) (by assumption) ?_
  rotate_left
  · (intro W hSw; (try dsimp only at hSw); go_simp; try with_reducible rfl)
  try simp only [Act.put, List.getElem_toArray, List.getElem_cons_zero, List.setIfInBounds_toArray, List.set_cons_zero, List.set_cons_succ]
  refine wpAnyH_take (i := 1) (oi := _) (v := ?_) rfl (by kernel_rfl) (by kernel_rfl) (by kernel_rfl) (fun _ _ _ h => h) (Or.inl ⟨by rfl, ?_⟩) (by assumption) ?_
  rotate_left
  · (intro V hSw; have q := fun i => cell_of_row V R i _ _ (0, 0) hSw.2; have q0 := q 0; have q1 := q 1; have q6 := q 7; have q7 := q 8; clear q hSw; go_simp; try with_reducible rfl)
  try simp only [Act.put, List.getElem_toArray, List.getElem_cons_succ, List.getElem_cons_zero, List.setIfInBounds_toArray, List.set_cons_zero, List.set_cons_succ]
  refine wpAnyH_take (i := 2) (oi := _) (v := ?_) rfl (by kernel_rfl) (by kernel_rfl) (by kernel_rfl) (fun _ _ _ h => h) (Or.inl ⟨by rfl, ?_⟩) (by assumption) ?_
  rotate_left
  · (intro W hSw; (try dsimp only at hSw); go_simp; try with_reducible rfl)
  try simp only [Act.put, List.getElem_toArray, List.getElem_cons_succ, List.getElem_cons_zero, List.setIfInBounds_toArray, List.set_cons_zero, List.set_cons_succ]
  refine wpAnyH_take (i := 3) (oi := _) (v := ?_) rfl (by kernel_rfl) (by kernel_rfl) (by kernel_rfl) (fun _ _ _ h => h) (Or.inl ⟨by rfl, ?_⟩) (by assumption) ?_
  rotate_left
  · (intro W hSw; (try dsimp only at hSw); go_simp; try with_reducible rfl)
  try simp only [Act.put, List.getElem_toArray, List.getElem_cons_succ, List.getElem_cons_zero, List.setIfInBounds_toArray, List.set_cons_zero, List.set_cons_succ]
  refine wpAnyH_take (i := 4) (oi := _) (v := ?_) rfl (by kernel_rfl) (by kernel_rfl) (by kernel_rfl) (fun _ _ _ h => h) (Or.inl ⟨by rfl, ?_⟩) (by assumption) ?_
  rotate_left
  · (intro W hSw; (try dsimp only at hSw); go_simp; try with_reducible rfl)
  try simp only [Act.put, List.getElem_toArray, List.getElem_cons_succ, List.getElem_cons_zero, List.setIfInBounds_toArray, List.set_cons_zero, List.set_cons_succ]
  refine wpAnyH_take (i := 5) (oi := _) (v := ?_) rfl (by kernel_rfl) (by kernel_rfl) (by kernel_rfl) (fun _ _ _ h => h) (Or.inl ⟨by rfl, ?_⟩) (by assumption) ?_
  rotate_left
  · (intro V hSw; obtain ⟨q0, q1, q2, q3, -⟩ := hSw.1.cells; clear hSw; go_simp; try with_reducible rfl)
  try simp only [Act.put, List.getElem_toArray, List.getElem_cons_succ, List.getElem_cons_zero, List.setIfInBounds_toArray, List.set_cons_zero, List.set_cons_succ]
  refine wpAnyH_take (i := 6) (oi := _) (v := ?_) rfl (by kernel_rfl) (by kernel_rfl) (by kernel_rfl) (fun _ _ _ h => h) (Or.inl ⟨by rfl, ?_⟩) (by assumption) ?_
  rotate_left
  · (intro V hSw; clear hSw; go_simp; try with_reducible rfl)
  try simp only [Act.put, List.getElem_toArray, List.getElem_cons_succ, List.getElem_cons_zero, List.setIfInBounds_toArray, List.set_cons_zero, List.set_cons_succ]
  refine wpAnyH_take (i := 7) (oi := _) (v := ?_) rfl (by kernel_rfl) (by kernel_rfl) (by kernel_rfl) (fun _ _ _ h => h) (Or.inl ⟨by rfl, ?_⟩) (by assumption) ?_
  rotate_left
  · (intro W hSw; (try dsimp only at hSw); go_simp; try with_reducible rfl)
  try simp only [Act.put, List.getElem_toArray, List.getElem_cons_succ, List.getElem_cons_zero, List.setIfInBounds_toArray, List.set_cons_zero, List.set_cons_succ]
  refine wpAnyH_done (by kernel_rfl) ?_ _
  clear hx
  obtain ⟨w2, hw2⟩ : ∃ X, X = w1.drew := ⟨_, rfl⟩
  have H2 : Hid (NIs base w2 b v s ∧ w2.heap[R]? = some (.cells #[.int .i64 kd, .int .i64 who, .int .i64 kc, .int .i64 kf, .int .u64 ks, .int .i64 sd, .int .i64 ac, .int .u64 ep, .int .u64 nn] TOp (0, 0)) ∧ FN b v v W w2) := Lib.hid (by rw [hw2]; exact ⟨H1.out.1.drew, H1.out.2.1, H1.out.2.2.drew⟩)
  rw [← hw2]
  clear hw2
  cases x with
  | true =>
    have hxb : (ep != s.ep) = true := HE.out.symm
    have hne : ep ≠ s.ep := by have := HE.out.symm; simpa using this
    have hcd : cd = 12 := by rw [HC.out.1]; rw [if_pos hne]
    have hs' : s' = s := by rw [HC.out.2, if_neg (by rw [hcd]; decide)]
    have HF := Lib.hid (And.intro hcd hs')
    clear hcd hs'
    go_wp2
    refine bodyPost_ret (v := .int .i64 12) (by simp [results, Tryz.results26, go_sem]) rfl ?_
    exact ⟨by rw [HF.out.1], _, by rw [HF.out.2]; exact H2.out.1, H2.out.2.2⟩
  | false =>
    have hxb : (ep != s.ep) = false := HE.out.symm
    have heq : ep = s.ep := by have := HE.out.symm; simpa using this
    have HEq := Lib.hid heq
    clear heq HE
    cases is with
    | false =>
      have hlk : lk nn s.M = none := by have := HZ.out.2.symm; simpa using this
      have HK := Lib.hid hlk
      clear hlk
      have hcd : cd = 8 := by rw [HC.out.1]; rw [if_neg (by simpa using HEq.out), HK.out]
      have hs' : s' = s := by rw [HC.out.2, if_neg (by rw [hcd]; decide)]
      have HF := Lib.hid (And.intro hcd hs')
      clear hcd hs'
      go_wp2
      refine bodyPost_ret (v := .int .i64 8) (by simp [results, Tryz.results26, go_sem]) rfl ?_
      exact ⟨by rw [HF.out.1], _, by rw [HF.out.2]; exact H2.out.1, H2.out.2.2⟩
    | true =>
      obtain ⟨hv', hlk⟩ : ∃ y, lk nn s.M = some y := Option.isSome_iff_exists.1 HZ.out.2.symm
      have hvv : hv = hv' := by rw [HZ.out.1, hlk]; rfl
      subst hvv
      have HK := Lib.hid hlk
      clear hlk HZ
      obtain ⟨p0, p1⟩ : w2.cell? ⟨R, 0, none⟩ = some (.int .i64 kd) ∧ w2.cell? ⟨R, 1, none⟩ = some (.int .i64 who) := ⟨cell_of_row w2 R 0 _ _ (0, 0) H2.out.2.1, cell_of_row w2 R 1 _ _ (0, 0) H2.out.2.1⟩
      by_cases hw : hv = who
      · have hwb : (hv != who) = false := by simpa using hw
        have hcd : cd = 0 := by rw [HC.out.1, if_neg (by simpa using HEq.out), HK.out]; simp [hw]
        have hs' : s' = ⟨s.ep, s.nx, if kd = 8 then Gm.putS nn s.L else s.L, dl nn s.M⟩ := by rw [HC.out.2, if_pos hcd]
        have HF := Lib.hid (And.intro hcd hs')
        clear hcd hs' hw
        go_upto_region 8 with fail
        refine wp_region_held_drew (S := fun V => (NIs base V b v s ∨ NIs base V b v ⟨s.ep, s.nx, s.L, dl nn s.M⟩) ∧ V.heap[R]? = some (.cells #[.int .i64 kd, .int .i64 who, .int .i64 kc, .int .i64 kf, .int .u64 ks, .int .i64 sd, .int .i64 ac, .int .u64 ep, .int .u64 nn] TOp (0, 0))) (by kernel_rfl) ⟨Or.inl H2.out.1.drew, H2.out.2.1⟩ (fun hHeld => ?_)
        have H3 : Hid (NIs base w2.drew b v s ∧ w2.drew.heap[R]? = some (.cells #[.int .i64 kd, .int .i64 who, .int .i64 kc, .int .i64 kf, .int .u64 ks, .int .i64 sd, .int .i64 ac, .int .u64 ep, .int .u64 nn] TOp (0, 0)) ∧ FN b v v W w2.drew) := Lib.hid ⟨H2.out.1.drew, H2.out.2.1, H2.out.2.2.drew⟩
        obtain ⟨w3, hw3⟩ : ∃ X, X = w2.drew := ⟨_, rfl⟩
        rw [← hw3] at H3 hHeld ⊢
        clear hw3 H2 p0 p1
        refine wpAnyH_take (i := 0) (oi := _) (v := ?_) rfl (by kernel_rfl) (by kernel_rfl) (by kernel_rfl) (fun _ _ _ h => h) (Or.inl ⟨by rfl, ?_⟩) (by assumption) ?_
        rotate_left
        · (intro W hSw; (try dsimp only at hSw); go_simp; try with_reducible rfl)
        try simp only [Act.put, List.getElem_toArray, List.getElem_cons_zero, List.setIfInBounds_toArray, List.set_cons_zero, List.set_cons_succ]
        refine wpAnyH_take (i := 1) (oi := _) (v := ?_) rfl (by kernel_rfl) (by kernel_rfl) (by kernel_rfl) (fun _ _ _ h => h) (Or.inl ⟨by rfl, ?_⟩) (by assumption) ?_
        rotate_left
        · (intro W hSw; (try dsimp only at hSw); go_simp; try with_reducible rfl)
        try simp only [Act.put, List.getElem_toArray, List.getElem_cons_succ, List.getElem_cons_zero, List.setIfInBounds_toArray, List.set_cons_zero, List.set_cons_succ]
        refine wpAnyH_take (i := 2) (oi := _) (v := ?_) rfl (by kernel_rfl) (by kernel_rfl) (by kernel_rfl) (fun _ _ _ h => h) (Or.inl ⟨by rfl, ?_⟩) (by assumption) ?_
        rotate_left
        · (intro W hSw; (try dsimp only at hSw); go_simp; try with_reducible rfl)
        try simp only [Act.put, List.getElem_toArray, List.getElem_cons_succ, List.getElem_cons_zero, List.setIfInBounds_toArray, List.set_cons_zero, List.set_cons_succ]
        refine wpAnyH_take (i := 3) (oi := _) (v := ?_) rfl (by kernel_rfl) (by kernel_rfl) (by kernel_rfl) (fun _ _ _ h => h) (Or.inl ⟨by rfl, ?_⟩) (by assumption) ?_
        rotate_left
        · (intro V hSw; have q3 : V.cell? ⟨b.N, 3, none⟩ = some (.map (some b.B)) := (by rcases hSw.1 with h | h <;> exact h.cells.2.2.2.1); clear hSw; go_simp; try with_reducible rfl)
        try simp only [Act.put, List.getElem_toArray, List.getElem_cons_succ, List.getElem_cons_zero, List.setIfInBounds_toArray, List.set_cons_zero, List.set_cons_succ]
        refine wpAnyH_take (i := 4) (oi := _) (v := ?_) rfl (by kernel_rfl) (by kernel_rfl) (by kernel_rfl) (fun _ _ _ h => h) (Or.inl ⟨by rfl, ?_⟩) (by assumption) ?_
        rotate_left
        · (intro W hSw; (try dsimp only at hSw); go_simp; try with_reducible rfl)
        try simp only [Act.put, List.getElem_toArray, List.getElem_cons_succ, List.getElem_cons_zero, List.setIfInBounds_toArray, List.set_cons_zero, List.set_cons_succ]
        refine wpAnyH_take (i := 5) (oi := _) (v := ?_) rfl (by kernel_rfl) (by kernel_rfl) (by kernel_rfl) (fun _ _ _ h => h) (Or.inl ⟨by rfl, ?_⟩) (by assumption) ?_
        rotate_left
        · (intro V hSw; have q := fun i => cell_of_row V R i _ _ (0, 0) hSw.2; have q0 := q 0; have q1 := q 1; have q6 := q 7; have q7 := q 8; clear q hSw; go_simp; try with_reducible rfl)
        try simp only [Act.put, List.getElem_toArray, List.getElem_cons_succ, List.getElem_cons_zero, List.setIfInBounds_toArray, List.set_cons_zero, List.set_cons_succ]
        obtain ⟨w4, hr4, hm4, ho4⟩ := del_run nn b.B s.M 0 w3 H3.out.1.map HN.out.1
        have n4 := H3.out.1.onB hm4 ho4
        have hb4 := (ho4.block R HX.out.2.2.1.b).trans H3.out.2.1
        have H4 := Lib.hid (And.intro n4 (And.intro hb4 (H3.out.2.2.trans (FN.of_onB ho4))))
        clear hm4 ho4 n4 hb4
        refine wpAnyH_ready (rs := [6]) (by kernel_rfl) (by simp) ?_
        refine AllReadyH.cons rfl (fun K hK => ?_) AllReadyH.nil
        simp only [List.getElem_toArray, List.getElem_cons_succ, List.getElem_cons_zero]
        rw [if_pos (by rfl)]
        go_simp
        refine hK.out _ _ ⟨Or.inr H4.out.1, H4.out.2.1⟩ (fun hHeld => ?_)
        clear hK K
        try simp only [Act.put, List.getElem_toArray, List.getElem_cons_succ, List.getElem_cons_zero, List.setIfInBounds_toArray, List.set_cons_zero, List.set_cons_succ]
        refine wpAnyH_done (by kernel_rfl) ?_ _
        clear hr4 H3
        have p0 := cell_of_row w4 R 0 _ _ (0, 0) H4.out.2.1
        by_cases h8 : kd = 8
        · have hk8 : (kd == 8) = true := by simpa using h8
          go_upto_region 10 with fail
          refine wp_region_held_drew (S := fun V => (NIs base V b v ⟨s.ep, s.nx, s.L, dl nn s.M⟩ ∨ ∃ v' L', NIs base V b v' ⟨s.ep, s.nx, L', dl nn s.M⟩) ∧ V.heap[R]? = some (.cells #[.int .i64 kd, .int .i64 who, .int .i64 kc, .int .i64 kf, .int .u64 ks, .int .i64 sd, .int .i64 ac, .int .u64 ep, .int .u64 nn] TOp (0, 0))) (by kernel_rfl) ⟨Or.inl H4.out.1.drew, H4.out.2.1⟩ (fun hHeld => ?_)
          have H5 : Hid (NIs base w4.drew b v ⟨s.ep, s.nx, s.L, dl nn s.M⟩ ∧ w4.drew.heap[R]? = some (.cells #[.int .i64 kd, .int .i64 who, .int .i64 kc, .int .i64 kf, .int .u64 ks, .int .i64 sd, .int .i64 ac, .int .u64 ep, .int .u64 nn] TOp (0, 0)) ∧ FN b v v W w4.drew) := Lib.hid ⟨H4.out.1.drew, H4.out.2.1, H4.out.2.2.drew⟩
          obtain ⟨w5, hw5⟩ : ∃ X, X = w4.drew := ⟨_, rfl⟩
          rw [← hw5] at H5 hHeld ⊢
          clear hw5 H4 p0
          refine wpAnyH_take (i := 0) (oi := _) (v := ?_) rfl (by kernel_rfl) (by kernel_rfl) (by kernel_rfl) (fun _ _ _ h => h) (Or.inl ⟨by rfl, ?_⟩) (by assumption) ?_
          rotate_left
          · (intro W hSw; (try dsimp only at hSw); go_simp; try with_reducible rfl)
          try simp only [Act.put, List.getElem_toArray, List.getElem_cons_zero, List.setIfInBounds_toArray, List.set_cons_zero, List.set_cons_succ]
          refine wpAnyH_take (i := 1) (oi := _) (v := ?_) rfl (by kernel_rfl) (by kernel_rfl) (by kernel_rfl) (fun _ _ _ h => h) (Or.inl ⟨by rfl, ?_⟩) (by assumption) ?_
          rotate_left
          · (intro W hSw; (try dsimp only at hSw); go_simp; try with_reducible rfl)
          try simp only [Act.put, List.getElem_toArray, List.getElem_cons_succ, List.getElem_cons_zero, List.setIfInBounds_toArray, List.set_cons_zero, List.set_cons_succ]
          refine wpAnyH_take (i := 2) (oi := _) (v := ?_) rfl (by kernel_rfl) (by kernel_rfl) (by kernel_rfl) (fun _ _ _ h => h) (Or.inl ⟨by rfl, ?_⟩) (by assumption) ?_
          rotate_left
          · (intro W hSw; (try dsimp only at hSw); go_simp; try with_reducible rfl)
          try simp only [Act.put, List.getElem_toArray, List.getElem_cons_succ, List.getElem_cons_zero, List.setIfInBounds_toArray, List.set_cons_zero, List.set_cons_succ]
          refine wpAnyH_take (i := 3) (oi := _) (v := ?_) rfl (by kernel_rfl) (by kernel_rfl) (by kernel_rfl) (fun _ _ _ h => h) (Or.inl ⟨by rfl, ?_⟩) (by assumption) ?_
          rotate_left
          · (intro V hSw; obtain ⟨q0, q1, q2, q3, -⟩ : V.cell? ⟨b.N, 0, none⟩ = some (.int .u64 s.ep) ∧ V.cell? ⟨b.N, 1, none⟩ = some (.int .u64 s.nx) ∧ V.cell? ⟨b.N, 2, none⟩ = some (.pointer (some ⟨b.H, 0, none⟩)) ∧ V.cell? ⟨b.N, 3, none⟩ = some (.map (some b.B)) ∧ True := (by rcases hSw.1 with h | ⟨_, _, h⟩ <;> exact ⟨h.cells.1, h.cells.2.1, h.cells.2.2.1, h.cells.2.2.2.1, trivial⟩); clear hSw; go_simp; try with_reducible rfl)
          try simp only [Act.put, List.getElem_toArray, List.getElem_cons_succ, List.getElem_cons_zero, List.setIfInBounds_toArray, List.set_cons_zero, List.set_cons_succ]
          refine wpAnyH_take (i := 4) (oi := _) (v := ?_) rfl (by kernel_rfl) (by kernel_rfl) (by kernel_rfl) (fun _ _ _ h => h) (Or.inl ⟨by rfl, ?_⟩) (by assumption) ?_
          rotate_left
          · (intro W hSw; (try dsimp only at hSw); go_simp; try with_reducible rfl)
          try simp only [Act.put, List.getElem_toArray, List.getElem_cons_succ, List.getElem_cons_zero, List.setIfInBounds_toArray, List.set_cons_zero, List.set_cons_succ]
          refine wpAnyH_take (i := 5) (oi := _) (v := ?_) rfl (by kernel_rfl) (by kernel_rfl) (by kernel_rfl) (fun _ _ _ h => h) (Or.inl ⟨by rfl, ?_⟩) (by assumption) ?_
          rotate_left
          · (intro V hSw; have q := fun i => cell_of_row V R i _ _ (0, 0) hSw.2; have q0 := q 0; have q1 := q 1; have q6 := q 7; have q7 := q 8; clear q hSw; go_simp; try with_reducible rfl)
          try simp only [Act.put, List.getElem_toArray, List.getElem_cons_succ, List.getElem_cons_zero, List.setIfInBounds_toArray, List.set_cons_zero, List.set_cons_succ]
          refine wpAnyH_ready (rs := [6]) (by kernel_rfl) (by simp) ?_
          refine AllReadyH.cons rfl (fun K hK => ?_) AllReadyH.nil
          simp only [List.getElem_toArray, List.getElem_cons_succ, List.getElem_cons_zero]
          rw [if_pos (by rfl)]
          go_simp
          refine (Gp.gput_any base b.H v s.L nn w5 H5.out.1.gh (by have := H5.out.1.lt.1; have := H5.out.1.low.1; omega) HN.out.2.1 HN.out.2.2.1 HN.out.2.2.2).mono ?_
          rintro _ w6 ⟨rfl, v6, hg6, -, hf6⟩
          have n6 := H5.out.1.onH hg6 hf6
          have ff6 := H5.out.2.2.trans (FN.of_fr hf6)
          have hb6 := (hf6.block R (ltO H5.out.2.1) HX.out.2.2.1.h HX.out.2.2.1.o).trans H5.out.2.1
          have H6 := Lib.hid (And.intro n6 (And.intro hb6 ff6))
          clear hg6 hf6 n6 ff6 hb6
          go_wp2_with fail
          refine hK.out _ _ ⟨Or.inr ⟨_, _, H6.out.1⟩, H6.out.2.1⟩ (fun hHeld => ?_)
          clear hK K
          try simp only [Act.put, List.getElem_toArray, List.getElem_cons_succ, List.getElem_cons_zero, List.setIfInBounds_toArray, List.set_cons_zero, List.set_cons_succ]
          refine wpAnyH_done (by kernel_rfl) ?_ _
          have hh := H6.out.1
          have H7 : Hid (cd = 0 ∧ NIs base w6 b v6 s' ∧ FN b v v6 W w6) := Lib.hid ⟨HF.out.1, by rw [HF.out.2, if_pos h8]; exact hh, H6.out.2.2⟩
          clear hh
          go_wp2
          refine bodyPost_ret (v := .int .i64 0) (by simp [results, Tryz.results26, go_sem]) rfl ?_
          exact ⟨by rw [H7.out.1], _, H7.out.2.1, H7.out.2.2⟩
        · have hk8 : (kd == 8) = false := by simpa using h8
          have hh := H4.out.1
          have H7 : Hid (cd = 0 ∧ NIs base w4 b v s' ∧ FN b v v W w4) := Lib.hid ⟨HF.out.1, by rw [HF.out.2, if_neg h8]; exact hh, H4.out.2.2⟩
          clear hh
          go_wp2
          refine bodyPost_ret (v := .int .i64 0) (by simp [results, Tryz.results26, go_sem]) rfl ?_
          exact ⟨by rw [H7.out.1], _, H7.out.2.1, H7.out.2.2⟩
      · have hwb : (hv != who) = true := by simpa using hw
        have hcd : cd = 9 := by rw [HC.out.1]; rw [if_neg (by simpa using HEq.out), HK.out]; simp [hw]
        have hs' : s' = s := by rw [HC.out.2, if_neg (by rw [hcd]; decide)]
        have HF := Lib.hid (And.intro hcd hs')
        clear hcd hs'
        go_wp2
        refine bodyPost_ret (v := .int .i64 9) (by simp [results, Tryz.results26, go_sem]) rfl ?_
        exact ⟨by rw [HF.out.1], _, by rw [HF.out.2]; exact H2.out.1, H2.out.2.2⟩
end
end Go.Proofs.YtpkkomifenlkaaaGreat.Au
