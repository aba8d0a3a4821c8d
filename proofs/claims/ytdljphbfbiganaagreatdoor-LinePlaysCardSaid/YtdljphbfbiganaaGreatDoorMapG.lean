import Derived.Test.YtdljphbfbiganaaGreatDoorGCommon
import Derived.MapKept
/- Maps of whatever keys and elements: what the map's operations do, told once. -/
namespace Go.Proofs.YtdljphbfbiganaaGreatDoor.Mg
open Go Go.RowKit Go.MapKept
set_option linter.unusedSectionVars false

/-- a kind of map: its types, how keys and elements lie -/
structure Kit (κ ν : Type) where
  mty : TypeId
  kty : TypeId
  ety : TypeId
  kv : κ → Value
  vv : ν → Value
  zv : Value
section
variable {κ ν : Type} [DecidableEq κ]
/-- an entry with its stamp -/
def Kit.toE (K : Kit κ ν) (x : (κ × ν) × Nat) : MapEntry := { key := K.kv x.1.1, val := K.vv x.1.2, born := x.2 }
/-- where a key stands first -/
def Kit.at (K : Kit κ ν) (k : κ) : List ((κ × ν) × Nat) → Nat → Option (Nat × Value)
  | [], _ => none
  | x :: l, i => if k = x.1.1 then some (i, K.vv x.1.2) else K.at k l (i + 1)
/-- what is asked of a kind of map -/
structure Kit.Ok (K : Kit κ ν) : Prop where
  hm : Tryz.prog.underlying K.mty = some (.map K.kty K.ety)
  hck : ∀ (em : Bool) (k : κ) (W : World), (Instr.checkKey em 10000 K.kty (K.kv k)).run Tryz.prog W = .ok () W
  hfind : ∀ (k : κ) (l : List ((κ × ν) × Nat)) (W : World), (Instr.findKey K.kty (K.kv k) (l.map K.toE)).run Tryz.prog W = .ok (K.at k l 0) W
  hst : ∀ (k : κ) (W : World), (Instr.keyThatStays (K.kv k) (K.kv k)).run Tryz.prog W = .ok (K.kv k) W
  hz : ∀ (W : World), (zeroValue K.ety).run Tryz.prog W = .ok K.zv W
/-- what a key has -/
def lk (k : κ) : List (κ × ν) → Option ν
  | [] => none
  | x :: l => if k = x.1 then some x.2 else lk k l
/-- behind 'm[k] = v' -/
def ins (k : κ) (v : ν) : List (κ × ν) → List (κ × ν)
  | [] => [(k, v)]
  | x :: l => if k = x.1 then (k, v) :: l else x :: ins k v l
/-- behind 'delete(m, k)' -/
def del (k : κ) : List (κ × ν) → List (κ × ν)
  | [] => []
  | x :: l => if k = x.1 then l else x :: del k l
theorem lk_ins (k k' : κ) (v : ν) : ∀ M : List (κ × ν), lk k' (ins k v M) = if k' = k then some v else lk k' M
  | [] => by simp [ins, lk]
  | x :: M => by
    unfold ins
    by_cases h : k = x.1
    · rw [if_pos h]
      unfold lk
      by_cases h' : k' = k
      · simp [h']
      · have : ¬ k' = x.1 := fun e => h' (e.trans h.symm)
        simp [h', this]
    · rw [if_neg h]
      unfold lk
      rw [lk_ins k k' v M]
      by_cases h' : k' = k
      · subst h'; simp [h]
      · simp [h']
theorem lk_none {k : κ} : ∀ {M : List (κ × ν)}, lk k M = none ↔ ∀ x ∈ M, x.1 ≠ k
  | [] => by simp [lk]
  | y :: M => by
    unfold lk
    by_cases hk : k = y.1
    · simp [hk]
    · simp only [hk, if_false, List.mem_cons, forall_eq_or_imp]
      rw [lk_none]
      exact ⟨fun h => ⟨fun e => hk e.symm, h⟩, fun h => h.2⟩
theorem lk_some {k : κ} {v : ν} : ∀ {M : List (κ × ν)}, lk k M = some v → (k, v) ∈ M
  | [], h => by cases h
  | y :: M, h => by
    unfold lk at h
    by_cases hk : k = y.1
    · rw [if_pos hk] at h; injection h with h; rw [hk, ← h]; simp
    · rw [if_neg hk] at h; exact List.mem_cons_of_mem _ (lk_some h)
theorem lk_mem {k : κ} {v : ν} : ∀ {M : List (κ × ν)}, (M.map (·.1)).Nodup → (k, v) ∈ M → lk k M = some v
  | [], _, h => by cases h
  | y :: M, hn, h => by
    rw [List.map_cons, List.nodup_cons] at hn
    unfold lk
    rcases List.mem_cons.1 h with rfl | h
    · simp
    · have : k ≠ y.1 := fun e => hn.1 (by rw [← e]; exact List.mem_map_of_mem (f := (·.1)) h)
      rw [if_neg this]; exact lk_mem hn.2 h
theorem mem_ins {k : κ} {v : ν} {x : κ × ν} : ∀ {M : List (κ × ν)}, x ∈ ins k v M → x = (k, v) ∨ x ∈ M
  | [], h => by simp [ins] at h; exact .inl h
  | y :: M, h => by
    unfold ins at h
    by_cases hk : k = y.1
    · rw [if_pos hk] at h
      rcases List.mem_cons.1 h with h | h
      · exact .inl h
      · exact .inr (List.mem_cons_of_mem _ h)
    · rw [if_neg hk] at h
      rcases List.mem_cons.1 h with h | h
      · exact .inr (by rw [h]; simp)
      · exact (mem_ins h).imp id (List.mem_cons_of_mem _)
theorem nodup_ins {k : κ} {v : ν} : ∀ {M : List (κ × ν)}, (M.map (·.1)).Nodup → ((ins k v M).map (·.1)).Nodup
  | [], _ => by simp [ins]
  | y :: M, hn => by
    rw [List.map_cons, List.nodup_cons] at hn
    unfold ins
    by_cases hk : k = y.1
    · rw [if_pos hk, List.map_cons, List.nodup_cons]; exact ⟨by rw [show (k, v).1 = y.1 from hk]; exact hn.1, hn.2⟩
    · rw [if_neg hk, List.map_cons, List.nodup_cons]
      refine ⟨fun hm => ?_, nodup_ins hn.2⟩
      obtain ⟨x, hx, e⟩ := List.mem_map.1 hm
      rcases mem_ins hx with rfl | hx
      · exact hk e
      · exact hn.1 (by rw [← e]; exact List.mem_map_of_mem (f := (·.1)) hx)
theorem mem_del {k : κ} {x : κ × ν} : ∀ {M : List (κ × ν)}, x ∈ del k M → x ∈ M
  | y :: M, h => by
    unfold del at h
    by_cases hk : k = y.1
    · rw [if_pos hk] at h; exact List.mem_cons_of_mem _ h
    · rw [if_neg hk] at h
      rcases List.mem_cons.1 h with h | h
      · rw [h]; simp
      · exact List.mem_cons_of_mem _ (mem_del h)
theorem nodup_del {k : κ} : ∀ {M : List (κ × ν)}, (M.map (·.1)).Nodup → ((del k M).map (·.1)).Nodup
  | [], _ => by simp [del]
  | y :: M, hn => by
    rw [List.map_cons, List.nodup_cons] at hn
    unfold del
    by_cases hk : k = y.1
    · rw [if_pos hk]; exact hn.2
    · rw [if_neg hk, List.map_cons, List.nodup_cons]
      refine ⟨fun hm => ?_, nodup_del hn.2⟩
      obtain ⟨x, hx, e⟩ := List.mem_map.1 hm
      exact hn.1 (by rw [← e]; exact List.mem_map_of_mem (f := (·.1)) (mem_del hx))
theorem lk_del (k k' : κ) : ∀ {M : List (κ × ν)}, (M.map (·.1)).Nodup → lk k' (del k M) = if k' = k then none else lk k' M
  | [], _ => by simp [del, lk]
  | y :: M, hn => by
    rw [List.map_cons, List.nodup_cons] at hn
    unfold del
    by_cases hk : k = y.1
    · rw [if_pos hk]
      by_cases h' : k' = k
      · rw [if_pos h', h', lk_none]
        exact fun x hx e => hn.1 (by rw [← hk, ← e]; exact List.mem_map_of_mem (f := (·.1)) hx)
      · rw [if_neg h']
        conv => rhs; unfold lk
        rw [if_neg (fun e => h' (e.trans hk.symm))]
    · rw [if_neg hk]
      unfold lk
      rw [lk_del k k' hn.2]
      by_cases h' : k' = k
      · subst h'; simp [hk]
      · simp [h']
/-- only block B may have turned, and no block was made -/
structure OnB (B : Nat) (w w' : World) : Prop where
  os : w'.os = w.os
  tape : w'.tape = w.tape
  output : w'.output = w.output
  size : w'.heap.size = w.heap.size
  block : ∀ k, k ≠ B → w'.heap[k]? = w.heap[k]?
theorem onB_set (B : Nat) (w : World) (o : Obj) : OnB B w { w with heap := w.heap.setIfInBounds B o } :=
  ⟨rfl, rfl, rfl, by simp, fun k hk => by simp [Ne.symm hk]⟩
theorem OnB.below {B lo : Nat} {a w w' : World} (h : OnB B w w') (hb : Below lo a w) (hB : lo ≤ B) : Below lo a w' :=
  ⟨h.os.trans hb.os, h.tape.trans hb.tape, h.output.trans hb.output, by rw [h.size]; exact hb.size, fun k hk => (h.block k (by omega)).trans (hb.block k hk)⟩
variable (K : Kit κ ν)
/-- block B is a map that holds these, in the order in which they came -/
def MG (W : World) (B : Nat) (M : List (κ × ν)) : Prop := ∃ (l : List ((κ × ν) × Nat)) (clock : Nat), W.heap[B]? = some (.map (l.map K.toE).toArray clock) ∧ l.map (·.1) = M ∧ (∀ x ∈ l, x.2 < clock) ∧ (l.map (·.2)).Nodup
variable {K}
theorem MG.lt {W : World} {B : Nat} {M : List (κ × ν)} (h : MG K W B M) : B < W.heap.size := by
  obtain ⟨l, clock, h1, _⟩ := h
  exact (Array.getElem?_eq_some_iff.1 h1).1
theorem MG.of_eq {W V : World} {B : Nat} {M : List (κ × ν)} (h : MG K W B M) (e : V.heap[B]? = W.heap[B]?) : MG K V B M := by
  obtain ⟨l, clock, h1, h2⟩ := h
  exact ⟨l, clock, e.trans h1, h2⟩
theorem MG.below {W V : World} {B : Nat} {M : List (κ × ν)} (h : MG K W B M) (hb : Below W.heap.size W V) : MG K V B M := h.of_eq (hb.block _ h.lt)
theorem MG.nil {W : World} {B : Nat} (h : W.heap[B]? = some (.map #[] 0)) : MG K W B ([] : List (κ × ν)) := ⟨[], 0, h, rfl, by simp, by simp⟩
theorem at_lk (k : κ) : ∀ (l : List ((κ × ν) × Nat)) (i : Nat), (K.at k l i).map (·.2) = (lk k (l.map (·.1))).map K.vv
  | [], _ => rfl
  | x :: l, i => by
    unfold Kit.at lk
    simp only [List.map_cons]
    by_cases h : k = x.1.1
    · simp [h]
    · simp only [h, if_false]; exact at_lk k l (i + 1)
/-- the same with stamps -/
def insS (k : κ) (v : ν) (c : Nat) : List ((κ × ν) × Nat) → List ((κ × ν) × Nat)
  | [] => [((k, v), c)]
  | x :: l => if k = x.1.1 then ((k, v), x.2) :: l else x :: insS k v c l
def delS (k : κ) : List ((κ × ν) × Nat) → List ((κ × ν) × Nat)
  | [] => []
  | x :: l => if k = x.1.1 then l else x :: delS k l
theorem insS_map (k : κ) (v : ν) (c : Nat) : ∀ l : List ((κ × ν) × Nat), (insS k v c l).map (·.1) = ins k v (l.map (·.1))
  | [] => rfl
  | x :: l => by
    unfold insS
    rw [List.map_cons]
    unfold ins
    by_cases h : k = x.1.1
    · simp [h]
    · simp only [h, if_false, List.map_cons]; rw [insS_map k v c l]
theorem delS_map (k : κ) : ∀ l : List ((κ × ν) × Nat), (delS k l).map (·.1) = del k (l.map (·.1))
  | [] => rfl
  | x :: l => by
    unfold delS
    rw [List.map_cons]
    unfold del
    by_cases h : k = x.1.1
    · simp [h]
    · simp only [h, if_false, List.map_cons]; rw [delS_map k l]
theorem at_none {k : κ} (v : ν) (c : Nat) : ∀ {l : List ((κ × ν) × Nat)} {i : Nat}, K.at k l i = none → insS k v c l = l ++ [((k, v), c)] ∧ delS k l = l
  | [], _, _ => ⟨rfl, rfl⟩
  | x :: l, i, h => by
    unfold Kit.at at h
    by_cases hk : k = x.1.1
    · rw [if_pos hk] at h; cases h
    · rw [if_neg hk] at h
      obtain ⟨h1, h2⟩ := at_none v c h
      unfold insS delS
      rw [if_neg hk, if_neg hk, h1, h2]
      exact ⟨rfl, rfl⟩
theorem at_some {k : κ} (v : ν) (c : Nat) : ∀ {l : List ((κ × ν) × Nat)} {i j : Nat} {u : Value}, K.at k l i = some (j, u) →
    ∃ m, j = i + m ∧ m < l.length ∧ (∃ x, l[m]? = some x ∧ x.1.1 = k) ∧ insS k v c l = l.modify m (fun x => ((k, v), x.2)) ∧ delS k l = l.eraseIdx m
  | [], _, _, _, h => by cases h
  | x :: l, i, j, u, h => by
    unfold Kit.at at h
    by_cases hk : k = x.1.1
    · rw [if_pos hk] at h
      injection h with h; injection h with h1 h2
      refine ⟨0, h1.symm, by simp, ⟨x, rfl, hk.symm⟩, ?_, ?_⟩
      · unfold insS; rw [if_pos hk]; rfl
      · unfold delS; rw [if_pos hk]; rfl
    · rw [if_neg hk] at h
      obtain ⟨m, h1, h2, ⟨y, h3, h4⟩, h5, h6⟩ := at_some v c h
      refine ⟨m + 1, by omega, by simp; omega, ⟨y, h3, h4⟩, ?_, ?_⟩
      · unfold insS; rw [if_neg hk, h5]; rfl
      · unfold delS; rw [if_neg hk, h6]; rfl
/-- 'x, is := m[k]' -/
theorem look_run (O : K.Ok) (k : κ) (B : Nat) (M : List (κ × ν)) (W : World) (h : MG K W B M) :
    (Instr.lookup K.mty (.map (some B)) (K.kv k) true).run Tryz.prog W = .ok (.tuple #[((lk k M).map K.vv).getD K.zv, .bool (lk k M).isSome]) W := by
  obtain ⟨l, clock, h1, rfl, _⟩ := h
  have e := at_lk (K := K) k l 0
  unfold Instr.lookup
  simp only [Sem.run_bind, run_underlying O.hm, Result.andThen_ok, MapKept.run_getObj_map h1, Sem.run_pure, O.hck, O.hfind]
  rw [← e]
  have e2 : (lk k (l.map (·.1))).isSome = (K.at k l 0).isSome := by
    have := congrArg Option.isSome e
    simpa using this.symm
  rw [e2]
  cases K.at k l 0 with
  | none => simp [Result.andThen_ok, O.hz]
  | some x => obtain ⟨i, v⟩ := x; simp
/-- 'm[k]' -/
theorem look1_run (O : K.Ok) (k : κ) (B : Nat) (M : List (κ × ν)) (W : World) (h : MG K W B M) :
    (Instr.lookup K.mty (.map (some B)) (K.kv k) false).run Tryz.prog W = .ok (((lk k M).map K.vv).getD K.zv) W := by
  obtain ⟨l, clock, h1, rfl, _⟩ := h
  have e := at_lk (K := K) k l 0
  unfold Instr.lookup
  simp only [Sem.run_bind, run_underlying O.hm, Result.andThen_ok, MapKept.run_getObj_map h1, Sem.run_pure, O.hck, O.hfind]
  rw [← e]
  cases K.at k l 0 with
  | none => simp [O.hz]
  | some x => obtain ⟨i, v⟩ := x; simp
/-- 'm[k] = v' -/
theorem put_run (O : K.Ok) (k : κ) (v : ν) (B : Nat) (M : List (κ × ν)) (W : World) (h : MG K W B M) :
    ∃ W', (Instr.mapUpdate K.mty (.map (some B)) (K.kv k) (K.vv v)).run Tryz.prog W = .ok () W' ∧ MG K W' B (ins k v M) ∧ OnB B W W' := by
  have hlt := h.lt
  obtain ⟨l, clock, h1, rfl, h3, h4⟩ := h
  cases hf : K.at k l 0 with
  | none =>
    obtain ⟨e1, _⟩ := at_none v clock hf
    refine ⟨{ W with heap := W.heap.setIfInBounds B (.map ((insS k v clock l).map K.toE).toArray (clock + 1)) }, ?_, ⟨insS k v clock l, clock + 1, by simp [hlt], insS_map k v clock l, ?_, ?_⟩, onB_set B W _⟩
    · unfold Instr.mapUpdate
      simp only [Sem.run_bind, run_underlying O.hm, Result.andThen_ok, MapKept.run_getObj_map h1, O.hck, O.hfind, hf, MapKept.run_setObj_map _ h1]
      rw [e1]
      simp [Kit.toE]
    · rw [e1]
      intro x hx
      rcases List.mem_append.1 hx with hx | hx
      · exact Nat.lt_succ_of_lt (h3 x hx)
      · rw [List.mem_singleton] at hx; subst hx; exact Nat.lt_succ_self _
    · rw [e1, List.map_append, List.nodup_append]
      refine ⟨h4, by simp, fun a ha b hb => ?_⟩
      obtain ⟨x, hx, rfl⟩ := List.mem_map.1 ha
      simp only [List.map_cons, List.map_nil, List.mem_singleton] at hb
      subst hb
      exact Nat.ne_of_lt (h3 x hx)
  | some x =>
    obtain ⟨i, u⟩ := x
    obtain ⟨m, e0, e2, ⟨y, e3, e4⟩, e5, _⟩ := at_some v clock hf
    have hi : i = m := by omega
    subst hi
    have eb : (insS k v clock l).map (·.2) = l.map (·.2) := by
      rw [e5]
      apply List.ext_getElem?
      intro q
      simp only [List.getElem?_map, List.getElem?_modify]
      by_cases hq : i = q
      · simp only [hq]; cases l[q]? <;> simp
      · simp only [hq]; cases l[q]? <;> simp
    refine ⟨{ W with heap := W.heap.setIfInBounds B (.map ((insS k v clock l).map K.toE).toArray clock) }, ?_, ⟨insS k v clock l, clock, by simp [hlt], insS_map k v clock l, ?_, by rw [eb]; exact h4⟩, onB_set B W _⟩
    · unfold Instr.mapUpdate
      simp only [Sem.run_bind, run_underlying O.hm, Result.andThen_ok, MapKept.run_getObj_map h1, O.hck, O.hfind, hf]
      have hm : (l.map K.toE).toArray[i]? = some (K.toE y) := by simp [e3]
      have hk : (((l.map K.toE).toArray[i]?).map (·.key)).getD (K.kv k) = K.kv k := by rw [hm]; show K.kv y.1.1 = K.kv k; rw [e4]
      simp only [hk, O.hst, Result.andThen_ok, MapKept.run_setObj_map _ h1]
      rw [e5]
      congr 4
      apply Array.toList_inj.1
      apply List.ext_getElem?
      intro q
      simp only [Array.toList_modify, List.getElem?_modify, List.getElem?_map]
      by_cases hq : i = q
      · simp only [hq]
        cases l[q]? with
        | none => rfl
        | some x => simp [Kit.toE]
      · simp only [hq]
        cases l[q]? with
        | none => rfl
        | some x => simp
    · intro x hx
      have : x.2 ∈ (insS k v clock l).map (·.2) := List.mem_map_of_mem hx
      rw [eb] at this
      obtain ⟨z, hz, e⟩ := List.mem_map.1 this
      rw [← e]; exact h3 z hz
theorem map_erase {α β : Type} (f : α → β) : ∀ (l : List α) (i : Nat), (l.map f).eraseIdx i = (l.eraseIdx i).map f
  | [], _ => rfl
  | _ :: _, 0 => rfl
  | x :: l, i + 1 => by
    show f x :: (l.map f).eraseIdx i = f x :: (l.eraseIdx i).map f
    rw [map_erase f l i]
theorem delS_sub (k : κ) : ∀ l : List ((κ × ν) × Nat), (delS k l).Sublist l
  | [] => List.Sublist.slnil
  | x :: l => by
    unfold delS
    by_cases h : k = x.1.1
    · rw [if_pos h]; exact List.sublist_cons_self _ _
    · rw [if_neg h]; exact (delS_sub k l).cons_cons _
/-- 'delete(m, k)' -/
theorem del_run (O : K.Ok) (d0 : Inhabited ν) (k : κ) (B : Nat) (M : List (κ × ν)) (ty : TypeId) (W : World) (h : MG K W B M) :
    ∃ W', (Builtin.delete_ #[K.mty, K.kty] ty #[.map (some B), K.kv k]).run Tryz.prog W = .ok (.tuple #[]) W' ∧ MG K W' B (del k M) ∧ OnB B W W' := by
  have hlt := h.lt
  obtain ⟨l, clock, h1, rfl, h3, h4⟩ := h
  refine ⟨{ W with heap := W.heap.setIfInBounds B (.map ((delS k l).map K.toE).toArray clock) }, ?_, ⟨delS k l, clock, by simp [hlt], delS_map k l, fun x hx => h3 x ((delS_sub k l).subset hx), ((delS_sub k l).map _).nodup h4⟩, onB_set B W _⟩
  unfold Builtin.delete_
  simp only [Sem.run_bind, List.getElem?_toArray, List.getElem?_cons_zero, List.getElem?_cons_succ, run_underlying O.hm, Result.andThen_ok, MapKept.run_getObj_map h1, O.hck, O.hfind]
  cases hf : K.at k l 0 with
  | none =>
    obtain ⟨_, e⟩ := at_none (default : ν) 0 hf
    simp only [Sem.run_bind, MapKept.run_setObj_map _ h1, Result.andThen_ok, e]
    rfl
  | some x =>
    obtain ⟨i, v⟩ := x
    obtain ⟨m, e0, e2, _, _, e6⟩ := at_some (default : ν) 0 hf
    have hi : i = m := by omega
    subst hi
    have he : (l.map K.toE).toArray.eraseIdxIfInBounds i = ((delS k l).map K.toE).toArray := by
      unfold Array.eraseIdxIfInBounds
      rw [dif_pos (by simpa using e2)]
      apply Array.toList_inj.1
      rw [e6]
      simp [map_erase]
    simp only [Sem.run_bind, MapKept.run_setObj_map _ h1, Result.andThen_ok, he]
    rfl
theorem len_run (O : K.Ok) (B : Nat) (M : List (κ × ν)) (ty : TypeId) (W : World) (h : MG K W B M) :
    (Builtin.len_ #[K.mty] ty #[.map (some B)]).run Tryz.prog W = .ok (.int .i64 (M.length : Int)) W := by
  obtain ⟨l, clock, h1, rfl, h3, h4⟩ := h
  unfold Builtin.len_
  simp only [Sem.run_bind, Sem.run_pure, List.getElem?_toArray, List.getElem?_cons_zero, run_underlying O.hm, Result.andThen_ok, MapKept.run_getObj_map h1]
  simp [goInt]
/-- keys that are compared at once: machine integers -/
theorem find_now {q : IntKind} (f : κ → Int) (hkv : ∀ k, K.kv k = .int q (f k)) (hinj : ∀ a b, f a = f b → a = b) (hk : Tryz.prog.underlying K.kty = some (.int q)) (k : κ) (l : List ((κ × ν) × Nat)) (W : World) :
    (Instr.findKey K.kty (K.kv k) (l.map K.toE)).run Tryz.prog W = .ok (K.at k l 0) W := by
  rw [hkv]
  refine run_findKey hk ?_
  have : ∀ (l : List ((κ × ν) × Nat)) (i : Nat), Instr.findNow (.int q) (.int q (f k)) (l.map K.toE) i = some (K.at k l i) := by
    intro l
    induction l with
    | nil => intro i; rfl
    | cons x l ih =>
      intro i
      show Instr.findNow _ _ (K.toE x :: l.map K.toE) i = _
      unfold Instr.findNow Kit.at
      by_cases h : k = x.1.1
      · simp [Kit.toE, hkv, Instr.sameNow, h]
      · have : (f k == f x.1.1) = false := by simpa using fun e => h (hinj _ _ e)
        simp only [Kit.toE, hkv, Instr.sameNow, if_true, this, h, if_false]
        exact ih (i + 1)
  exact this l 0
/-- keys that are asked for: structs -/
theorem find_asking {fs : Array Field} (hk : Tryz.prog.underlying K.kty = some (.struct fs)) (heq : ∀ (a b : κ) (W : World), (Op.equal K.kty (K.kv a) (K.kv b)).run Tryz.prog W = .ok (decide (a = b)) W)
    (hnow : ∀ (k : κ) (x : (κ × ν) × Nat) (l : List ((κ × ν) × Nat)), Instr.findNow (.struct fs) (K.kv k) ((x :: l).map K.toE) 0 = none) (k : κ) (l : List ((κ × ν) × Nat)) (W : World) :
    (Instr.findKey K.kty (K.kv k) (l.map K.toE)).run Tryz.prog W = .ok (K.at k l 0) W := by
  have ask : ∀ (l : List ((κ × ν) × Nat)) (i : Nat) (W : World), (Instr.findAsking K.kty (K.kv k) (l.map K.toE) i).run Tryz.prog W = .ok (K.at k l i) W := by
    intro l
    induction l with
    | nil => intro i W; rfl
    | cons x l ih =>
      intro i W
      show (Instr.findAsking K.kty (K.kv k) (K.toE x :: l.map K.toE) i).run Tryz.prog W = _
      unfold Instr.findAsking Kit.at
      simp only [Sem.run_bind, Kit.toE, heq, Result.andThen_ok]
      by_cases h : k = x.1.1
      · simp [h]
      · simp only [h, decide_false, if_false, Bool.false_eq_true]
        exact ih (i + 1) W
  unfold Instr.findKey
  simp only [Sem.run_bind, run_underlying hk, Result.andThen_ok]
  cases l with
  | nil => rfl
  | cons x l =>
    rw [hnow k x l]
    exact ask (x :: l) 0 W
end
end Go.Proofs.YtdljphbfbiganaaGreatDoor.Mg
