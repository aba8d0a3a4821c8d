/- Maps from keys to entries: what the map's operations do. -/
import Derived.Test.YtlpnecmcncekcaaGreatCommon
import Derived.MapKept
namespace Go.Proofs.YtlpnecmcncekcaaGreat.Mk
open Go Go.RowKit Go.MapKept

/-- A key's fields. -/
structure K3 where
  c : Int
  f : Int
  s : Int
deriving DecidableEq
def K3.val (k : K3) : Value := .agg #[.int .i64 k.c, .int .i64 k.f, .int .u64 k.s]
/-- An entry's fields. -/
structure En where
  k : K3
  st : Int
  ow : Int
deriving DecidableEq
def En.cells (e : En) : Array Value := #[.int .i64 e.k.c, .int .i64 e.k.f, .int .u64 e.k.s, .int .i64 e.st, .int .i64 e.ow]
def En.val (e : En) : Value := .agg e.cells
def en0 : En := ⟨⟨0, 0, 0⟩, 0, 0⟩
/-- an entry of a map, with its stamp -/
abbrev Ms := K3 × En × Nat
def toM (x : Ms) : MapEntry := { key := x.1.val, val := x.2.1.val, born := x.2.2 }
abbrev MapIs (W : World) (B : Nat) (l : List Ms) (clock : Nat) : Prop := W.heap[B]? = some (.map (l.map toM).toArray clock)
/-- where a key stands first -/
def at? (k : K3) : List Ms → Nat → Option (Nat × Value)
  | [], _ => none
  | x :: l, i => if k = x.1 then some (i, x.2.1.val) else at? k l (i + 1)

theorem eq_key (a b : K3) (W : World) : (Op.equal 41 a.val b.val).run Tryz.prog W = .ok (decide (a = b)) W := by
  obtain ⟨c, f, s⟩ := a
  obtain ⟨c', f', s'⟩ := b
  unfold K3.val Op.equal Op.maxDepth
  have e : decide (K3.mk c f s = K3.mk c' f' s') = (c == c' && (f == f' && s == s')) := by
    simp only [K3.mk.injEq]
    by_cases h1 : c = c' <;> by_cases h2 : f = f' <;> by_cases h3 : s = s' <;> simp [h1, h2, h3]
  rw [e]
  go_simp
  repeat' split
  all_goals simp_all
theorem check_i (em : Bool) (n : Nat) (x : Int) (W : World) : (Instr.checkKey em (n + 1) 3 (.int .i64 x)).run Tryz.prog W = .ok () W :=
  run_checkKey (d := .int .i64) Tryz.underlying3 (show IsKey (.int .i64) (.int .i64 x) from rfl) em n
theorem check_u (em : Bool) (n : Nat) (x : Int) (W : World) : (Instr.checkKey em (n + 1) 23 (.int .u64 x)).run Tryz.prog W = .ok () W :=
  run_checkKey (d := .int .u64) Tryz.underlying23 (show IsKey (.int .u64) (.int .u64 x) from rfl) em n
theorem check_key' (em : Bool) (n : Nat) (k : K3) (W : World) : (Instr.checkKey em (n + 2) 41 k.val).run Tryz.prog W = .ok () W := by
  unfold K3.val
  rw [Instr.checkKey]
  simp only [Sem.run_bind, run_underlying Tryz.underlying41, Result.andThen_ok]
  simp [go_sem, part, check_i, check_u]
theorem check_key (em : Bool) (k : K3) (W : World) : (Instr.checkKey em 10000 41 k.val).run Tryz.prog W = .ok () W := check_key' em 9998 k W
theorem ask_run (k : K3) : ∀ (l : List Ms) (i : Nat) (W : World), (Instr.findAsking 41 k.val (l.map toM) i).run Tryz.prog W = .ok (at? k l i) W
  | [], _, _ => rfl
  | x :: l, i, W => by
    show (Instr.findAsking 41 k.val (toM x :: l.map toM) i).run Tryz.prog W = _
    unfold Instr.findAsking at?
    simp only [Sem.run_bind, toM, eq_key, Result.andThen_ok]
    by_cases h : k = x.1
    · simp [h]
    · simp only [h, decide_false, if_false, Bool.false_eq_true]
      exact ask_run k l (i + 1) W
theorem find_run (k : K3) (l : List Ms) (W : World) : (Instr.findKey 41 k.val (l.map toM)).run Tryz.prog W = .ok (at? k l 0) W := by
  unfold Instr.findKey
  simp only [Sem.run_bind, run_underlying Tryz.underlying41, Result.andThen_ok]
  cases l with
  | nil => rfl
  | cons x l =>
    have : Instr.findNow (TypeDesc.struct #[]) k.val ((x :: l).map toM) 0 = none := rfl
    exact ask_run k (x :: l) 0 W
theorem zero_en (W : World) : (zeroValue 54).run Tryz.prog W = .ok en0.val W := by kernel_rfl
/-- 'x, is := m[k]' -/
theorem look_run (k : K3) (B : Nat) (l : List Ms) (clock : Nat) (W : World) (h : MapIs W B l clock) :
    (Instr.lookup 94 (.map (some B)) k.val true).run Tryz.prog W = .ok (.tuple #[((at? k l 0).map (·.2)).getD en0.val, .bool (at? k l 0).isSome]) W := by
  unfold Instr.lookup
  simp only [Sem.run_bind, run_underlying Tryz.underlying94, Result.andThen_ok, MapKept.run_getObj_map h, Sem.run_pure, check_key, find_run]
  cases at? k l 0 with
  | none => simp [Result.andThen_ok]; rfl
  | some x => obtain ⟨i, v⟩ := x; simp
theorem bits_key (k : K3) : Instr.sameBits 10000 k.val k.val = true := by
  obtain ⟨c, f, s⟩ := k
  show Instr.sameBits (9998 + 1 + 1) _ _ = true
  unfold K3.val
  simp [Instr.sameBits]
theorem stays_run (k : K3) (W : World) : (Instr.keyThatStays k.val k.val).run Tryz.prog W = .ok k.val W := by
  simp [Instr.keyThatStays, bits_key]
theorem at?_some {k : K3} : ∀ {l : List Ms} {i j : Nat} {v : Value}, at? k l i = some (j, v) → ∃ m, j = i + m ∧ ∃ x, l[m]? = some x ∧ x.1 = k ∧ x.2.1.val = v
  | [], _, _, _, h => by cases h
  | x :: l, i, j, v, h => by
    unfold at? at h
    by_cases hk : k = x.1
    · rw [if_pos hk] at h
      injection h with h; injection h with h1 h2
      exact ⟨0, h1.symm, x, rfl, hk.symm, h2⟩
    · rw [if_neg hk] at h
      obtain ⟨m, h1, y, h2, h3⟩ := at?_some h
      exact ⟨m + 1, by omega, y, h2, h3⟩
/-- what a map holds behind 'm[k] = e' -/
def putM (k : K3) (e : En) (l : List Ms) (clock : Nat) : List Ms × Nat :=
  match at? k l 0 with
  | some (i, _) => (l.modify i fun x => (k, e, x.2.2), clock)
  | none => (l ++ [(k, e, clock)], clock + 1)
theorem put_run (k : K3) (e : En) (B : Nat) (l : List Ms) (clock : Nat) (W : World) (h : MapIs W B l clock) :
    ∃ W', (Instr.mapUpdate 94 (.map (some B)) k.val e.val).run Tryz.prog W = .ok () W' ∧ W' = { W with heap := W.heap.setIfInBounds B (.map ((putM k e l clock).1.map toM).toArray (putM k e l clock).2) } := by
  refine ⟨_, ?_, rfl⟩
  unfold Instr.mapUpdate
  simp only [Sem.run_bind, run_underlying Tryz.underlying94, Result.andThen_ok, MapKept.run_getObj_map h, check_key, find_run]
  unfold putM
  cases hf : at? k l 0 with
  | none =>
    simp only [MapKept.run_setObj_map _ h]
    simp [toM]
  | some x =>
    obtain ⟨i, v⟩ := x
    obtain ⟨m, h1, y, h2, h3, h4⟩ := at?_some hf
    have hm : (l.map toM).toArray[i]? = some (toM y) := by
      rw [h1, Nat.zero_add]; simp [h2]
    have hk : (((l.map toM).toArray[i]?).map (·.key)).getD k.val = k.val := by rw [hm]; show y.1.val = k.val; rw [h3]
    simp only [hk, Sem.run_bind, stays_run, Result.andThen_ok, MapKept.run_setObj_map _ h]
    congr 4
    apply Array.toList_inj.1
    apply List.ext_getElem?
    intro q
    simp only [Array.toList_modify, List.getElem?_modify, List.getElem?_map]
    by_cases hq : i = q
    · simp only [hq]
      cases l[q]? with
      | none => rfl
      | some x => simp [toM]
    · simp only [hq]
      cases l[q]? with
      | none => rfl
      | some x => simp
theorem map_erase {α β : Type} (f : α → β) : ∀ (l : List α) (i : Nat), (l.map f).eraseIdx i = (l.eraseIdx i).map f
  | [], _ => rfl
  | _ :: _, 0 => rfl
  | x :: l, i + 1 => by
    show f x :: (l.map f).eraseIdx i = f x :: (l.eraseIdx i).map f
    rw [map_erase f l i]
/-- what a map holds behind 'delete(m, k)' -/
def delM (k : K3) (l : List Ms) : List Ms :=
  match at? k l 0 with
  | some (i, _) => l.eraseIdx i
  | none => l
theorem del_run (k : K3) (B : Nat) (l : List Ms) (clock : Nat) (ty : TypeId) (W : World) (h : MapIs W B l clock) :
    ∃ W', (Builtin.delete_ #[94, 41] ty #[.map (some B), k.val]).run Tryz.prog W = .ok (.tuple #[]) W' ∧ W' = { W with heap := W.heap.setIfInBounds B (.map ((delM k l).map toM).toArray clock) } := by
  refine ⟨_, ?_, rfl⟩
  unfold Builtin.delete_
  simp only [Sem.run_bind, List.getElem?_toArray, List.getElem?_cons_zero, List.getElem?_cons_succ, run_underlying Tryz.underlying94, Result.andThen_ok, MapKept.run_getObj_map h, check_key, find_run]
  unfold delM
  cases hf : at? k l 0 with
  | none =>
    simp only [Sem.run_bind, MapKept.run_setObj_map _ h, Result.andThen_ok]
    rfl
  | some x =>
    obtain ⟨i, v⟩ := x
    obtain ⟨m, h1, y, h2, h3, h4⟩ := at?_some hf
    have hi : i < l.length := by rw [h1, Nat.zero_add]; exact (List.getElem?_eq_some_iff.1 h2).1
    have he : (l.map toM).toArray.eraseIdxIfInBounds i = ((l.eraseIdx i).map toM).toArray := by
      unfold Array.eraseIdxIfInBounds
      rw [dif_pos (by simpa using hi)]
      apply Array.toList_inj.1
      simp [map_erase]
    simp only [Sem.run_bind, MapKept.run_setObj_map _ h, Result.andThen_ok, he]
    rfl
theorem len_run (B : Nat) (l : List Ms) (clock : Nat) (ty : TypeId) (W : World) (h : MapIs W B l clock) :
    (Builtin.len_ #[94] ty #[.map (some B)]).run Tryz.prog W = .ok (.int .i64 (l.length : Int)) W := by
  unfold Builtin.len_
  simp only [Sem.run_bind, Sem.run_pure, List.getElem?_toArray, List.getElem?_cons_zero, run_underlying Tryz.underlying94, Result.andThen_ok, MapKept.run_getObj_map h]
  simp [goInt]
end Go.Proofs.YtlpnecmcncekcaaGreat.Mk
