/- A range over a function whose rounds all go on, at an invariant of one's own: the iterator may turn cells of its own, as long as the invariant bears it. Over any program. -/
import Derived.Test.YtnidafgjbocfcaaCommon
import Derived.RangeFuncNested
import Derived.RangeFuncBound
import Derived.RangeFuncCalls
import Derived.RangeFuncLeaves
import Derived.Shelf.Abstract
import Derived.Shelf.RegionOpen
import Derived.OwnWalkIn
import Derived.TacticsInMore
import Derived.LoopNIn
import Derived.LoopIn
import Derived.Maps.AppendAt
namespace Go.Proofs.Ytnidafgjbocfcaa
open Go Go.RowKit Go.Shelf

/-- An append whose run is known, at a step of a region that draws its order, inside a fence. -/
theorem step_append_in {F : Fence} {n : Nat} {P : Program} {ops : Array Oper} {o : Oper} {a : Act} {w : World} {K : Act → World → Prop} {Q : Exit → Act → World → Prop} {E : Prop} (hgd : o.guard = none) (s x : Operand) (t ty : TypeId)
    (ho : o.op = .call { callee := .builtin .append, args := #[s, x], argTypes := #[t, t] }) (hty : o.type = ty) {v u r : Value} {w' : World} (hs : a.eval s = v) (hx : a.eval x = u)
    (hr : (Builtin.append_ #[t, t] ty #[v, u]).run P w = .ok r w') (h : K (a.put o.dst r) w') :
    if Region.wanted o (yielded ops a.tmps) = true then Oper.wpIn F n P o a w K Q else E := by
  have hw : Region.wanted o (yielded ops a.tmps) = true := by simp [Region.wanted, hgd]
  rw [if_pos hw]
  unfold Oper.wpIn
  refine ⟨by simp [Oper.about, ho, resolve, Target.leads, Sem.run_pure], ?_⟩
  rw [Oper.semAt_plain F _ _ (by rw [ho]; intro c hc'; cases hc')]
  simp [execOp, ho, resolve, invoke, builtin, hs, hx, hty, hr, Result.andThen]
  exact h

/-- A round goes on, and leaves what is no cells. -/
def goesOn {α : Type} (Kp : World → World → Prop) (J : List α → World → Prop) (xs : List α) (W : World) : Exit → Act → World → Prop
  | .normal, _, W' => KeepsOthers W W' ∧ Kp W W' ∧ J xs W'
  | _, _, _ => False

/-- The iterator's side: at every predicate on what is no cells, the rounds keeping it. -/
def Iter {α : Type} (F : Fence) (n : Nat) (P : Program) (gf : Nat) (lb : Array Value) (encs : α → Array Value) (Kp : World → World → Prop) (J : List α → World → Prop) (S : List α → Prop) (N : Nat) (w : World) : Prop :=
  ∀ (l : Nat) (W1 : World) (R : World → Prop), Below w.heap.size w W1 → (∀ A B, R A → KeepsOthers A B → R B) →
    (∀ pre x W, J pre W → R W → pre.length < N → YieldAt F (n - 1) P l (encs x) W fun e W' => e = .returned (.bool true) ∧ Kp W W' ∧ J (pre ++ [x]) W' ∧ R W') →
    J [] W1 → R W1 → CallsIn F n P gf (#[.func (.yield l) #[] #[]] ++ lb) W1 fun e W' => (∃ v, e = .returned v) ∧ ∃ xs, S xs ∧ J xs W' ∧ R W'

theorem range_round {α : Type} {F : Fence} {n : Nat} {P : Program} {g : Operand} {ps : Array Tmp} {assign body : Code} {Q : Exit → Act → World → Prop} {a : Act} {w : World}
    (hro : F.round = none) (h1 : 1 ≤ n) {gf : Nat} {lb : Array Value} (hg : a.eval g = .func (.func gf) #[] lb) (hFg : F.fn gf) (eg : ∀ args w, (callFunc gf args).run P w = .ok (.enter gf args) w)
    {encs : α → Array Value} (hps : ∀ x, (encs x).size = ps.size) {S : List α → Prop} {N : Nat} (Kp : World → World → Prop) (hKt : ∀ {A B C : World}, Kp A B → Kp B C → Kp A C) (hKb : ∀ W k o', w.heap.size ≤ k → (∃ o, W.heap[k]? = some o ∧ o.isCells = false) → Kp W (W.putObj k o'))
    (J : List α → World → Prop)
    (hseq : Iter F (n - 1) P gf lb encs Kp J S N w)
    (hJ : ∀ pre W k o', J pre W → w.heap.size ≤ k → (∃ o, W.heap[k]? = some o ∧ o.isCells = false) → J pre (W.putObj k o'))
    (hJ0 : ∀ o o', J [] ((w.alloc o).alloc o')) (a₁ : α → Act)
    (hassign : ∀ (l : Nat) (x : α) (W : World) (K : Act → World → Prop), K (a₁ x) W →
      assign.wpIn (F.inRound l) (n - 1 - 1) P (Exit.then K (fun _ _ _ => False)) { tmps := (ps.zip (encs x)).foldl (fun t (p, v) => t.setIfInBounds p v) a.tmps, defers := [] } W)
    (hbody : ∀ (l : Nat) (pre : List α) (x : α) (W : World), J pre W → pre.length < N → body.wpIn (F.inRound l) (n - 1 - 1) P (goesOn Kp J (pre ++ [x]) W) (a₁ x) W)
    (hdone : ∀ (D : Nat) (xs : List α) (W : World), w.heap.size ≤ D → S xs → J xs W → W.heap[D]? = some (.deferred (some [])) → Q .normal { a with defers := { target := .collected D, args := #[] } :: a.defers } W) :
    (Code.rangeFunc g ps assign body).wpIn F n P Q a w := by
  refine wpIn_rangeFunc fun fn hfn => ?_
  rw [hro]
  let d := w.heap.size
  let rc : LoopState → Loop := fun st => { state := st, pending := none, fn, tmps := a.tmps, params := ps, assign, body, defers := d }
  let W0 := (w.alloc (.deferred (some []))).alloc (.loop (rc .ready))
  have s1 : W0.heap[d + 1]? = some (.loop (rc .ready)) := by
    have := World.alloc_heap_new (w.alloc (.deferred (some []))) (.loop (rc .ready))
    rwa [World.size_alloc] at this
  have s0 : W0.heap[d]? = some (.deferred (some [])) := (Below.heap_alloc _ _ _ (by simp [d])).trans (World.alloc_heap_new w _)
  have hB0 : Below w.heap.size w W0 := ((Below.refl _ w).alloc (Nat.le_refl _) _).alloc (by simp) _
  refine ⟨d + 1, [{ target := .collected d, args := #[] }], W0, { target := .fn (.func gf) lb, args := #[.func (.yield (d + 1)) #[] #[]] }, W0, gf, #[.func (.yield (d + 1)) #[] #[]] ++ lb, W0,
    run_enterLoop_outer _ _ _ _ _, ?_, ?_, ?_, fun _ => h1, ?_⟩
  · simp only [resolve, hg]
    simp [go_sem]
  · intro f' hf'
    simp [Target.leads] at hf'
    subst hf'
    exact hFg
  · simp [invoke, go_sem, eg]
  refine (hseq (d + 1) W0 (fun W => W.heap[d + 1]? = some (.loop (rc .ready)) ∧ W.heap[d]? = some (.deferred (some []))) hB0
    (fun A B h k => ⟨k.same _ _ h.1 rfl, k.same _ _ h.2 rfl⟩) ?_ (hJ0 _ _) ⟨s1, s0⟩).mono ?_
  · rintro pre x W hj ⟨hl, hk⟩ hlen
    have hlt : d + 1 < W.heap.size := (Array.getElem?_eq_some_iff.1 hl).1
    let W2 := W.putObj (d + 1) (.loop (rc .busy))
    have hl2 : W2.heap[d + 1]? = some (.loop (rc .busy)) := World.putObj_heap_same hlt
    have hk2 : W2.heap[d]? = some (.deferred (some [])) := (World.putObj_heap_other (by omega)).trans hk
    refine ⟨fn, _, assign, body, run_yield (r := rc .ready) hl (hps x), roundIn_of_wpIn hfn (hassign _ x W _ ⟨_, run_beginRound (r := rc .ready) hl rfl, ?_⟩)⟩
    refine wpIn_mono (hbody _ pre x W2 (hJ _ _ _ _ hj (by omega) ⟨_, hl, rfl⟩) hlen) ?_
    intro e a3 W3 hp
    cases e with
    | normal =>
      obtain ⟨hk3, hkp3, hj3⟩ := hp
      have hl3 := hk3.same _ _ hl2 rfl
      have hd3 := hk3.same _ _ hk2 rfl
      refine ⟨_, _, run_endRound (r := rc .busy) none hl3, rfl, hKt (hKt (hKb _ _ _ (by omega) ⟨_, hl, rfl⟩) hkp3) (hKb _ _ _ (by omega) ⟨_, hl3, rfl⟩), hJ _ _ _ _ hj3 (by omega) ⟨_, hl3, rfl⟩, ?_, (World.putObj_heap_other (by omega)).trans hd3⟩
      exact World.putObj_heap_same (Array.getElem?_eq_some_iff.1 hl3).1
    | ret => exact hp.elim
    | exit id => exact hp.elim
    | goto t => exact hp.elim
    | panic ch => exact hp.elim
    | outgrown => exact hp.elim
  · rintro e W2 ⟨⟨v, rfl⟩, xs, hS, hj, hl, hk⟩
    exact ⟨none, _, run_endLoop (r := rc .ready) hl (by simp [rc]), hdone d xs _ (Nat.le_refl _) hS (hJ _ _ _ _ hj (by omega) ⟨_, hl, rfl⟩) ((World.putObj_heap_other (by omega)).trans hk)⟩

end Go.Proofs.Ytnidafgjbocfcaa
