import Derived.Test.YtnjcenbmdcogpaaGreatDoorStpL
import Derived.Test.YtnjcenbmdcogpaaGreatDoorStpParse0
import Derived.Lib.IndexLaws
import Derived.RangeFuncNested
import Derived.RangeFuncBound
import Derived.RangeFuncCalls
import Derived.RangeFuncLeaves
import Derived.Shelf.Abstract
import Derived.Shelf.RegionOpen
import Derived.OwnWalkIn
import Derived.TacticsInMore
import Derived.LoopNIn
import Derived.LoopIn
import Derived.Maps.AppendAt
import Derived.RangeFuncBox
import Derived.Deep.QuietTactic
import Derived.BigQuiet
import Derived.Deep.Cut
import Derived.Test.YtnjcenbmdcogpaaGreatDoorStpParse
import Derived.Test.YtnjcenbmdcogpaaGreatDoorStU
import Derived.Test.YtnjcenbmdcogpaaGreatDoorRdL
/- A script's text: its lines; what is told of them. -/
namespace Go.Proofs.YtnjcenbmdcogpaaGreatDoor.Sp
open Go Go.Lib Go.RowKit Go.Shelf
set_option linter.unusedSimpArgs false
set_option linter.unusedVariables false

/-- the lines that end in a line feed, behind what has been read of the first -/
def lnA : Bs → Bs → List Bs
  | _, [] => []
  | acc, c :: r => if c = 10 then acc :: lnA [] r else lnA (acc ++ [c]) r
theorem lnA_none : ∀ (l : Bs) (acc : Bs), (∀ c ∈ l, c ≠ 10) → lnA acc l = []
  | [], _, _ => rfl
  | c :: r, acc, h => by
    rw [lnA, if_neg (h c (by simp))]
    exact lnA_none r _ fun x hx => h x (by simp [hx])
theorem lnA_some : ∀ (l : Bs) (acc : Bs) (o : Nat), l[o]? = some 10 → (∀ k, k < o → l[k]? ≠ some 10) → lnA acc l = (acc ++ l.take o) :: lnA [] (l.drop (o + 1))
  | [], _, o, h, _ => by simp at h
  | c :: r, acc, 0, h, _ => by
    have : c = 10 := by simpa using h
    rw [lnA, if_pos this]; simp
  | c :: r, acc, o + 1, h, hn => by
    have hc : c ≠ 10 := fun e => hn 0 (by omega) (by simp [e])
    rw [lnA, if_neg hc, lnA_some r (acc ++ [c]) o (by simpa using h) fun k hk => by have := hn (k + 1) (by omega); simpa using this]
    simp
/-- the step of a line, or that it is none -/
def gP (s : Bs) : St × Int := match parseL s with
  | some x => (x, 0)
  | none => (St0, 3)
/-- the steps of lines, or which line is none -/
def eachP : Nat → List Bs → List St × Nat × Int
  | _, [] => ([], 0, 0)
  | i, s :: r => if (gP s).2 ≠ 0 then ([], i + 1, (gP s).2) else if (eachP (i + 1) r).2.2 ≠ 0 then ([], (eachP (i + 1) r).2) else ((gP s).1 :: (eachP (i + 1) r).1, (eachP (i + 1) r).2)
def glueP (xs : List St) (y : List St × Nat × Int) : List St × Nat × Int := if y.2.2 ≠ 0 then ([], y.2) else (xs ++ y.1, y.2)
theorem glueP_nil (i : Nat) : ∀ (l : List Bs), glueP [] (eachP i l) = eachP i l
  | [] => rfl
  | s :: r => by
    unfold glueP
    split
    · rename_i h
      unfold eachP at h ⊢
      split
      · rfl
      · rename_i h1
        rw [if_neg h1] at h
        split
        · rfl
        · rename_i h2; rw [if_neg h2] at h; exact absurd h h2
    · rfl
theorem glueP_ok (xs : List St) (i : Nat) (s : Bs) (r : List Bs) (q : St) (h : parseL s = some q) : glueP xs (eachP i (s :: r)) = glueP (xs ++ [q]) (eachP (i + 1) r) := by
  have hg : gP s = (q, 0) := by unfold gP; rw [h]
  have e : eachP i (s :: r) = if (eachP (i + 1) r).2.2 ≠ 0 then ([], (eachP (i + 1) r).2) else (q :: (eachP (i + 1) r).1, (eachP (i + 1) r).2) := by
    rw [eachP, hg]; rfl
  rw [e]
  unfold glueP
  by_cases h0 : (eachP (i + 1) r).2.2 ≠ 0
  · rw [if_pos h0, if_pos h0, if_pos h0]
  · rw [if_neg h0, if_neg h0, if_neg h0]; simp
theorem glueP_bad (xs : List St) (i : Nat) (s : Bs) (r : List Bs) (h : parseL s = none) : glueP xs (eachP i (s :: r)) = ([], i + 1, 3) := by
  have hg : gP s = (St0, 3) := by unfold gP; rw [h]
  have e1 : eachP i (s :: r) = ([], i + 1, 3) := by rw [eachP, hg]; rfl
  rw [e1]; rfl
theorem glueP_end (xs : List St) (i : Nat) : glueP xs (eachP i []) = (xs, 0, 0) := by
  unfold glueP eachP
  rw [if_neg (by simp)]; simp
/-- the steps of a text, or why there are none -/
def readS (l : Bs) : List St × Nat × Int :=
  if 1024 < l.count 10 then ([], 0, 6) else if l ≠ [] ∧ l.getLast? ≠ some 10 then ([], 0, 3) else eachP 0 (lnA [] l)
theorem cnt10 (x : ByteArray) (w : World) : Calls Tryz.prog 59 #[.string x, .string ⟨#[10]⟩] w fun e w' => e = .returned (.int .i64 ((x.data.toList.count 10 : Nat) : Int)) ∧ w' = w := by
  refine (Any.strings_Count_one (P := Tryz.prog) (ρ := laysSplit_ren) { laysSplit with } x 10 w).mono fun e w' h => ⟨?_, h.2⟩
  rw [h.1]
  have e1 : countByte x.data.toList 10 = countB x ⟨#[10]⟩ := (count_one 10 _).symm
  rw [e1]
  have e2 : countB x ⟨#[10]⟩ = x.data.toList.count 10 := count_one 10 _
  rw [e2]
theorem ix10 (x : ByteArray) (w : World) : Calls Tryz.prog 123 #[.string x, .string ⟨#[10]⟩] w fun e w' => e = .returned (.int .i64 (indexByte x.data.toList 10)) ∧ w' = w :=
  Any.stringslite_Index_one (P := Tryz.prog) (ρ := laysSplit_ren) { laysSplit with } x 10 w
end Go.Proofs.YtnjcenbmdcogpaaGreatDoor.Sp
/- A range over a function whose iterator keeps a text of its own in a cell, and whose body may return. -/
namespace Go.Proofs.YtnjcenbmdcogpaaGreatDoor.Sp
open Go Go.RowKit Go.Shelf
set_option linter.unusedVariables false

/-- How a round's body may end: it goes on, or the function returns. -/
def roundX {α β : Type} (J Jx : β → List α → World → Prop) (r : β) (xs : List α) (W : World) : Exit → Act → World → Prop
  | .normal, _, W' => KeepsOthers W W' ∧ J r xs W'
  | .ret, _, W' => KeepsOthers W W' ∧ Jx r xs W'
  | _, _, _ => False

/-- The iterator's side, its own cell's state beside. -/
def IterX {α β : Type} (F : Fence) (n : Nat) (P : Program) (gf : Nat) (lb : Array Value) (encs : α → Array Value) (J Jx : β → List α → World → Prop) (Nx : β → List α → α → Prop) (S : List α → Prop) (r0 : β) (w : World) : Prop :=
  ∀ (l : Nat) (W1 : World) (R Rx : World → Prop), Below w.heap.size w W1 → (∀ A B, R A → KeepsOthers A B → R B) → (∀ A B, Rx A → KeepsOthers A B → Rx B) →
    (∀ pre x r W, J r pre W → R W → Nx r pre x → YieldAt F (n - 1) P l (encs x) W fun e W' => (e = .returned (.bool true) ∧ J r (pre ++ [x]) W' ∧ R W') ∨ (e = .returned (.bool false) ∧ Jx r (pre ++ [x]) W' ∧ Rx W')) →
    J r0 [] W1 → R W1 → CallsIn F n P gf (#[.func (.yield l) #[] #[]] ++ lb) W1 fun e W' => (∃ v, e = .returned v) ∧ ((∃ xs r, S xs ∧ J r xs W' ∧ R W') ∨ (∃ xs r, Jx r xs W' ∧ Rx W'))

theorem range_x {α β : Type} {F : Fence} {n : Nat} {P : Program} {g : Operand} {ps : Array Tmp} {assign body : Code} {Q : Exit → Act → World → Prop} {a : Act} {w : World}
    (hro : F.round = none) (h1 : 1 ≤ n) {gf : Nat} {lb : Array Value} (hg : a.eval g = .func (.func gf) #[] lb) (hFg : F.fn gf) (eg : ∀ args w, (callFunc gf args).run P w = .ok (.enter gf args) w)
    {encs : α → Array Value} (hps : ∀ x, (encs x).size = ps.size) {S : List α → Prop} (J Jx : β → List α → World → Prop) (Nx : β → List α → α → Prop) (r0 : β)
    (hseq : IterX F (n - 1) P gf lb encs J Jx Nx S r0 w)
    (hJ : ∀ r pre W k o', J r pre W → w.heap.size ≤ k → (∃ o, W.heap[k]? = some o ∧ o.isCells = false) → J r pre (W.putObj k o'))
    (hJx : ∀ r pre W k o', Jx r pre W → w.heap.size ≤ k → (∃ o, W.heap[k]? = some o ∧ o.isCells = false) → Jx r pre (W.putObj k o'))
    (hJ0 : ∀ o o', J r0 [] ((w.alloc o).alloc o')) (a₁ : α → Act)
    (hassign : ∀ (l : Nat) (x : α) (W : World) (K : Act → World → Prop), K (a₁ x) W →
      assign.wpIn (F.inRound l) (n - 1 - 1) P (Exit.then K (fun _ _ _ => False)) { tmps := (ps.zip (encs x)).foldl (fun t (p, v) => t.setIfInBounds p v) a.tmps, defers := [] } W)
    (hbody : ∀ (l : Nat) (pre : List α) (x : α) (r : β) (W : World), J r pre W → Nx r pre x → body.wpIn (F.inRound l) (n - 1 - 1) P (roundX J Jx r (pre ++ [x]) W) (a₁ x) W)
    (hdone : ∀ (D : Nat) (xs : List α) (r : β) (W : World), w.heap.size ≤ D → S xs → J r xs W → W.heap[D]? = some (.deferred (some [])) → Q .normal { a with defers := { target := .collected D, args := #[] } :: a.defers } W)
    (hstop : ∀ (D : Nat) (xs : List α) (r : β) (W : World), w.heap.size ≤ D → Jx r xs W → W.heap[D]? = some (.deferred (some [])) → Code.ret.wpIn F n P Q { a with defers := { target := .collected D, args := #[] } :: a.defers } W) :
    (Code.rangeFunc g ps assign body).wpIn F n P Q a w := by
  refine wpIn_rangeFunc fun fn hfn => ?_
  rw [hro]
  let d := w.heap.size
  let rc : LoopState → Option Code → Loop := fun st pe => { state := st, pending := pe, fn, tmps := a.tmps, params := ps, assign, body, defers := d }
  let W0 := (w.alloc (.deferred (some []))).alloc (.loop (rc .ready none))
  have s1 : W0.heap[d + 1]? = some (.loop (rc .ready none)) := by
    have := World.alloc_heap_new (w.alloc (.deferred (some []))) (.loop (rc .ready none))
    rwa [World.size_alloc] at this
  have s0 : W0.heap[d]? = some (.deferred (some [])) := (Below.heap_alloc _ _ _ (by simp [d])).trans (World.alloc_heap_new w _)
  have hB0 : Below w.heap.size w W0 := ((Below.refl _ w).alloc (Nat.le_refl _) _).alloc (by simp) _
  refine ⟨d + 1, [{ target := .collected d, args := #[] }], W0, { target := .fn (.func gf) lb, args := #[.func (.yield (d + 1)) #[] #[]] }, W0, gf, #[.func (.yield (d + 1)) #[] #[]] ++ lb, W0,
    run_enterLoop_outer _ _ _ _ _, ?_, ?_, ?_, fun _ => h1, ?_⟩
  · simp only [resolve, hg]
    simp [go_sem]
  · intro f' hf'
    simp [Target.leads] at hf'
    subst hf'
    exact hFg
  · simp [invoke, go_sem, eg]
  refine (hseq (d + 1) W0 (fun W => W.heap[d + 1]? = some (.loop (rc .ready none)) ∧ W.heap[d]? = some (.deferred (some []))) (fun W => W.heap[d + 1]? = some (.loop (rc .done (some .ret))) ∧ W.heap[d]? = some (.deferred (some []))) hB0
    (fun A B h k => ⟨k.same _ _ h.1 rfl, k.same _ _ h.2 rfl⟩) (fun A B h k => ⟨k.same _ _ h.1 rfl, k.same _ _ h.2 rfl⟩) ?_ (hJ0 _ _) ⟨s1, s0⟩).mono ?_
  · rintro pre x r W hj ⟨hl, hk⟩ hnx
    have hlt : d + 1 < W.heap.size := (Array.getElem?_eq_some_iff.1 hl).1
    let W2 := W.putObj (d + 1) (.loop (rc .busy none))
    have hl2 : W2.heap[d + 1]? = some (.loop (rc .busy none)) := World.putObj_heap_same hlt
    have hk2 : W2.heap[d]? = some (.deferred (some [])) := (World.putObj_heap_other (by omega)).trans hk
    refine ⟨fn, _, assign, body, run_yield (r := rc .ready none) hl (hps x), roundIn_of_wpIn hfn (hassign _ x W _ ⟨_, run_beginRound (r := rc .ready none) hl rfl, ?_⟩)⟩
    refine wpIn_mono (hbody _ pre x r W2 (hJ _ _ _ _ _ hj (by omega) ⟨_, hl, rfl⟩) hnx) ?_
    intro e a3 W3 hp
    cases e with
    | normal =>
      obtain ⟨hk3, hj3⟩ := hp
      have hl3 := hk3.same _ _ hl2 rfl
      have hd3 := hk3.same _ _ hk2 rfl
      refine ⟨_, _, run_endRound (r := rc .busy none) none hl3, .inl ⟨rfl, hJ _ _ _ _ _ hj3 (by omega) ⟨_, hl3, rfl⟩, ?_, (World.putObj_heap_other (by omega)).trans hd3⟩⟩
      exact World.putObj_heap_same (Array.getElem?_eq_some_iff.1 hl3).1
    | ret =>
      obtain ⟨hk3, hj3⟩ := hp
      have hl3 := hk3.same _ _ hl2 rfl
      have hd3 := hk3.same _ _ hk2 rfl
      refine ⟨_, _, run_endRound (r := rc .busy none) (some .ret) hl3, .inr ⟨rfl, hJx _ _ _ _ _ hj3 (by omega) ⟨_, hl3, rfl⟩, ?_, (World.putObj_heap_other (by omega)).trans hd3⟩⟩
      exact World.putObj_heap_same (Array.getElem?_eq_some_iff.1 hl3).1
    | exit id => exact hp.elim
    | goto t => exact hp.elim
    | panic ch => exact hp.elim
    | outgrown => exact hp.elim
  · rintro e W2 ⟨⟨v, rfl⟩, ⟨xs, r, hS, hj, hl, hk⟩ | ⟨xs, r, hj, hl, hk⟩⟩
    · exact ⟨none, _, run_endLoop (r := rc .ready none) hl (by simp [rc]), hdone d xs r _ (Nat.le_refl _) hS (hJ _ _ _ _ _ hj (by omega) ⟨_, hl, rfl⟩) ((World.putObj_heap_other (by omega)).trans hk)⟩
    · exact ⟨some .ret, _, run_endLoop (r := rc .done (some .ret)) hl (by simp [rc]), hstop d xs r _ (Nat.le_refl _) (hJx _ _ _ _ _ hj (by omega) ⟨_, hl, rfl⟩) ((World.putObj_heap_other (by omega)).trans hk)⟩
end Go.Proofs.YtnjcenbmdcogpaaGreatDoor.Sp
/- Parting a text at its first line feed; whether it ends in one. -/
namespace Go.Proofs.YtnjcenbmdcogpaaGreatDoor.Sp
open Go Go.Lib Go.RowKit Go.Shelf
set_option linter.unusedSimpArgs false
set_option linter.unusedVariables false

set_option maxRecDepth 20000 in
theorem lcut_no (s : ByteArray) (h : indexByte s.data.toList 10 = -1) (w : World) : Calls Tryz.prog 124 #[.string s, .string ⟨#[10]⟩] w fun e w' => e = .returned (.tuple #[.string s, .string ⟨#[]⟩, .bool false]) ∧ Below w.heap.size w w' := by
  have HI := Lib.hid (fun W => ix10 s W)
  rw [h] at HI
  clear h
  go_enter Tryz.func124, Tryz.ntmps124
  go_wp2_with fail
  refine (HI.out _).mono ?_
  rintro _ w1 ⟨rfl, hw⟩
  obtain rfl := hw.symm
  clear hw
  go_wp2
  refine bodyPost_ret (results_tmp3 rfl _ _ _) rfl ?_
  exact ⟨rfl, Below.refl _ _⟩
set_option maxRecDepth 20000 in
theorem lcut_yes (s : ByteArray) (o : Nat) (hs : s.size ≤ 1099511627776) (h : indexByte s.data.toList 10 = o) (ho : o < s.size) (w : World) : Calls Tryz.prog 124 #[.string s, .string ⟨#[10]⟩] w fun e w' => e = .returned (.tuple #[.string (s.extract 0 o), .string (s.extract (o + 1) s.size), .bool true]) ∧ Below w.heap.size w w' := by
  have HI := Lib.hid (fun W => ix10 s W)
  rw [h] at HI
  have hw : IntKind.i64.wrap ((o : Int) + 1) = (o : Int) + 1 := IntWalk.i64_in _ ⟨by omega, by omega⟩
  have b0 : (0 : Int) ≤ (o : Int) := by omega
  have b1 : (o : Int) ≤ (s.size : Int) := by omega
  have b2 : (o : Int) + 1 ≤ (s.size : Int) := by omega
  have b3 : (0 : Int) ≤ (o : Int) + 1 := by omega
  clear h
  go_enter Tryz.func124, Tryz.ntmps124
  go_wp2_with fail
  refine (HI.out _).mono ?_
  rintro _ w1 ⟨rfl, hw'⟩
  obtain rfl := hw'.symm
  clear hw'
  go_wp2
  go_quiet (fail)
  go_wp2
  refine bodyPost_ret (results_tmp3 rfl _ _ _) rfl ?_
  exact ⟨rfl, below_drewN (Below.refl _ _) _⟩
set_option maxRecDepth 20000 in
theorem cut_no (s : ByteArray) (h : indexByte s.data.toList 10 = -1) (w : World) : Calls Tryz.prog 90 #[.string s, .string ⟨#[10]⟩] w fun e w' => e = .returned (.tuple #[.string s, .string ⟨#[]⟩, .bool false]) ∧ Below w.heap.size w w' := by
  have HI := Lib.hid (fun W => lcut_no s h W)
  clear h
  go_enter Tryz.func90, Tryz.ntmps90
  go_wp2_with fail
  refine (HI.out _).mono ?_
  rintro _ w1 ⟨rfl, hb⟩
  go_wp2
  refine bodyPost_ret (results_tmp3 rfl _ _ _) rfl ?_
  exact ⟨rfl, hb⟩
set_option maxRecDepth 20000 in
theorem cut_yes (s : ByteArray) (o : Nat) (hs : s.size ≤ 1099511627776) (h : indexByte s.data.toList 10 = o) (ho : o < s.size) (w : World) : Calls Tryz.prog 90 #[.string s, .string ⟨#[10]⟩] w fun e w' => e = .returned (.tuple #[.string (s.extract 0 o), .string (s.extract (o + 1) s.size), .bool true]) ∧ Below w.heap.size w w' := by
  have HI := Lib.hid (fun W => lcut_yes s o hs h ho W)
  clear h hs ho
  go_enter Tryz.func90, Tryz.ntmps90
  go_wp2_with fail
  refine (HI.out _).mono ?_
  rintro _ w1 ⟨rfl, hb⟩
  go_wp2
  refine bodyPost_ret (results_tmp3 rfl _ _ _) rfl ?_
  exact ⟨rfl, hb⟩
theorem ext_last (s : ByteArray) (h : 0 < s.size) : ∃ c, s.data.toList.getLast? = some c ∧ s.extract (s.size - 1) s.size = ⟨#[c]⟩ ∧ s[s.size - 1]'(by omega) = c := by
  obtain ⟨⟨l⟩⟩ := s
  have hl : 0 < l.length := h
  obtain ⟨a, c, rfl⟩ : ∃ a c, l = a ++ [c] := ⟨l.dropLast, l.getLast (by intro e; subst e; simp at hl), (List.dropLast_concat_getLast _).symm⟩
  refine ⟨c, by simp, ?_, ?_⟩
  · apply Go.WideShapes.bytes_inj
    have e : (⟨⟨a ++ [c]⟩⟩ : ByteArray).size = a.length + 1 := by show (a ++ [c]).length = _; simp
    rw [extract_eq, e]
    simp
  · show (a ++ [c]).toArray[(a ++ [c]).toArray.size - 1]'_ = c
    simp
set_option maxRecDepth 20000 in
theorem lsuf_any (s : ByteArray) (h0 : 0 < s.size) (hs : s.size ≤ 1099511627776) (c : UInt8) (hc : s.extract (s.size - 1) s.size = ⟨#[c]⟩) (w : World) : Calls Tryz.prog 88 #[.string s, .string ⟨#[10]⟩] w fun e w' => e = .returned (.bool (c == 10)) ∧ Below w.heap.size w w' := by
  have hw : IntKind.i64.wrap ((s.size : Int) - 1) = ((s.size - 1 : Nat) : Int) := by rw [show ((s.size - 1 : Nat) : Int) = (s.size : Int) - 1 by omega]; exact IntWalk.i64_in _ ⟨by omega, by omega⟩
  have b0 : (1 : Int) ≤ (s.size : Int) := by omega
  have b1 : ((s.size - 1 : Nat) : Int) ≤ (s.size : Int) := by omega
  have b2 : (0 : Int) ≤ ((s.size - 1 : Nat) : Int) := by omega
  have b4 : (s.size : Int) ≤ 9223372036854775807 := by omega
  go_enter Tryz.func88, Tryz.ntmps88
  go_wp2
  go_ret
  exact ⟨rfl, Below.refl _ _⟩
set_option maxRecDepth 20000 in
theorem suf_any (s : ByteArray) (h0 : 0 < s.size) (hs : s.size ≤ 1099511627776) (c : UInt8) (hc : s.extract (s.size - 1) s.size = ⟨#[c]⟩) (w : World) : Calls Tryz.prog 60 #[.string s, .string ⟨#[10]⟩] w fun e w' => e = .returned (.bool (c == 10)) ∧ Below w.heap.size w w' := by
  have HI := Lib.hid (fun W => lsuf_any s h0 hs c hc W)
  clear h0 hs hc
  go_enter Tryz.func60, Tryz.ntmps60
  go_wp2_with fail
  refine (HI.out _).mono ?_
  rintro _ w1 ⟨rfl, hb⟩
  go_wp2
  go_ret
  exact ⟨rfl, hb⟩
end Go.Proofs.YtnjcenbmdcogpaaGreatDoor.Sp
/- step.lines: the iterator of a text's lines, its text in a cell of its own. -/
namespace Go.Proofs.YtnjcenbmdcogpaaGreatDoor.Sp
open Go Go.Lib Go.RowKit Go.Shelf
attribute [local go_sem] Oper.semAt_some
set_option linter.unusedSimpArgs false
set_option linter.unusedVariables false

theorem keeps_below {W W' : World} (h : Below W.heap.size W W') : KeepsOthers W W' := ⟨h.size, fun k o hk _ => (h.block k (Array.getElem?_eq_some_iff.1 hk).1).trans hk⟩
theorem boxed_below {W W' : World} {B : Nat} {t : TypeId} {v : Value} (h : Boxed W B t v) (hb : Below W.heap.size W W') : Boxed W' B t v := (hb.block B h.lt).trans h
def bsL (xs : List ByteArray) : List Bs := xs.map (·.data.toList)
/-- x is the line that comes next -/
def Nx (s : ByteArray) (r : ByteArray) (pre : List ByteArray) (x : ByteArray) : Prop :=
  x.size ≤ s.size ∧ ∃ rest, bsL pre ++ x.data.toList :: rest = lnA [] s.data.toList
theorem ln_hit (r : ByteArray) (o : Nat) (h : indexByte r.data.toList 10 = o) : lnA [] r.data.toList = (r.extract 0 o).data.toList :: lnA [] (r.extract (o + 1) r.size).data.toList := by
  obtain ⟨h1, h2⟩ := indexByte_some h
  rw [lnA_some r.data.toList [] o h1 h2]
  have e1 : (r.extract 0 o).data.toList = r.data.toList.take o := by rw [ByteArray.data_extract, Array.toList_extract]; simp [List.extract]
  have e2 : (r.extract (o + 1) r.size).data.toList = r.data.toList.drop (o + 1) := by
    rw [ByteArray.data_extract, Array.toList_extract]
    simp only [List.extract]
    rw [List.take_of_length_le]
    rw [List.length_drop]
    show r.data.toList.length - (o + 1) ≤ r.data.size - (o + 1)
    simp
  rw [e1, e2]; rfl
theorem ln_miss (r : ByteArray) (h : indexByte r.data.toList 10 = -1) : lnA [] r.data.toList = [] := by
  refine lnA_none _ _ fun c hc e => ?_
  obtain ⟨k, hk⟩ := List.getElem?_of_mem hc
  exact indexByte_none h k (by rw [hk, e])
theorem ix_lt (r : ByteArray) (o : Nat) (h : indexByte r.data.toList 10 = o) : o < r.size := by
  obtain ⟨h1, _⟩ := indexByte_some h
  have := (List.getElem?_eq_some_iff.1 h1).1
  show o < r.data.size
  simpa using this

set_option maxRecDepth 100000 in
set_option maxHeartbeats 2000000 in
theorem lines_iter (n : Nat) (hn : 1 ≤ n) (Bl : Nat) (s : ByteArray) (hs : s.size ≤ 1000000) (C Cx : List ByteArray → World → Prop)
    (hCb : ∀ pre W W', C pre W → Below W.heap.size W W' → C pre W') (hCs : ∀ pre W v, C pre W → C pre (W.setCell ⟨Bl, 0, none⟩ v)) (w : World) :
    IterX Fence.wide n Tryz.prog 89 #[.pointer (some ⟨Bl, 0, none⟩)] (fun x : ByteArray => #[.string x]) (fun r pre W => C pre W ∧ Boxed W Bl 9 (.string r)) (fun (_ : ByteArray) pre W => Cx pre W) (Nx s) (fun xs => bsL xs = lnA [] s.data.toList) s w := by
  intro l W1 R Rx hB1 hR hRx hY h0 hr0
  refine callsIn_of_wp Tryz.func89 rfl trivial ?_
  simp only [Tryz.ntmps89, List.size_toArray, List.length_cons, List.length_nil, Nat.reduceAdd, Nat.reduceSub, Array.replicate_succ, Array.replicate_zero, List.push_toArray, List.append_toArray, List.nil_append, List.cons_append]
  gi_wp2
  gi_loopw [] (fun wr => ∃ (pre : List ByteArray) (r : ByteArray), Hid (bsL pre ++ lnA [] r.data.toList = lnA [] s.data.toList ∧ r.size ≤ s.size) ∧ Hid (C pre wr ∧ R wr) ∧ Boxed wr Bl 9 (.string r))
    (fun wr => match wr.cell? ⟨Bl, 0, none⟩ with | some (.string r) => r.size | _ => 0)
  case atStart => exact ⟨[], s, Lib.hid ⟨by simp [bsL], Nat.le_refl _⟩, Lib.hid ⟨h0.1, hr0⟩, h0.2⟩
  case round =>
    obtain ⟨pre, r, hp, hx, hbl⟩ := hrel
    have q0 := hbl.cell
    have hrs := hp.out.2
    have HB := Lib.hid hbl
    have HY := Lib.hid (And.intro hY (And.intro hR (And.intro hCb hCs)))
    have hi := indexByte_ge r.data.toList 10
    clear hbl hY hR hCb hCs h0 hr0 hRx
    by_cases hix : indexByte r.data.toList 10 = -1
    · have HI := Lib.hid hix
      clear hix hi
      gi_wp2_with fail
      refine ⟨trivial, (callsIn_wide.2 (cut_no r HI.out _)).mono ?_⟩
      rintro _ w2 ⟨rfl, hb⟩
      have H2 := Lib.hid hb
      clear hb
      gi_wp2
      refine ⟨fun _ h => (by cases h), ?_⟩
      gi_wp2
      refine bodyPost_ret (results_none rfl _ _ _) rfl ?_
      exact ⟨⟨_, rfl⟩, .inl ⟨pre, r, by have := hp.out.1; rwa [ln_miss r HI.out, List.append_nil] at this, ⟨HY.out.2.2.1 _ _ _ hx.out.1 H2.out, boxed_below HB.out H2.out⟩, HY.out.2.1 _ _ hx.out.2 (keeps_below H2.out)⟩⟩
    · obtain ⟨o, ho⟩ : ∃ o : Nat, indexByte r.data.toList 10 = o := ⟨(indexByte r.data.toList 10).toNat, by omega⟩
      have HI := Lib.hid ho
      have hol := ix_lt r o ho
      clear hix hi ho
      gi_wp2_with fail
      refine ⟨trivial, (callsIn_wide.2 (cut_yes r o (by omega) HI.out hol _)).mono ?_⟩
      rintro _ w2 ⟨rfl, hb⟩
      have hC2 := HY.out.2.2.1 _ _ _ hx.out.1 hb
      have hb2 := boxed_below HB.out hb
      have hR2 := HY.out.2.1 _ _ hx.out.2 (keeps_below hb)
      have hnx : Nx s r pre (r.extract 0 o) := ⟨by rw [ByteArray.size_extract]; omega, _, by rw [← ln_hit r o HI.out]; exact hp.out.1⟩
      obtain ⟨fn, tmps, assign, body, hy, hRd⟩ := HY.out.1 pre (r.extract 0 o) r w2 ⟨hC2, hb2⟩ hR2 hnx
      try dsimp only at hy
      have HD := Lib.hid hRd
      have HO := Lib.hid hol
      clear hRd hC2 hb2 hR2 hnx hb hol
      gi_wp2
      refine HD.out.mono ?_
      rintro e W3 (⟨rfl, ⟨hC3, hb3⟩, hR3⟩ | ⟨rfl, hCx3, hR3⟩)
      · have q3 := hb3.cell
        have f3 := hb3.frozen
        have H3 := Lib.hid (And.intro hC3 (And.intro hR3 hb3))
        clear hC3 hR3 hb3
        gi_wp2
        go_roundw
        case rel =>
          refine ⟨pre ++ [r.extract 0 o], r.extract (o + 1) r.size, Lib.hid ⟨?_, ?_⟩, Lib.hid ⟨HY.out.2.2.2 _ _ _ H3.out.1, HY.out.2.1 _ _ H3.out.2.1 (KeepsOthers.setCell _ _ _)⟩, H3.out.2.2.set _⟩
          · have := hp.out.1
            rw [ln_hit r o HI.out] at this
            rw [← this]; simp [bsL]
          · rw [ByteArray.size_extract]; omega
        case measure =>
          have h4 := (H3.out.2.2.set (.string (r.extract (o + 1) r.size))).cell
          rw [q0, h4]
          show (r.extract (o + 1) r.size).size < r.size
          have := HO.out
          rw [ByteArray.size_extract]; omega
      · have H3 := Lib.hid (And.intro hCx3 hR3)
        clear hCx3 hR3
        gi_wp2
        refine bodyPost_ret (results_none rfl _ _ _) rfl ?_
        exact ⟨⟨_, rfl⟩, .inr ⟨_, r, H3.out.1, H3.out.2⟩⟩
end Go.Proofs.YtnjcenbmdcogpaaGreatDoor.Sp
/- step.Read: the steps of a script's text. -/
namespace Go.Proofs.YtnjcenbmdcogpaaGreatDoor.Sp
open Go Go.Lib Go.RowKit Go.Shelf
attribute [local go_sem] Oper.semAt_some
set_option linter.unusedSimpArgs false
set_option linter.unusedVariables false

theorem mklines_any (s : ByteArray) (w : World) : Calls Tryz.prog 61 #[.string s] w fun e w' =>
    e = .returned (.func (.func 89) #[] #[.pointer (some ⟨w.heap.size, 0, none⟩)]) ∧ w' = w.alloc (.cells #[.string s] 9) := by
  go_enter Tryz.func61, Tryz.ntmps61
  go_wp2
  go_ret
  exact ⟨rfl, rfl⟩

/-- Read's results while lines come -/
structure RC (L : List Bs) (w : World) (Bl : Nat) (pre : List ByteArray) (W : World) : Prop where
  ex : ∃ (xs : List St) (v : Value), (eachP 0 L = glueP xs (eachP pre.length (L.drop pre.length)) ∧ xs.length = pre.length) ∧ Boxed W w.heap.size 28 v ∧ W.ownsRow w.heap.size 26 8 v xs.length (sts xs)
  b1 : Boxed W (w.heap.size + 1) 3 (.int .i64 (pre.length : Int))
  b2 : Boxed W (w.heap.size + 1 + 1) 30 (.int .i64 0)
  bl : ∃ u, Boxed W Bl 9 u
  b : Below w.heap.size w W
  lo : w.heap.size + 3 ≤ Bl
/-- .. and where a line was none -/
structure RX (L : List Bs) (w : World) (k : Nat) (W : World) : Prop where
  r : eachP 0 L = ([], k, 3)
  b0 : Boxed W w.heap.size 28 (.slice none 0 0)
  b1 : Boxed W (w.heap.size + 1) 3 (.int .i64 (k : Int))
  b2 : Boxed W (w.heap.size + 1 + 1) 30 (.int .i64 3)
  b : Below w.heap.size w W
theorem RC.below {L : List Bs} {w W W' : World} {Bl : Nat} {pre : List ByteArray} (h : RC L w Bl pre W) (hb : Below W.heap.size W W') : RC L w Bl pre W' := by
  obtain ⟨⟨xs, v, hx, h0, hr⟩, h1, h2, ⟨u, hu⟩, hB, hl⟩ := h
  exact ⟨⟨xs, v, hx, boxed_below h0 hb, own_below hr hb⟩, boxed_below h1 hb, boxed_below h2 hb, ⟨u, boxed_below hu hb⟩, hB.trans (hb.mono hB.size), hl⟩
theorem RC.set {L : List Bs} {w W : World} {Bl : Nat} {pre : List ByteArray} (h : RC L w Bl pre W) (z : Value) : RC L w Bl pre (W.setCell ⟨Bl, 0, none⟩ z) := by
  obtain ⟨⟨xs, v, hx, h0, hr⟩, h1, h2, ⟨u, hu⟩, hB, hl⟩ := h
  exact ⟨⟨xs, v, hx, h0.other (by omega) z, hr.kept (grownBy_setCell' W Bl z) (.inr (hu.not_row (by decide) hr).symm)⟩, h1.other (by omega) z, h2.other (by omega) z, ⟨z, hu.set z⟩, hB.setCell (p := ⟨Bl, 0, none⟩) (by show w.heap.size ≤ Bl; omega) z, hl⟩
theorem lnA_len : ∀ (l acc : Bs), (lnA acc l).length ≤ l.length
  | [], _ => Nat.le_refl _
  | c :: r, acc => by
    unfold lnA
    split
    · have := lnA_len r []; simp only [List.length_cons]; omega
    · have := lnA_len r (acc ++ [c]); simp only [List.length_cons]; omega
theorem boxed_putO {w : World} {B k : Nat} {t : TypeId} {o' : Obj} {v : Value} (h : Boxed w B t v) (hk : ∃ o, w.heap[k]? = some o ∧ o.isCells = false) : Boxed (w.putObj k o') B t v := by
  obtain ⟨o, ho, hoc⟩ := hk
  have h' : w.heap[B]? = some (.cells #[v] t (0, 0)) := h
  exact (World.putObj_heap_other (fun e => by subst e; rw [ho] at h'; cases h'; cases hoc)).trans h'
theorem RC.put {L : List Bs} {w W : World} {Bl k : Nat} {pre : List ByteArray} {o' : Obj} (h : RC L w Bl pre W) (hw : w.heap.size ≤ k) (hk : ∃ o, W.heap[k]? = some o ∧ o.isCells = false) : RC L w Bl pre (W.putObj k o') := by
  obtain ⟨⟨xs, v, hx, h0, hr⟩, h1, h2, ⟨u, hu⟩, hB, hl⟩ := h
  have hk' := hk
  obtain ⟨o, ho, hoc⟩ := hk'
  exact ⟨⟨xs, v, hx, boxed_putO h0 hk, ownsRow_putObj hr _ ho hoc⟩, boxed_putO h1 hk, boxed_putO h2 hk, ⟨u, boxed_putO hu hk⟩, hB.trans ((Below.refl _ _).grown (grownBy_putObj' W k o') hB.size (fun j e => by cases e; omega)), hl⟩
theorem RX.put {L : List Bs} {w W : World} {n k : Nat} {o' : Obj} (h : RX L w n W) (hw : w.heap.size ≤ k) (hk : ∃ o, W.heap[k]? = some o ∧ o.isCells = false) : RX L w n (W.putObj k o') :=
  ⟨h.r, boxed_putO h.b0 hk, boxed_putO h.b1 hk, boxed_putO h.b2 hk, h.b.trans ((Below.refl _ _).grown (grownBy_putObj' W k o') h.b.size (fun j e => by cases e; omega))⟩

theorem res_read (tmps : Array Value) (W : World) (b : Nat) (A : Option Addr) (n c : Nat) (k e : Int) (p2 : tmps.getD 2 undef = .pointer (some ⟨b, 0, none⟩)) (p3 : tmps.getD 3 undef = .pointer (some ⟨b + 1, 0, none⟩)) (p4 : tmps.getD 4 undef = .pointer (some ⟨b + 1 + 1, 0, none⟩))
    (h0 : Boxed W b 28 (.slice A n c)) (h1 : Boxed W (b + 1) 3 (.int .i64 k)) (h2 : Boxed W (b + 1 + 1) 30 (.int .i64 e)) :
    (results Tryz.f19 tmps).run Tryz.prog W = .ok (.tuple #[.slice A n c, .int .i64 k, .int .i64 e]) W := by
  have q2 : tmps[2]?.getD undef = .pointer (some ⟨b, 0, none⟩) := by simpa using p2
  have q3 : tmps[3]?.getD undef = .pointer (some ⟨b + 1, 0, none⟩) := by simpa using p3
  have q4 : tmps[4]?.getD undef = .pointer (some ⟨b + 1 + 1, 0, none⟩) := by simpa using p4
  have c0 := h0.cell; have c1 := h1.cell; have c2 := h2.cell
  simp [results, Tryz.results19, q2, q3, q4, asAddr]
  go_simp
set_option maxRecDepth 100000 in
set_option maxHeartbeats 2000000 in
theorem read_go (s : ByteArray) (hs : s.size ≤ 1000000) (hln : ∀ y ∈ lnA [] s.data.toList, y.length ≤ 2000) (hc : s.data.toList.count 10 ≤ 1024) (hf : s.size = 0 ∨ s.data.toList.getLast? = some 10) (w : World) (ht : Dec.Tab w) (hE : ErrsLie w) :
    Calls Tryz.prog 19 #[.string s] w fun e w' => (∃ v, e = .returned (.tuple #[v, .int .i64 ((eachP 0 (lnA [] s.data.toList)).2.1 : Int), .int .i64 (eachP 0 (lnA [] s.data.toList)).2.2]) ∧ w'.ownsRow w.heap.size 26 8 v (eachP 0 (lnA [] s.data.toList)).1.length (sts (eachP 0 (lnA [] s.data.toList)).1)) ∧ Below w.heap.size w w' := by
  obtain ⟨L, hL⟩ : ∃ L, L = lnA [] s.data.toList := ⟨_, rfl⟩
  have HL := Lib.hid hL
  rw [← hL]
  have hLn : ∀ y ∈ L, y.length ≤ 2000 := by rw [hL]; exact hln
  have hLl : L.length ≤ 1000000 := by rw [hL]; have := lnA_len s.data.toList []; have e : s.data.toList.length = s.size := by rw [Array.length_toList]; rfl
                                      omega
  have HLn := Lib.hid (And.intro hLn hLl)
  clear hL hln hLn hLl
  obtain ⟨i0, hi, hz0, hz1, hz2⟩ := info_parts infoSt
  have hcc : ¬ (1024 : Int) < ((s.data.toList.count 10 : Nat) : Int) := by omega
  have HC := Lib.hid (fun W => cnt10 s W)
  generalize s.data.toList.count 10 = m at HC hcc hc
  refine (callsIn_wide (n := 6)).1 ?_
  refine callsIn_of_wp_marks Tryz.func19 rfl trivial ?_
  simp only [Tryz.ntmps19, List.size_toArray, List.length_cons, List.length_nil, Nat.reduceAdd, Nat.reduceSub, Array.replicate_succ, Array.replicate_zero, List.push_toArray, List.append_toArray, List.nil_append, List.cons_append]
  gi_wp2_with fail
  refine ⟨trivial, (callsIn_wide.2 (HC.out _)).mono ?_⟩
  rintro _ wq ⟨rfl, hq⟩
  obtain rfl := hq.symm
  clear hq
  by_cases h0 : s.size = 0
  · have hE2 : s.toList = [] := by rw [ByteArray.toList_eq]; exact List.eq_nil_of_length_eq_zero (by rw [Array.length_toList]; exact h0)
    have HE1 := Lib.hid hE2
    obtain ⟨w1, hw1⟩ : ∃ w1, w1 = (((w.alloc (.cells #[.slice none 0 0] 28)).alloc (.cells #[.int .i64 0] 3)).alloc (.cells #[.int .i64 0] 30)) := ⟨_, rfl⟩
    have HB1 : Hid (Below (((w.alloc (.cells #[.slice none 0 0] 28)).alloc (.cells #[.int .i64 0] 3)).alloc (.cells #[.int .i64 0] 30)).heap.size (((w.alloc (.cells #[.slice none 0 0] 28)).alloc (.cells #[.int .i64 0] 3)).alloc (.cells #[.int .i64 0] 30)) w1) := Lib.hid (by rw [hw1]; exact Below.refl _ _)
    have HW1 := Lib.hid hw1
    clear hw1
    gi_wp2_with fail
    refine ⟨trivial, ?_⟩
    gi_wp2_with fail
    rw [← HW1.out]
    refine ⟨trivial, (callsIn_wide.2 (mklines_any s _)).mono ?_⟩
    rintro _ w2 ⟨rfl, hw2⟩
    have HW2 := Lib.hid hw2
    clear hw2
    clear hE2
    gi_wp2_with fail
    have hB1 : w1.heap.size ≥ w.heap.size + 3 := by have := HB1.out.size; simp at this; omega
    have hC0 : RC L w w1.heap.size [] w2 := by
      have hbB : Below w.heap.size w ((((w.alloc (.cells #[.slice none 0 0] 28)).alloc (.cells #[.int .i64 0] 3)).alloc (.cells #[.int .i64 0] 30))) := (((Below.refl _ w).alloc (Nat.le_refl _) _).alloc (by simp) _).alloc (by simp; omega) _
      have q0 := ((Boxed.new w 28 (.slice none 0 0)).alloc (.cells #[.int .i64 0] 3)).alloc (.cells #[.int .i64 0] 30)
      have q1 := (Boxed.new (w.alloc (.cells #[.slice none 0 0] 28)) 3 (.int .i64 0)).alloc (.cells #[.int .i64 0] 30)
      have q2 := Boxed.new ((w.alloc (.cells #[.slice none 0 0] 28)).alloc (.cells #[.int .i64 0] 3)) 30 (.int .i64 0)
      simp only [World.size_alloc] at q1 q2
      have bl := Boxed.new w1 9 (.string s)
      rw [← HW2.out] at bl
      have hb2 : Below w1.heap.size w1 w2 := by rw [HW2.out]; exact (Below.refl _ _).alloc (Nat.le_refl _) _
      have g : ∀ {B t v}, Boxed (((w.alloc (.cells #[.slice none 0 0] 28)).alloc (.cells #[.int .i64 0] 3)).alloc (.cells #[.int .i64 0] 30)) B t v → Boxed w2 B t v := fun h => boxed_below (boxed_below h HB1.out) hb2
      exact ⟨⟨[], .slice none 0 0, ⟨(glueP_nil 0 _).symm, rfl⟩, g q0, World.ownsRow_nil _ _ _ _⟩, g q1, g q2, ⟨_, bl⟩, (hbB.trans (HB1.out.mono hbB.size)).trans (hb2.mono (by have := HB1.out.size; have := hbB.size; omega)), hB1⟩
    have bl0 : Boxed w2 w1.heap.size 9 (.string s) := by rw [HW2.out]; exact Boxed.new w1 9 (.string s)
    have HT := Lib.hid ht
    have HEe := Lib.hid hE
    have hw2s : w.heap.size ≤ w2.heap.size := hC0.b.size
    generalize w1.heap.size = Bl at hC0 bl0 hB1 ⊢
    clear HW2 HB1 hB1 ht hE
    refine range_x rfl (by decide) (gf := 89) (lb := #[.pointer (some ⟨Bl, 0, none⟩)]) rfl trivial (enters_of Tryz.func89 (by kernel_rfl) rfl) (encs := fun x : ByteArray => #[.string x]) (fun _ => rfl)
      (fun r pre W => RC L w Bl pre W ∧ Boxed W Bl 9 (.string r)) (fun (_ : ByteArray) pre W => RX L w pre.length W) (Nx s) s
      (lines_iter 5 (by decide) Bl s hs (fun pre W => RC L w Bl pre W) (fun pre W => RX L w pre.length W) (fun _ _ _ h hb => h.below hb) (fun _ _ z h => h.set z) w2)
      (fun r pre W k o' h hk ho => ⟨h.1.put (by omega) ho, boxed_putO h.2 ho⟩) (fun r pre W k o' h hk ho => h.put (by omega) ho)
      (fun o o' => ⟨hC0.below (((Below.refl _ w2).alloc (Nat.le_refl _) _).alloc (by simp) _), (bl0.alloc _).alloc _⟩)
      (fun x => { tmps := #[.string s, undef, .pointer (some ⟨w.heap.size, 0, none⟩), .pointer (some ⟨w.heap.size + 1, 0, none⟩), .pointer (some ⟨w.heap.size + 1 + 1, 0, none⟩), .string x, undef, undef, .string s, .int .i64 (m : Int), .bool (decide ((1024 : Int) < (m : Int))), .string s, .bool false, .bool false, undef, undef, undef, .bool false, .string s, .func (.func 89) #[] #[.pointer (some ⟨Bl, 0, none⟩)], .string x, undef, undef, undef, undef, undef, undef, undef, undef, undef, undef, undef, undef, undef, undef, undef, undef], defers := [] }) ?assign ?body ?done ?stop
    case assign =>
      intro l x W K hK
      gi_wp2
      exact hK
    case body =>
      rintro l pre x r W ⟨hC, hbl⟩ hnx
      obtain ⟨⟨xs, v, ⟨hG, hxl⟩, h0, hr⟩, h1, h2, ⟨u, hu⟩, hB, hlo⟩ := hC
      obtain ⟨hxs, rest, hrest⟩ := hnx
      have hdrop : L.drop pre.length = x.data.toList :: rest := by
        rw [HL.out, ← hrest, List.drop_append_of_le_length (by simp [bsL]), List.drop_of_length_le (by simp [bsL])]; rfl
      have hkL : pre.length < L.length := by
        have := congrArg List.length hdrop
        rw [List.length_drop, List.length_cons] at this; omega
      have hdrop1 : L.drop (pre.length + 1) = rest := by
        rw [← List.drop_drop, hdrop]; rfl
      have hx2 : x.size ≤ 2000 := by
        have := HLn.out.1 x.data.toList (by rw [HL.out, ← hrest]; simp)
        rw [Array.length_toList] at this; exact this
      have hk6 : pre.length ≤ 1000000 := by have := HLn.out.2; omega
      have hki : (pre.length : Int) ≤ 1000000 := by omega
      have hk0 : (0 : Int) ≤ (pre.length : Int) := by omega
      have c1 := h1.cell
      have f1 := h1.frozen
      have hB1 : Below w.heap.size w (W.setCell ⟨w.heap.size + 1, 0, none⟩ (.int .i64 ((pre.length : Int) + 1))) := hB.setCell (p := ⟨w.heap.size + 1, 0, none⟩) (by show w.heap.size ≤ w.heap.size + 1; omega) _
      have HPp := Lib.hid (parse_any x hx2 _ (tabB HT.out hB1) (HEe.out.below hB1))
      have HF := Lib.hid (And.intro hG (And.intro hxl (And.intro hdrop hdrop1)))
      have HW := Lib.hid (And.intro h0 (And.intro hr (And.intro h1 (And.intro h2 (And.intro hu (And.intro hbl hB))))))
      clear hG hxl hdrop hdrop1 h0 hr h1 h2 hu hbl hrest hxs hB1 hx2 hkL
      gi_wp2_with fail
      refine ⟨trivial, (CallsIn.inRound l (callsIn_wide.2 HPp.out)).mono ?_⟩
      rintro _ W2 ⟨rfl, hb2⟩
      unfold pE
      have HB2 := Lib.hid hb2
      have k1 := boxed_below (HW.out.2.2.1.set (.int .i64 ((pre.length : Int) + 1))) hb2
      have k0 := boxed_below (HW.out.1.other (B' := w.heap.size + 1) (by omega) (.int .i64 ((pre.length : Int) + 1))) hb2
      have k2 := boxed_below (HW.out.2.2.2.1.other (B' := w.heap.size + 1) (by omega) (.int .i64 ((pre.length : Int) + 1))) hb2
      have kl := boxed_below (HW.out.2.2.2.2.2.1.other (B' := w.heap.size + 1) (by omega) (.int .i64 ((pre.length : Int) + 1))) hb2
      have kr := own_below (HW.out.2.1.kept (grownBy_setCell' W (w.heap.size + 1) (.int .i64 ((pre.length : Int) + 1))) (.inr (HW.out.2.2.1.not_row (by decide) HW.out.2.1).symm)) hb2
      have kB := (HW.out.2.2.2.2.2.2.setCell (p := ⟨w.heap.size + 1, 0, none⟩) (by show w.heap.size ≤ w.heap.size + 1; omega) (.int .i64 ((pre.length : Int) + 1))).trans (hb2.mono (by simpa using HW.out.2.2.2.2.2.2.size))
      have kO : KeepsOthers W W2 := (KeepsOthers.setCell _ _ _).trans (keeps_below hb2)
      clear hb2 c1 f1 HPp HW
      cases hp : parseL x.data.toList with
      | none =>
        obtain ⟨V, hV⟩ : ∃ V : World, V = (W2.alloc (.cells #[.int .i64 0, .int .i64 0, .int .i64 0, .int .i64 0, .int .i64 0, .int .u64 0, .int .u64 0, .string ⟨#[]⟩] 26)).drew := ⟨_, rfl⟩
        have v0 : Boxed V w.heap.size 28 v := by rw [hV]; exact k0.alloc (.cells #[.int .i64 0, .int .i64 0, .int .i64 0, .int .i64 0, .int .i64 0, .int .u64 0, .int .u64 0, .string ⟨#[]⟩] 26)
        have v1 : Boxed V (w.heap.size + 1) 3 (.int .i64 ((pre.length : Int) + 1)) := by rw [hV]; exact k1.alloc (.cells #[.int .i64 0, .int .i64 0, .int .i64 0, .int .i64 0, .int .i64 0, .int .u64 0, .int .u64 0, .string ⟨#[]⟩] 26)
        have v2 : Boxed V (w.heap.size + 1 + 1) 30 (.int .i64 0) := by rw [hV]; exact k2.alloc (.cells #[.int .i64 0, .int .i64 0, .int .i64 0, .int .i64 0, .int .i64 0, .int .u64 0, .int .u64 0, .string ⟨#[]⟩] 26)
        have vB : Below w.heap.size w V := by rw [hV]; exact (kB.alloc kB.size (.cells #[.int .i64 0, .int .i64 0, .int .i64 0, .int .i64 0, .int .i64 0, .int .u64 0, .int .u64 0, .string ⟨#[]⟩] 26)).drew
        have vO : KeepsOthers W V := by rw [hV]; exact (kO.trans (KeepsOthers.alloc _ (.cells #[.int .i64 0, .int .i64 0, .int .i64 0, .int .i64 0, .int .i64 0, .int .u64 0, .int .u64 0, .string ⟨#[]⟩] 26))).trans (KeepsOthers.drew _)
        have u0 := v0.set (.slice none 0 0)
        have u1 := v1.other (B' := w.heap.size) (by omega) (.slice none 0 0)
        have u2 := v2.other (B' := w.heap.size) (by omega) (.slice none 0 0)
        have t0 := u0.other (B' := w.heap.size + 1) (by omega) (.int .i64 ((pre.length : Int) + 1))
        have t1 := u1.set (.int .i64 ((pre.length : Int) + 1))
        have t2 := u2.other (B' := w.heap.size + 1) (by omega) (.int .i64 ((pre.length : Int) + 1))
        have s0 := t0.other (B' := w.heap.size + 1 + 1) (by omega) (.int .i64 3)
        have s1 := t1.other (B' := w.heap.size + 1 + 1) (by omega) (.int .i64 3)
        have s2 := t2.set (.int .i64 3)
        have sB := ((vB.setCell (p := ⟨w.heap.size, 0, none⟩) (by show w.heap.size ≤ w.heap.size; omega) (.slice none 0 0)).setCell (p := ⟨w.heap.size + 1, 0, none⟩) (by show w.heap.size ≤ w.heap.size + 1; omega) (.int .i64 ((pre.length : Int) + 1))).setCell (p := ⟨w.heap.size + 1 + 1, 0, none⟩) (by show w.heap.size ≤ w.heap.size + 1 + 1; omega) (.int .i64 3)
        have sO := ((vO.trans (KeepsOthers.setCell V ⟨w.heap.size, 0, none⟩ (.slice none 0 0))).trans (KeepsOthers.setCell _ ⟨w.heap.size + 1, 0, none⟩ (.int .i64 ((pre.length : Int) + 1)))).trans (KeepsOthers.setCell _ ⟨w.heap.size + 1 + 1, 0, none⟩ (.int .i64 3))
        have hlen : (pre ++ [x]).length = pre.length + 1 := by simp
        have HFin : Hid (KeepsOthers W (((V.setCell ⟨w.heap.size, 0, none⟩ (.slice none 0 0)).setCell ⟨w.heap.size + 1, 0, none⟩ (.int .i64 ((pre.length : Int) + 1))).setCell ⟨w.heap.size + 1 + 1, 0, none⟩ (.int .i64 3)) ∧ RX L w (pre ++ [x]).length (((V.setCell ⟨w.heap.size, 0, none⟩ (.slice none 0 0)).setCell ⟨w.heap.size + 1, 0, none⟩ (.int .i64 ((pre.length : Int) + 1))).setCell ⟨w.heap.size + 1 + 1, 0, none⟩ (.int .i64 3))) :=
          Lib.hid ⟨sO, by rw [HF.out.1, HF.out.2.2.1, glueP_bad _ _ _ _ hp, hlen], s0, by rw [hlen]; exact s1, s2, sB⟩
        have d1 := v1.cell; have d1' := u1.cell
        have e0 := v0.frozen; have e1 := u1.frozen; have e2 := t2.frozen
        have f0 := u0.frozen
        have g0 := v0.cell; have g1 := u1.cell; have g2 := t2.cell
        clear v0 v1 v2 vB vO u0 u1 u2 t0 t1 t2 s0 s1 s2 sB sO k0 k1 k2 kl kr kB kO hp
        dsimp only [St0, St.cells]
        gi_wp2
        refine wpIn_region_any (by kernel_rfl) ?_
        change wpAnyIn _ _ _ _ _ _ _ _ _ (World.drew _)
        rw [← hV]
        clear hV
        refine wpAnyIn_ready (rs := [0, 1, 2]) (by kernel_rfl) (by simp) ?_
        refine AllReadyIn.cons rfl (fun K hK => ?_) ?_
        · go_simp
          refine hK _ _ ?_
          clear hK K
          refine wpAnyIn_ready (rs := [1, 2]) (by kernel_rfl) (by simp) ?_
          refine AllReadyIn.cons rfl (fun K hK => ?_) ?_
          · go_simp
            refine hK _ _ ?_
            clear hK K
            refine wpAnyIn_ready (rs := [2]) (by kernel_rfl) (by simp) ?_
            refine AllReadyIn.cons rfl (fun K hK => ?_) ?_
            · go_simp
              refine hK _ _ ?_
              clear hK K
              refine wpAnyIn_ready (rs := [3]) (by kernel_rfl) (by simp) ?_
              refine AllReadyIn.cons rfl (fun K hK => ?_) ?_
              · go_simp
                refine hK _ _ ?_
                clear hK K
                refine wpAnyIn_ready (rs := [4]) (by kernel_rfl) (by simp) ?_
                refine AllReadyIn.cons rfl (fun K hK => ?_) ?_
                · go_simp
                  refine hK _ _ ?_
                  clear hK K
                  refine wpAnyIn_done (by kernel_rfl) ?_ _
                  gi_wp2
                  exact HFin.out
                exact AllReadyIn.nil
              exact AllReadyIn.nil
            exact AllReadyIn.nil
          refine AllReadyIn.cons rfl (fun K hK => ?_) ?_
          · go_simp
            refine hK _ _ ?_
            clear hK K
            refine wpAnyIn_ready (rs := [1, 3]) (by kernel_rfl) (by simp) ?_
            refine AllReadyIn.cons rfl (fun K hK => ?_) ?_
            · go_simp
              refine hK _ _ ?_
              clear hK K
              refine wpAnyIn_ready (rs := [3]) (by kernel_rfl) (by simp) ?_
              refine AllReadyIn.cons rfl (fun K hK => ?_) ?_
              · go_simp
                refine hK _ _ ?_
                clear hK K
                refine wpAnyIn_ready (rs := [4]) (by kernel_rfl) (by simp) ?_
                refine AllReadyIn.cons rfl (fun K hK => ?_) ?_
                · go_simp
                  refine hK _ _ ?_
                  clear hK K
                  refine wpAnyIn_done (by kernel_rfl) ?_ _
                  gi_wp2
                  exact HFin.out
                exact AllReadyIn.nil
              exact AllReadyIn.nil
            refine AllReadyIn.cons rfl (fun K hK => ?_) ?_
            · go_simp
              refine hK _ _ ?_
              clear hK K
              refine wpAnyIn_ready (rs := [1]) (by kernel_rfl) (by simp) ?_
              refine AllReadyIn.cons rfl (fun K hK => ?_) ?_
              · go_simp
                refine hK _ _ ?_
                clear hK K
                refine wpAnyIn_ready (rs := [4]) (by kernel_rfl) (by simp) ?_
                refine AllReadyIn.cons rfl (fun K hK => ?_) ?_
                · go_simp
                  refine hK _ _ ?_
                  clear hK K
                  refine wpAnyIn_done (by kernel_rfl) ?_ _
                  gi_wp2
                  exact HFin.out
                exact AllReadyIn.nil
              exact AllReadyIn.nil
            exact AllReadyIn.nil
          exact AllReadyIn.nil
        refine AllReadyIn.cons rfl (fun K hK => ?_) ?_
        · go_simp
          refine hK _ _ ?_
          clear hK K
          refine wpAnyIn_ready (rs := [0, 2]) (by kernel_rfl) (by simp) ?_
          refine AllReadyIn.cons rfl (fun K hK => ?_) ?_
          · go_simp
            refine hK _ _ ?_
            clear hK K
            refine wpAnyIn_ready (rs := [2]) (by kernel_rfl) (by simp) ?_
            refine AllReadyIn.cons rfl (fun K hK => ?_) ?_
            · go_simp
              refine hK _ _ ?_
              clear hK K
              refine wpAnyIn_ready (rs := [3]) (by kernel_rfl) (by simp) ?_
              refine AllReadyIn.cons rfl (fun K hK => ?_) ?_
              · go_simp
                refine hK _ _ ?_
                clear hK K
                refine wpAnyIn_ready (rs := [4]) (by kernel_rfl) (by simp) ?_
                refine AllReadyIn.cons rfl (fun K hK => ?_) ?_
                · go_simp
                  refine hK _ _ ?_
                  clear hK K
                  refine wpAnyIn_done (by kernel_rfl) ?_ _
                  gi_wp2
                  exact HFin.out
                exact AllReadyIn.nil
              exact AllReadyIn.nil
            exact AllReadyIn.nil
          refine AllReadyIn.cons rfl (fun K hK => ?_) ?_
          · go_simp
            refine hK _ _ ?_
            clear hK K
            refine wpAnyIn_ready (rs := [0]) (by kernel_rfl) (by simp) ?_
            refine AllReadyIn.cons rfl (fun K hK => ?_) ?_
            · go_simp
              refine hK _ _ ?_
              clear hK K
              refine wpAnyIn_ready (rs := [3]) (by kernel_rfl) (by simp) ?_
              refine AllReadyIn.cons rfl (fun K hK => ?_) ?_
              · go_simp
                refine hK _ _ ?_
                clear hK K
                refine wpAnyIn_ready (rs := [4]) (by kernel_rfl) (by simp) ?_
                refine AllReadyIn.cons rfl (fun K hK => ?_) ?_
                · go_simp
                  refine hK _ _ ?_
                  clear hK K
                  refine wpAnyIn_done (by kernel_rfl) ?_ _
                  gi_wp2
                  exact HFin.out
                exact AllReadyIn.nil
              exact AllReadyIn.nil
            exact AllReadyIn.nil
          exact AllReadyIn.nil
        refine AllReadyIn.cons rfl (fun K hK => ?_) ?_
        · go_simp
          refine hK _ _ ?_
          clear hK K
          refine wpAnyIn_ready (rs := [0, 1]) (by kernel_rfl) (by simp) ?_
          refine AllReadyIn.cons rfl (fun K hK => ?_) ?_
          · go_simp
            refine hK _ _ ?_
            clear hK K
            refine wpAnyIn_ready (rs := [1, 3]) (by kernel_rfl) (by simp) ?_
            refine AllReadyIn.cons rfl (fun K hK => ?_) ?_
            · go_simp
              refine hK _ _ ?_
              clear hK K
              refine wpAnyIn_ready (rs := [3]) (by kernel_rfl) (by simp) ?_
              refine AllReadyIn.cons rfl (fun K hK => ?_) ?_
              · go_simp
                refine hK _ _ ?_
                clear hK K
                refine wpAnyIn_ready (rs := [4]) (by kernel_rfl) (by simp) ?_
                refine AllReadyIn.cons rfl (fun K hK => ?_) ?_
                · go_simp
                  refine hK _ _ ?_
                  clear hK K
                  refine wpAnyIn_done (by kernel_rfl) ?_ _
                  gi_wp2
                  exact HFin.out
                exact AllReadyIn.nil
              exact AllReadyIn.nil
            refine AllReadyIn.cons rfl (fun K hK => ?_) ?_
            · go_simp
              refine hK _ _ ?_
              clear hK K
              refine wpAnyIn_ready (rs := [1]) (by kernel_rfl) (by simp) ?_
              refine AllReadyIn.cons rfl (fun K hK => ?_) ?_
              · go_simp
                refine hK _ _ ?_
                clear hK K
                refine wpAnyIn_ready (rs := [4]) (by kernel_rfl) (by simp) ?_
                refine AllReadyIn.cons rfl (fun K hK => ?_) ?_
                · go_simp
                  refine hK _ _ ?_
                  clear hK K
                  refine wpAnyIn_done (by kernel_rfl) ?_ _
                  gi_wp2
                  exact HFin.out
                exact AllReadyIn.nil
              exact AllReadyIn.nil
            exact AllReadyIn.nil
          refine AllReadyIn.cons rfl (fun K hK => ?_) ?_
          · go_simp
            refine hK _ _ ?_
            clear hK K
            refine wpAnyIn_ready (rs := [0]) (by kernel_rfl) (by simp) ?_
            refine AllReadyIn.cons rfl (fun K hK => ?_) ?_
            · go_simp
              refine hK _ _ ?_
              clear hK K
              refine wpAnyIn_ready (rs := [3]) (by kernel_rfl) (by simp) ?_
              refine AllReadyIn.cons rfl (fun K hK => ?_) ?_
              · go_simp
                refine hK _ _ ?_
                clear hK K
                refine wpAnyIn_ready (rs := [4]) (by kernel_rfl) (by simp) ?_
                refine AllReadyIn.cons rfl (fun K hK => ?_) ?_
                · go_simp
                  refine hK _ _ ?_
                  clear hK K
                  refine wpAnyIn_done (by kernel_rfl) ?_ _
                  gi_wp2
                  exact HFin.out
                exact AllReadyIn.nil
              exact AllReadyIn.nil
            exact AllReadyIn.nil
          exact AllReadyIn.nil
        exact AllReadyIn.nil
      | some q =>
        have r3 := kr.alloc (.cells #[.int .i64 q.k, .int .i64 q.sd, .int .i64 q.n, .int .i64 q.c, .int .i64 q.f, .int .u64 q.s, .int .u64 q.t, .string q.d] 26)
        have b0 := k0.alloc (.cells #[.int .i64 q.k, .int .i64 q.sd, .int .i64 q.n, .int .i64 q.c, .int .i64 q.f, .int .u64 q.s, .int .u64 q.t, .string q.d] 26)
        have b1 := k1.alloc (.cells #[.int .i64 q.k, .int .i64 q.sd, .int .i64 q.n, .int .i64 q.c, .int .i64 q.f, .int .u64 q.s, .int .u64 q.t, .string q.d] 26)
        have b2 := k2.alloc (.cells #[.int .i64 q.k, .int .i64 q.sd, .int .i64 q.n, .int .i64 q.c, .int .i64 q.f, .int .u64 q.s, .int .u64 q.t, .string q.d] 26)
        have bl := kl.alloc (.cells #[.int .i64 q.k, .int .i64 q.sd, .int .i64 q.n, .int .i64 q.c, .int .i64 q.f, .int .u64 q.s, .int .u64 q.t, .string q.d] 26)
        have hB3 := kB.alloc kB.size (.cells #[.int .i64 q.k, .int .i64 q.sd, .int .i64 q.n, .int .i64 q.c, .int .i64 q.f, .int .u64 q.s, .int .u64 q.t, .string q.d] 26)
        have hO3 := kO.trans (KeepsOthers.alloc W2 (.cells #[.int .i64 q.k, .int .i64 q.sd, .int .i64 q.n, .int .i64 q.c, .int .i64 q.f, .int .u64 q.s, .int .u64 q.t, .string q.d] 26))
        have hQ := heap_alloc_new W2 (.cells #[.int .i64 q.k, .int .i64 q.sd, .int .i64 q.n, .int .i64 q.c, .int .i64 q.f, .int .u64 q.s, .int .u64 q.t, .string q.d] 26)
        have hcn : ∀ j u, (q.cells.toList)[j]? = some u → ((W2.alloc (.cells #[.int .i64 q.k, .int .i64 q.sd, .int .i64 q.n, .int .i64 q.c, .int .i64 q.f, .int .u64 q.s, .int .u64 q.t, .string q.d] 26)).alloc (.cells q.cells 26)).cell? ((⟨W2.heap.size + 1, 0, none⟩ : Addr).add j) = some u := by
          have := cells8_new (W2.alloc (.cells #[.int .i64 q.k, .int .i64 q.sd, .int .i64 q.n, .int .i64 q.c, .int .i64 q.f, .int .u64 q.s, .int .u64 q.t, .string q.d] 26)) q 26
          rwa [World.size_alloc] at this
        obtain ⟨V, hV⟩ : ∃ V : World, V = W2.alloc (.cells #[.int .i64 q.k, .int .i64 q.sd, .int .i64 q.n, .int .i64 q.c, .int .i64 q.f, .int .u64 q.s, .int .u64 q.t, .string q.d] 26) := ⟨_, rfl⟩
        have hVs : V.heap.size = W2.heap.size + 1 := by rw [hV]; simp
        rw [← hV] at r3 b0 b1 b2 bl hB3 hO3 hQ hcn
        obtain ⟨x0, x1, x2, x3, x4, x5, x6, x7⟩ : _ ∧ _ ∧ _ ∧ _ ∧ _ ∧ _ ∧ _ ∧ _ := ⟨cell_of_row V _ 0 _ _ (0, 0) hQ, cell_of_row V _ 1 _ _ (0, 0) hQ, cell_of_row V _ 2 _ _ (0, 0) hQ, cell_of_row V _ 3 _ _ (0, 0) hQ, cell_of_row V _ 4 _ _ (0, 0) hQ, cell_of_row V _ 5 _ _ (0, 0) hQ, cell_of_row V _ 6 _ _ (0, 0) hQ, cell_of_row V _ 7 _ _ (0, 0) hQ⟩
        simp at x0 x1 x2 x3 x4 x5 x6 x7
        have v0 := b0.cell
        have hx6 : xs.length ≤ 1000000 := by have := HF.out.2.1; omega
        have hBs := hB3.size
        have HP := Lib.hid hp
        clear k0 k1 k2 kl kr kB kO hp hQ
        have HKk := Lib.hid (And.intro b1 (And.intro b2 (And.intro bl (And.intro hB3 hO3))))
        clear b1 b2 bl hO3
        subst hV
        dsimp only [St.cells]
        gi_wp2_with (gi_at_builtin; refine wpListIn_append_own _ rfl _ _ 28 rfl w.heap.size 26 i0 _ 8 72 Tryz.underlying28 hi hz0 hz1 hz2 rfl (by decide) _ _ _ rfl (r3.alloc _) ⟨W2.heap.size + 1, 0, none⟩ 1 1 q.cells.toList rfl rfl hcn (cells8_all q) (by unfold maxLen; omega) (by omega) (by simp; omega) ?_; intro v' w1' hown' hgrow _; obtain ⟨g', cap', rfl⟩ := ownsRow_succ hown'; obtain ⟨hv1, hv2, hr2, hk2, hb2'⟩ := b0.appended (by decide) r3 hB3.size (by omega) hown' hgrow; have hc1 := hv1.cell; have hf1 := hv1.frozen)
        have hlen : (pre ++ [x]).length = pre.length + 1 := by simp
        have keep : ∀ {B t u}, Boxed (W2.alloc (.cells q.cells 26)) B t u → B ≠ w.heap.size → t ≠ 26 → Boxed (w1'.setCell ⟨w.heap.size, 0, none⟩ (.slice (some ⟨g', 0, none⟩) (xs.length + 1) cap')) B t u := fun hu hne ht => Boxed.other ((hu.alloc _).kept hgrow (hu.not_row ht r3)) hne _
        refine ⟨HKk.out.2.2.2.2.trans hk2, ⟨⟨xs ++ [q], _, ⟨?_, ?_⟩, hv2, ?_⟩, ?_, keep HKk.out.2.1 (by omega) (by decide), ⟨_, keep HKk.out.2.2.1 (by omega) (by decide)⟩, HKk.out.2.2.2.1.trans hb2', hlo⟩, keep HKk.out.2.2.1 (by omega) (by decide)⟩
        · rw [hlen, HF.out.1, HF.out.2.2.1, glueP_ok _ _ _ _ _ HP.out, HF.out.2.2.2]
        · simp [HF.out.2.1]
        · rw [sts_snoc, List.length_append, List.length_singleton]
          exact hr2
        · rw [hlen]
          exact keep HKk.out.1 (by omega) (by decide)
    case done =>
      rintro D ws r W hD hS ⟨hC, hbl⟩ hK
      obtain ⟨⟨ys, v, ⟨hG, hxl⟩, h0, hr⟩, h1, h2, ⟨u, hu⟩, hB, hlo⟩ := hC
      obtain ⟨Av, cv, rfl⟩ := own_form8 hr
      have c0 := h0.cell
      have f0 := h0.frozen
      have f1 := (h1.other (B' := w.heap.size) (by omega) (.slice Av ys.length cv)).frozen
      have f2 := ((h2.other (B' := w.heap.size) (by omega) (.slice Av ys.length cv)).other (B' := w.heap.size + 1) (by omega) (.int .i64 0)).frozen
      have g1 := (h1.other (B' := w.heap.size) (by omega) (.slice Av ys.length cv)).cell
      have g2 := ((h2.other (B' := w.heap.size) (by omega) (.slice Av ys.length cv)).other (B' := w.heap.size + 1) (by omega) (.int .i64 0)).cell
      have l1 := h1.frozen
      have l2 := h2.frozen
      have m1 := h1.cell
      have m2 := h2.cell
      have HZ := Lib.hid (And.intro h0 (And.intro hr (And.intro h1 (And.intro h2 (And.intro hB (And.intro hG hxl))))))
      have hE' : eachP 0 L = (ys, 0, 0) := by
        rw [hG, List.drop_of_length_le (by rw [HL.out, ← hS]; simp [bsL])]; exact glueP_end ys _
      have HE' := Lib.hid hE'
      have s0 := ((h0.set (.slice Av ys.length cv)).other (B' := w.heap.size + 1) (by omega) (.int .i64 0)).other (B' := w.heap.size + 1 + 1) (by omega) (.int .i64 0)
      have s1 := ((h1.other (B' := w.heap.size) (by omega) (.slice Av ys.length cv)).set (.int .i64 0)).other (B' := w.heap.size + 1 + 1) (by omega) (.int .i64 0)
      have s2 := ((h2.other (B' := w.heap.size) (by omega) (.slice Av ys.length cv)).other (B' := w.heap.size + 1) (by omega) (.int .i64 0)).set (.int .i64 0)
      have ra := hr.kept (grownBy_setCell' W w.heap.size (.slice Av ys.length cv)) (.inr (h0.not_row (by decide) hr).symm)
      have rb := ra.kept (grownBy_setCell' _ (w.heap.size + 1) (.int .i64 0)) (.inr ((h1.other (B' := w.heap.size) (by omega) (.slice Av ys.length cv)).not_row (by decide) ra).symm)
      have rc := rb.kept (grownBy_setCell' _ (w.heap.size + 1 + 1) (.int .i64 0)) (.inr (((h2.other (B' := w.heap.size) (by omega) (.slice Av ys.length cv)).other (B' := w.heap.size + 1) (by omega) (.int .i64 0)).not_row (by decide) rb).symm)
      have sB := ((hB.setCell (p := ⟨w.heap.size, 0, none⟩) (by show w.heap.size ≤ w.heap.size; omega) (.slice Av ys.length cv)).setCell (p := ⟨w.heap.size + 1, 0, none⟩) (by show w.heap.size ≤ w.heap.size + 1; omega) (.int .i64 0)).setCell (p := ⟨w.heap.size + 1 + 1, 0, none⟩) (by show w.heap.size ≤ w.heap.size + 1 + 1; omega) (.int .i64 0)
      have hK' := (((KeepsOthers.setCell W ⟨w.heap.size, 0, none⟩ (.slice Av ys.length cv)).trans (KeepsOthers.setCell _ ⟨w.heap.size + 1, 0, none⟩ (.int .i64 0))).trans (KeepsOthers.setCell _ ⟨w.heap.size + 1 + 1, 0, none⟩ (.int .i64 0))).same D _ hK rfl
      clear hxl hG hS hE'
      gi_wp2
      refine ⟨by simp, .inl ⟨_, _, rfl, run_takeDeferred hK', ?_⟩⟩
      refine ⟨_, res_read _ _ w.heap.size Av ys.length cv 0 0 rfl rfl rfl (boxed_putO s0 ⟨_, hK', rfl⟩) (boxed_putO s1 ⟨_, hK', rfl⟩) (boxed_putO s2 ⟨_, hK', rfl⟩), ⟨_, by rw [HE'.out]; rfl, by rw [HE'.out]; exact ownsRow_putObj rc _ hK' rfl⟩, sB.trans ((Below.refl _ _).grown (grownBy_putObj' _ D _) sB.size (fun j e => by cases e; omega))⟩
    case stop =>
      rintro D ws r W hD hX hK
      gi_wp2
      refine ⟨by simp, .inl ⟨_, _, rfl, run_takeDeferred hK, ?_⟩⟩
      refine ⟨_, res_read _ _ w.heap.size none 0 0 (ws.length : Int) 3 rfl rfl rfl (boxed_putO hX.b0 ⟨_, hK, rfl⟩) (boxed_putO hX.b1 ⟨_, hK, rfl⟩) (boxed_putO hX.b2 ⟨_, hK, rfl⟩), ⟨_, by rw [hX.r], by rw [hX.r]; exact World.ownsRow_nil _ _ _ _⟩, hX.b.trans ((Below.refl _ _).grown (grownBy_putObj' _ D _) hX.b.size (fun j e => by cases e; omega))⟩
  · obtain ⟨c, hl, hx, hy⟩ := ext_last s (by omega)
    have hc10 : c = 10 := by
      rcases hf with h | h
      · exact absurd h h0
      · rw [hl] at h; exact Option.some.inj h
    subst hc10
    have hE1 : s.toList.isEmpty = false := by
      rw [ByteArray.toList_eq]
      cases e : s.data.toList with
      | nil => rw [e] at hl; simp at hl
      | cons a b => rfl
    have hE2 : ¬ s.toList = [] := by intro e; rw [e] at hE1; cases hE1
    have HE1 := Lib.hid (And.intro hE1 hE2)
    gi_wp2_with fail
    refine ⟨trivial, (callsIn_wide.2 (suf_any s (by omega) (by omega) 10 hx _)).mono ?_⟩
    rintro _ w1 ⟨rfl, hb1⟩
    have HB1 := Lib.hid hb1
    clear hb1 hx hl hy
    gi_wp2_with fail
    refine ⟨trivial, (callsIn_wide.2 (mklines_any s _)).mono ?_⟩
    rintro _ w2 ⟨rfl, hw2⟩
    have HW2 := Lib.hid hw2
    clear hw2
    gi_wp2_with fail
    have hB1 : w1.heap.size ≥ w.heap.size + 3 := by have := HB1.out.size; simp at this; omega
    have hC0 : RC L w w1.heap.size [] w2 := by
      have hbB : Below w.heap.size w ((((w.alloc (.cells #[.slice none 0 0] 28)).alloc (.cells #[.int .i64 0] 3)).alloc (.cells #[.int .i64 0] 30))) := (((Below.refl _ w).alloc (Nat.le_refl _) _).alloc (by simp) _).alloc (by simp; omega) _
      have q0 := ((Boxed.new w 28 (.slice none 0 0)).alloc (.cells #[.int .i64 0] 3)).alloc (.cells #[.int .i64 0] 30)
      have q1 := (Boxed.new (w.alloc (.cells #[.slice none 0 0] 28)) 3 (.int .i64 0)).alloc (.cells #[.int .i64 0] 30)
      have q2 := Boxed.new ((w.alloc (.cells #[.slice none 0 0] 28)).alloc (.cells #[.int .i64 0] 3)) 30 (.int .i64 0)
      simp only [World.size_alloc] at q1 q2
      have bl := Boxed.new w1 9 (.string s)
      rw [← HW2.out] at bl
      have hb2 : Below w1.heap.size w1 w2 := by rw [HW2.out]; exact (Below.refl _ _).alloc (Nat.le_refl _) _
      have g : ∀ {B t v}, Boxed (((w.alloc (.cells #[.slice none 0 0] 28)).alloc (.cells #[.int .i64 0] 3)).alloc (.cells #[.int .i64 0] 30)) B t v → Boxed w2 B t v := fun h => boxed_below (boxed_below h HB1.out) hb2
      exact ⟨⟨[], .slice none 0 0, ⟨(glueP_nil 0 _).symm, rfl⟩, g q0, World.ownsRow_nil _ _ _ _⟩, g q1, g q2, ⟨_, bl⟩, (hbB.trans (HB1.out.mono hbB.size)).trans (hb2.mono (by have := HB1.out.size; have := hbB.size; omega)), hB1⟩
    have bl0 : Boxed w2 w1.heap.size 9 (.string s) := by rw [HW2.out]; exact Boxed.new w1 9 (.string s)
    have HT := Lib.hid ht
    have HEe := Lib.hid hE
    have hw2s : w.heap.size ≤ w2.heap.size := hC0.b.size
    generalize w1.heap.size = Bl at hC0 bl0 hB1 ⊢
    clear HW2 HB1 hB1 ht hE
    refine range_x rfl (by decide) (gf := 89) (lb := #[.pointer (some ⟨Bl, 0, none⟩)]) rfl trivial (enters_of Tryz.func89 (by kernel_rfl) rfl) (encs := fun x : ByteArray => #[.string x]) (fun _ => rfl)
      (fun r pre W => RC L w Bl pre W ∧ Boxed W Bl 9 (.string r)) (fun (_ : ByteArray) pre W => RX L w pre.length W) (Nx s) s
      (lines_iter 5 (by decide) Bl s hs (fun pre W => RC L w Bl pre W) (fun pre W => RX L w pre.length W) (fun _ _ _ h hb => h.below hb) (fun _ _ z h => h.set z) w2)
      (fun r pre W k o' h hk ho => ⟨h.1.put (by omega) ho, boxed_putO h.2 ho⟩) (fun r pre W k o' h hk ho => h.put (by omega) ho)
      (fun o o' => ⟨hC0.below (((Below.refl _ w2).alloc (Nat.le_refl _) _).alloc (by simp) _), (bl0.alloc _).alloc _⟩)
      (fun x => { tmps := #[.string s, undef, .pointer (some ⟨w.heap.size, 0, none⟩), .pointer (some ⟨w.heap.size + 1, 0, none⟩), .pointer (some ⟨w.heap.size + 1 + 1, 0, none⟩), .string x, undef, undef, .string s, .int .i64 (m : Int), .bool (decide ((1024 : Int) < (m : Int))), .string s, .bool true, .bool true, .string s, .bool true, .bool false, .bool false, .string s, .func (.func 89) #[] #[.pointer (some ⟨Bl, 0, none⟩)], .string x, undef, undef, undef, undef, undef, undef, undef, undef, undef, undef, undef, undef, undef, undef, undef, undef], defers := [] }) ?assign ?body ?done ?stop
    case assign =>
      intro l x W K hK
      gi_wp2
      exact hK
    case body =>
      rintro l pre x r W ⟨hC, hbl⟩ hnx
      obtain ⟨⟨xs, v, ⟨hG, hxl⟩, h0, hr⟩, h1, h2, ⟨u, hu⟩, hB, hlo⟩ := hC
      obtain ⟨hxs, rest, hrest⟩ := hnx
      have hdrop : L.drop pre.length = x.data.toList :: rest := by
        rw [HL.out, ← hrest, List.drop_append_of_le_length (by simp [bsL]), List.drop_of_length_le (by simp [bsL])]; rfl
      have hkL : pre.length < L.length := by
        have := congrArg List.length hdrop
        rw [List.length_drop, List.length_cons] at this; omega
      have hdrop1 : L.drop (pre.length + 1) = rest := by
        rw [← List.drop_drop, hdrop]; rfl
      have hx2 : x.size ≤ 2000 := by
        have := HLn.out.1 x.data.toList (by rw [HL.out, ← hrest]; simp)
        rw [Array.length_toList] at this; exact this
      have hk6 : pre.length ≤ 1000000 := by have := HLn.out.2; omega
      have hki : (pre.length : Int) ≤ 1000000 := by omega
      have hk0 : (0 : Int) ≤ (pre.length : Int) := by omega
      have c1 := h1.cell
      have f1 := h1.frozen
      have hB1 : Below w.heap.size w (W.setCell ⟨w.heap.size + 1, 0, none⟩ (.int .i64 ((pre.length : Int) + 1))) := hB.setCell (p := ⟨w.heap.size + 1, 0, none⟩) (by show w.heap.size ≤ w.heap.size + 1; omega) _
      have HPp := Lib.hid (parse_any x hx2 _ (tabB HT.out hB1) (HEe.out.below hB1))
      have HF := Lib.hid (And.intro hG (And.intro hxl (And.intro hdrop hdrop1)))
      have HW := Lib.hid (And.intro h0 (And.intro hr (And.intro h1 (And.intro h2 (And.intro hu (And.intro hbl hB))))))
      clear hG hxl hdrop hdrop1 h0 hr h1 h2 hu hbl hrest hxs hB1 hx2 hkL
      gi_wp2_with fail
      refine ⟨trivial, (CallsIn.inRound l (callsIn_wide.2 HPp.out)).mono ?_⟩
      rintro _ W2 ⟨rfl, hb2⟩
      unfold pE
      have HB2 := Lib.hid hb2
      have k1 := boxed_below (HW.out.2.2.1.set (.int .i64 ((pre.length : Int) + 1))) hb2
      have k0 := boxed_below (HW.out.1.other (B' := w.heap.size + 1) (by omega) (.int .i64 ((pre.length : Int) + 1))) hb2
      have k2 := boxed_below (HW.out.2.2.2.1.other (B' := w.heap.size + 1) (by omega) (.int .i64 ((pre.length : Int) + 1))) hb2
      have kl := boxed_below (HW.out.2.2.2.2.2.1.other (B' := w.heap.size + 1) (by omega) (.int .i64 ((pre.length : Int) + 1))) hb2
      have kr := own_below (HW.out.2.1.kept (grownBy_setCell' W (w.heap.size + 1) (.int .i64 ((pre.length : Int) + 1))) (.inr (HW.out.2.2.1.not_row (by decide) HW.out.2.1).symm)) hb2
      have kB := (HW.out.2.2.2.2.2.2.setCell (p := ⟨w.heap.size + 1, 0, none⟩) (by show w.heap.size ≤ w.heap.size + 1; omega) (.int .i64 ((pre.length : Int) + 1))).trans (hb2.mono (by simpa using HW.out.2.2.2.2.2.2.size))
      have kO : KeepsOthers W W2 := (KeepsOthers.setCell _ _ _).trans (keeps_below hb2)
      clear hb2 c1 f1 HPp HW
      cases hp : parseL x.data.toList with
      | none =>
        obtain ⟨V, hV⟩ : ∃ V : World, V = (W2.alloc (.cells #[.int .i64 0, .int .i64 0, .int .i64 0, .int .i64 0, .int .i64 0, .int .u64 0, .int .u64 0, .string ⟨#[]⟩] 26)).drew := ⟨_, rfl⟩
        have v0 : Boxed V w.heap.size 28 v := by rw [hV]; exact k0.alloc (.cells #[.int .i64 0, .int .i64 0, .int .i64 0, .int .i64 0, .int .i64 0, .int .u64 0, .int .u64 0, .string ⟨#[]⟩] 26)
        have v1 : Boxed V (w.heap.size + 1) 3 (.int .i64 ((pre.length : Int) + 1)) := by rw [hV]; exact k1.alloc (.cells #[.int .i64 0, .int .i64 0, .int .i64 0, .int .i64 0, .int .i64 0, .int .u64 0, .int .u64 0, .string ⟨#[]⟩] 26)
        have v2 : Boxed V (w.heap.size + 1 + 1) 30 (.int .i64 0) := by rw [hV]; exact k2.alloc (.cells #[.int .i64 0, .int .i64 0, .int .i64 0, .int .i64 0, .int .i64 0, .int .u64 0, .int .u64 0, .string ⟨#[]⟩] 26)
        have vB : Below w.heap.size w V := by rw [hV]; exact (kB.alloc kB.size (.cells #[.int .i64 0, .int .i64 0, .int .i64 0, .int .i64 0, .int .i64 0, .int .u64 0, .int .u64 0, .string ⟨#[]⟩] 26)).drew
        have vO : KeepsOthers W V := by rw [hV]; exact (kO.trans (KeepsOthers.alloc _ (.cells #[.int .i64 0, .int .i64 0, .int .i64 0, .int .i64 0, .int .i64 0, .int .u64 0, .int .u64 0, .string ⟨#[]⟩] 26))).trans (KeepsOthers.drew _)
        have u0 := v0.set (.slice none 0 0)
        have u1 := v1.other (B' := w.heap.size) (by omega) (.slice none 0 0)
        have u2 := v2.other (B' := w.heap.size) (by omega) (.slice none 0 0)
        have t0 := u0.other (B' := w.heap.size + 1) (by omega) (.int .i64 ((pre.length : Int) + 1))
        have t1 := u1.set (.int .i64 ((pre.length : Int) + 1))
        have t2 := u2.other (B' := w.heap.size + 1) (by omega) (.int .i64 ((pre.length : Int) + 1))
        have s0 := t0.other (B' := w.heap.size + 1 + 1) (by omega) (.int .i64 3)
        have s1 := t1.other (B' := w.heap.size + 1 + 1) (by omega) (.int .i64 3)
        have s2 := t2.set (.int .i64 3)
        have sB := ((vB.setCell (p := ⟨w.heap.size, 0, none⟩) (by show w.heap.size ≤ w.heap.size; omega) (.slice none 0 0)).setCell (p := ⟨w.heap.size + 1, 0, none⟩) (by show w.heap.size ≤ w.heap.size + 1; omega) (.int .i64 ((pre.length : Int) + 1))).setCell (p := ⟨w.heap.size + 1 + 1, 0, none⟩) (by show w.heap.size ≤ w.heap.size + 1 + 1; omega) (.int .i64 3)
        have sO := ((vO.trans (KeepsOthers.setCell V ⟨w.heap.size, 0, none⟩ (.slice none 0 0))).trans (KeepsOthers.setCell _ ⟨w.heap.size + 1, 0, none⟩ (.int .i64 ((pre.length : Int) + 1)))).trans (KeepsOthers.setCell _ ⟨w.heap.size + 1 + 1, 0, none⟩ (.int .i64 3))
        have hlen : (pre ++ [x]).length = pre.length + 1 := by simp
        have HFin : Hid (KeepsOthers W (((V.setCell ⟨w.heap.size, 0, none⟩ (.slice none 0 0)).setCell ⟨w.heap.size + 1, 0, none⟩ (.int .i64 ((pre.length : Int) + 1))).setCell ⟨w.heap.size + 1 + 1, 0, none⟩ (.int .i64 3)) ∧ RX L w (pre ++ [x]).length (((V.setCell ⟨w.heap.size, 0, none⟩ (.slice none 0 0)).setCell ⟨w.heap.size + 1, 0, none⟩ (.int .i64 ((pre.length : Int) + 1))).setCell ⟨w.heap.size + 1 + 1, 0, none⟩ (.int .i64 3))) :=
          Lib.hid ⟨sO, by rw [HF.out.1, HF.out.2.2.1, glueP_bad _ _ _ _ hp, hlen], s0, by rw [hlen]; exact s1, s2, sB⟩
        have d1 := v1.cell; have d1' := u1.cell
        have e0 := v0.frozen; have e1 := u1.frozen; have e2 := t2.frozen
        have f0 := u0.frozen
        have g0 := v0.cell; have g1 := u1.cell; have g2 := t2.cell
        clear v0 v1 v2 vB vO u0 u1 u2 t0 t1 t2 s0 s1 s2 sB sO k0 k1 k2 kl kr kB kO hp
        dsimp only [St0, St.cells]
        gi_wp2
        refine wpIn_region_any (by kernel_rfl) ?_
        change wpAnyIn _ _ _ _ _ _ _ _ _ (World.drew _)
        rw [← hV]
        clear hV
        refine wpAnyIn_ready (rs := [0, 1, 2]) (by kernel_rfl) (by simp) ?_
        refine AllReadyIn.cons rfl (fun K hK => ?_) ?_
        · go_simp
          refine hK _ _ ?_
          clear hK K
          refine wpAnyIn_ready (rs := [1, 2]) (by kernel_rfl) (by simp) ?_
          refine AllReadyIn.cons rfl (fun K hK => ?_) ?_
          · go_simp
            refine hK _ _ ?_
            clear hK K
            refine wpAnyIn_ready (rs := [2]) (by kernel_rfl) (by simp) ?_
            refine AllReadyIn.cons rfl (fun K hK => ?_) ?_
            · go_simp
              refine hK _ _ ?_
              clear hK K
              refine wpAnyIn_ready (rs := [3]) (by kernel_rfl) (by simp) ?_
              refine AllReadyIn.cons rfl (fun K hK => ?_) ?_
              · go_simp
                refine hK _ _ ?_
                clear hK K
                refine wpAnyIn_ready (rs := [4]) (by kernel_rfl) (by simp) ?_
                refine AllReadyIn.cons rfl (fun K hK => ?_) ?_
                · go_simp
                  refine hK _ _ ?_
                  clear hK K
                  refine wpAnyIn_done (by kernel_rfl) ?_ _
                  gi_wp2
                  exact HFin.out
                exact AllReadyIn.nil
              exact AllReadyIn.nil
            exact AllReadyIn.nil
          refine AllReadyIn.cons rfl (fun K hK => ?_) ?_
          · go_simp
            refine hK _ _ ?_
            clear hK K
            refine wpAnyIn_ready (rs := [1, 3]) (by kernel_rfl) (by simp) ?_
            refine AllReadyIn.cons rfl (fun K hK => ?_) ?_
            · go_simp
              refine hK _ _ ?_
              clear hK K
              refine wpAnyIn_ready (rs := [3]) (by kernel_rfl) (by simp) ?_
              refine AllReadyIn.cons rfl (fun K hK => ?_) ?_
              · go_simp
                refine hK _ _ ?_
                clear hK K
                refine wpAnyIn_ready (rs := [4]) (by kernel_rfl) (by simp) ?_
                refine AllReadyIn.cons rfl (fun K hK => ?_) ?_
                · go_simp
                  refine hK _ _ ?_
                  clear hK K
                  refine wpAnyIn_done (by kernel_rfl) ?_ _
                  gi_wp2
                  exact HFin.out
                exact AllReadyIn.nil
              exact AllReadyIn.nil
            refine AllReadyIn.cons rfl (fun K hK => ?_) ?_
            · go_simp
              refine hK _ _ ?_
              clear hK K
              refine wpAnyIn_ready (rs := [1]) (by kernel_rfl) (by simp) ?_
              refine AllReadyIn.cons rfl (fun K hK => ?_) ?_
              · go_simp
                refine hK _ _ ?_
                clear hK K
                refine wpAnyIn_ready (rs := [4]) (by kernel_rfl) (by simp) ?_
                refine AllReadyIn.cons rfl (fun K hK => ?_) ?_
                · go_simp
                  refine hK _ _ ?_
                  clear hK K
                  refine wpAnyIn_done (by kernel_rfl) ?_ _
                  gi_wp2
                  exact HFin.out
                exact AllReadyIn.nil
              exact AllReadyIn.nil
            exact AllReadyIn.nil
          exact AllReadyIn.nil
        refine AllReadyIn.cons rfl (fun K hK => ?_) ?_
        · go_simp
          refine hK _ _ ?_
          clear hK K
          refine wpAnyIn_ready (rs := [0, 2]) (by kernel_rfl) (by simp) ?_
          refine AllReadyIn.cons rfl (fun K hK => ?_) ?_
          · go_simp
            refine hK _ _ ?_
            clear hK K
            refine wpAnyIn_ready (rs := [2]) (by kernel_rfl) (by simp) ?_
            refine AllReadyIn.cons rfl (fun K hK => ?_) ?_
            · go_simp
              refine hK _ _ ?_
              clear hK K
              refine wpAnyIn_ready (rs := [3]) (by kernel_rfl) (by simp) ?_
              refine AllReadyIn.cons rfl (fun K hK => ?_) ?_
              · go_simp
                refine hK _ _ ?_
                clear hK K
                refine wpAnyIn_ready (rs := [4]) (by kernel_rfl) (by simp) ?_
                refine AllReadyIn.cons rfl (fun K hK => ?_) ?_
                · go_simp
                  refine hK _ _ ?_
                  clear hK K
                  refine wpAnyIn_done (by kernel_rfl) ?_ _
                  gi_wp2
                  exact HFin.out
                exact AllReadyIn.nil
              exact AllReadyIn.nil
            exact AllReadyIn.nil
          refine AllReadyIn.cons rfl (fun K hK => ?_) ?_
          · go_simp
            refine hK _ _ ?_
            clear hK K
            refine wpAnyIn_ready (rs := [0]) (by kernel_rfl) (by simp) ?_
            refine AllReadyIn.cons rfl (fun K hK => ?_) ?_
            · go_simp
              refine hK _ _ ?_
              clear hK K
              refine wpAnyIn_ready (rs := [3]) (by kernel_rfl) (by simp) ?_
              refine AllReadyIn.cons rfl (fun K hK => ?_) ?_
              · go_simp
                refine hK _ _ ?_
                clear hK K
                refine wpAnyIn_ready (rs := [4]) (by kernel_rfl) (by simp) ?_
                refine AllReadyIn.cons rfl (fun K hK => ?_) ?_
                · go_simp
                  refine hK _ _ ?_
                  clear hK K
                  refine wpAnyIn_done (by kernel_rfl) ?_ _
                  gi_wp2
                  exact HFin.out
                exact AllReadyIn.nil
              exact AllReadyIn.nil
            exact AllReadyIn.nil
          exact AllReadyIn.nil
        refine AllReadyIn.cons rfl (fun K hK => ?_) ?_
        · go_simp
          refine hK _ _ ?_
          clear hK K
          refine wpAnyIn_ready (rs := [0, 1]) (by kernel_rfl) (by simp) ?_
          refine AllReadyIn.cons rfl (fun K hK => ?_) ?_
          · go_simp
            refine hK _ _ ?_
            clear hK K
            refine wpAnyIn_ready (rs := [1, 3]) (by kernel_rfl) (by simp) ?_
            refine AllReadyIn.cons rfl (fun K hK => ?_) ?_
            · go_simp
              refine hK _ _ ?_
              clear hK K
              refine wpAnyIn_ready (rs := [3]) (by kernel_rfl) (by simp) ?_
              refine AllReadyIn.cons rfl (fun K hK => ?_) ?_
              · go_simp
                refine hK _ _ ?_
                clear hK K
                refine wpAnyIn_ready (rs := [4]) (by kernel_rfl) (by simp) ?_
                refine AllReadyIn.cons rfl (fun K hK => ?_) ?_
                · go_simp
                  refine hK _ _ ?_
                  clear hK K
                  refine wpAnyIn_done (by kernel_rfl) ?_ _
                  gi_wp2
                  exact HFin.out
                exact AllReadyIn.nil
              exact AllReadyIn.nil
            refine AllReadyIn.cons rfl (fun K hK => ?_) ?_
            · go_simp
              refine hK _ _ ?_
              clear hK K
              refine wpAnyIn_ready (rs := [1]) (by kernel_rfl) (by simp) ?_
              refine AllReadyIn.cons rfl (fun K hK => ?_) ?_
              · go_simp
                refine hK _ _ ?_
                clear hK K
                refine wpAnyIn_ready (rs := [4]) (by kernel_rfl) (by simp) ?_
                refine AllReadyIn.cons rfl (fun K hK => ?_) ?_
                · go_simp
                  refine hK _ _ ?_
                  clear hK K
                  refine wpAnyIn_done (by kernel_rfl) ?_ _
                  gi_wp2
                  exact HFin.out
                exact AllReadyIn.nil
              exact AllReadyIn.nil
            exact AllReadyIn.nil
          refine AllReadyIn.cons rfl (fun K hK => ?_) ?_
          · go_simp
            refine hK _ _ ?_
            clear hK K
            refine wpAnyIn_ready (rs := [0]) (by kernel_rfl) (by simp) ?_
            refine AllReadyIn.cons rfl (fun K hK => ?_) ?_
            · go_simp
              refine hK _ _ ?_
              clear hK K
              refine wpAnyIn_ready (rs := [3]) (by kernel_rfl) (by simp) ?_
              refine AllReadyIn.cons rfl (fun K hK => ?_) ?_
              · go_simp
                refine hK _ _ ?_
                clear hK K
                refine wpAnyIn_ready (rs := [4]) (by kernel_rfl) (by simp) ?_
                refine AllReadyIn.cons rfl (fun K hK => ?_) ?_
                · go_simp
                  refine hK _ _ ?_
                  clear hK K
                  refine wpAnyIn_done (by kernel_rfl) ?_ _
                  gi_wp2
                  exact HFin.out
                exact AllReadyIn.nil
              exact AllReadyIn.nil
            exact AllReadyIn.nil
          exact AllReadyIn.nil
        exact AllReadyIn.nil
      | some q =>
        have r3 := kr.alloc (.cells #[.int .i64 q.k, .int .i64 q.sd, .int .i64 q.n, .int .i64 q.c, .int .i64 q.f, .int .u64 q.s, .int .u64 q.t, .string q.d] 26)
        have b0 := k0.alloc (.cells #[.int .i64 q.k, .int .i64 q.sd, .int .i64 q.n, .int .i64 q.c, .int .i64 q.f, .int .u64 q.s, .int .u64 q.t, .string q.d] 26)
        have b1 := k1.alloc (.cells #[.int .i64 q.k, .int .i64 q.sd, .int .i64 q.n, .int .i64 q.c, .int .i64 q.f, .int .u64 q.s, .int .u64 q.t, .string q.d] 26)
        have b2 := k2.alloc (.cells #[.int .i64 q.k, .int .i64 q.sd, .int .i64 q.n, .int .i64 q.c, .int .i64 q.f, .int .u64 q.s, .int .u64 q.t, .string q.d] 26)
        have bl := kl.alloc (.cells #[.int .i64 q.k, .int .i64 q.sd, .int .i64 q.n, .int .i64 q.c, .int .i64 q.f, .int .u64 q.s, .int .u64 q.t, .string q.d] 26)
        have hB3 := kB.alloc kB.size (.cells #[.int .i64 q.k, .int .i64 q.sd, .int .i64 q.n, .int .i64 q.c, .int .i64 q.f, .int .u64 q.s, .int .u64 q.t, .string q.d] 26)
        have hO3 := kO.trans (KeepsOthers.alloc W2 (.cells #[.int .i64 q.k, .int .i64 q.sd, .int .i64 q.n, .int .i64 q.c, .int .i64 q.f, .int .u64 q.s, .int .u64 q.t, .string q.d] 26))
        have hQ := heap_alloc_new W2 (.cells #[.int .i64 q.k, .int .i64 q.sd, .int .i64 q.n, .int .i64 q.c, .int .i64 q.f, .int .u64 q.s, .int .u64 q.t, .string q.d] 26)
        have hcn : ∀ j u, (q.cells.toList)[j]? = some u → ((W2.alloc (.cells #[.int .i64 q.k, .int .i64 q.sd, .int .i64 q.n, .int .i64 q.c, .int .i64 q.f, .int .u64 q.s, .int .u64 q.t, .string q.d] 26)).alloc (.cells q.cells 26)).cell? ((⟨W2.heap.size + 1, 0, none⟩ : Addr).add j) = some u := by
          have := cells8_new (W2.alloc (.cells #[.int .i64 q.k, .int .i64 q.sd, .int .i64 q.n, .int .i64 q.c, .int .i64 q.f, .int .u64 q.s, .int .u64 q.t, .string q.d] 26)) q 26
          rwa [World.size_alloc] at this
        obtain ⟨V, hV⟩ : ∃ V : World, V = W2.alloc (.cells #[.int .i64 q.k, .int .i64 q.sd, .int .i64 q.n, .int .i64 q.c, .int .i64 q.f, .int .u64 q.s, .int .u64 q.t, .string q.d] 26) := ⟨_, rfl⟩
        have hVs : V.heap.size = W2.heap.size + 1 := by rw [hV]; simp
        rw [← hV] at r3 b0 b1 b2 bl hB3 hO3 hQ hcn
        obtain ⟨x0, x1, x2, x3, x4, x5, x6, x7⟩ : _ ∧ _ ∧ _ ∧ _ ∧ _ ∧ _ ∧ _ ∧ _ := ⟨cell_of_row V _ 0 _ _ (0, 0) hQ, cell_of_row V _ 1 _ _ (0, 0) hQ, cell_of_row V _ 2 _ _ (0, 0) hQ, cell_of_row V _ 3 _ _ (0, 0) hQ, cell_of_row V _ 4 _ _ (0, 0) hQ, cell_of_row V _ 5 _ _ (0, 0) hQ, cell_of_row V _ 6 _ _ (0, 0) hQ, cell_of_row V _ 7 _ _ (0, 0) hQ⟩
        simp at x0 x1 x2 x3 x4 x5 x6 x7
        have v0 := b0.cell
        have hx6 : xs.length ≤ 1000000 := by have := HF.out.2.1; omega
        have hBs := hB3.size
        have HP := Lib.hid hp
        clear k0 k1 k2 kl kr kB kO hp hQ
        have HKk := Lib.hid (And.intro b1 (And.intro b2 (And.intro bl (And.intro hB3 hO3))))
        clear b1 b2 bl hO3
        subst hV
        dsimp only [St.cells]
        gi_wp2_with (gi_at_builtin; refine wpListIn_append_own _ rfl _ _ 28 rfl w.heap.size 26 i0 _ 8 72 Tryz.underlying28 hi hz0 hz1 hz2 rfl (by decide) _ _ _ rfl (r3.alloc _) ⟨W2.heap.size + 1, 0, none⟩ 1 1 q.cells.toList rfl rfl hcn (cells8_all q) (by unfold maxLen; omega) (by omega) (by simp; omega) ?_; intro v' w1' hown' hgrow _; obtain ⟨g', cap', rfl⟩ := ownsRow_succ hown'; obtain ⟨hv1, hv2, hr2, hk2, hb2'⟩ := b0.appended (by decide) r3 hB3.size (by omega) hown' hgrow; have hc1 := hv1.cell; have hf1 := hv1.frozen)
        have hlen : (pre ++ [x]).length = pre.length + 1 := by simp
        have keep : ∀ {B t u}, Boxed (W2.alloc (.cells q.cells 26)) B t u → B ≠ w.heap.size → t ≠ 26 → Boxed (w1'.setCell ⟨w.heap.size, 0, none⟩ (.slice (some ⟨g', 0, none⟩) (xs.length + 1) cap')) B t u := fun hu hne ht => Boxed.other ((hu.alloc _).kept hgrow (hu.not_row ht r3)) hne _
        refine ⟨HKk.out.2.2.2.2.trans hk2, ⟨⟨xs ++ [q], _, ⟨?_, ?_⟩, hv2, ?_⟩, ?_, keep HKk.out.2.1 (by omega) (by decide), ⟨_, keep HKk.out.2.2.1 (by omega) (by decide)⟩, HKk.out.2.2.2.1.trans hb2', hlo⟩, keep HKk.out.2.2.1 (by omega) (by decide)⟩
        · rw [hlen, HF.out.1, HF.out.2.2.1, glueP_ok _ _ _ _ _ HP.out, HF.out.2.2.2]
        · simp [HF.out.2.1]
        · rw [sts_snoc, List.length_append, List.length_singleton]
          exact hr2
        · rw [hlen]
          exact keep HKk.out.1 (by omega) (by decide)
    case done =>
      rintro D ws r W hD hS ⟨hC, hbl⟩ hK
      obtain ⟨⟨ys, v, ⟨hG, hxl⟩, h0, hr⟩, h1, h2, ⟨u, hu⟩, hB, hlo⟩ := hC
      obtain ⟨Av, cv, rfl⟩ := own_form8 hr
      have c0 := h0.cell
      have f0 := h0.frozen
      have f1 := (h1.other (B' := w.heap.size) (by omega) (.slice Av ys.length cv)).frozen
      have f2 := ((h2.other (B' := w.heap.size) (by omega) (.slice Av ys.length cv)).other (B' := w.heap.size + 1) (by omega) (.int .i64 0)).frozen
      have g1 := (h1.other (B' := w.heap.size) (by omega) (.slice Av ys.length cv)).cell
      have g2 := ((h2.other (B' := w.heap.size) (by omega) (.slice Av ys.length cv)).other (B' := w.heap.size + 1) (by omega) (.int .i64 0)).cell
      have l1 := h1.frozen
      have l2 := h2.frozen
      have m1 := h1.cell
      have m2 := h2.cell
      have HZ := Lib.hid (And.intro h0 (And.intro hr (And.intro h1 (And.intro h2 (And.intro hB (And.intro hG hxl))))))
      have hE' : eachP 0 L = (ys, 0, 0) := by
        rw [hG, List.drop_of_length_le (by rw [HL.out, ← hS]; simp [bsL])]; exact glueP_end ys _
      have HE' := Lib.hid hE'
      have s0 := ((h0.set (.slice Av ys.length cv)).other (B' := w.heap.size + 1) (by omega) (.int .i64 0)).other (B' := w.heap.size + 1 + 1) (by omega) (.int .i64 0)
      have s1 := ((h1.other (B' := w.heap.size) (by omega) (.slice Av ys.length cv)).set (.int .i64 0)).other (B' := w.heap.size + 1 + 1) (by omega) (.int .i64 0)
      have s2 := ((h2.other (B' := w.heap.size) (by omega) (.slice Av ys.length cv)).other (B' := w.heap.size + 1) (by omega) (.int .i64 0)).set (.int .i64 0)
      have ra := hr.kept (grownBy_setCell' W w.heap.size (.slice Av ys.length cv)) (.inr (h0.not_row (by decide) hr).symm)
      have rb := ra.kept (grownBy_setCell' _ (w.heap.size + 1) (.int .i64 0)) (.inr ((h1.other (B' := w.heap.size) (by omega) (.slice Av ys.length cv)).not_row (by decide) ra).symm)
      have rc := rb.kept (grownBy_setCell' _ (w.heap.size + 1 + 1) (.int .i64 0)) (.inr (((h2.other (B' := w.heap.size) (by omega) (.slice Av ys.length cv)).other (B' := w.heap.size + 1) (by omega) (.int .i64 0)).not_row (by decide) rb).symm)
      have sB := ((hB.setCell (p := ⟨w.heap.size, 0, none⟩) (by show w.heap.size ≤ w.heap.size; omega) (.slice Av ys.length cv)).setCell (p := ⟨w.heap.size + 1, 0, none⟩) (by show w.heap.size ≤ w.heap.size + 1; omega) (.int .i64 0)).setCell (p := ⟨w.heap.size + 1 + 1, 0, none⟩) (by show w.heap.size ≤ w.heap.size + 1 + 1; omega) (.int .i64 0)
      have hK' := (((KeepsOthers.setCell W ⟨w.heap.size, 0, none⟩ (.slice Av ys.length cv)).trans (KeepsOthers.setCell _ ⟨w.heap.size + 1, 0, none⟩ (.int .i64 0))).trans (KeepsOthers.setCell _ ⟨w.heap.size + 1 + 1, 0, none⟩ (.int .i64 0))).same D _ hK rfl
      clear hxl hG hS hE'
      gi_wp2
      refine ⟨by simp, .inl ⟨_, _, rfl, run_takeDeferred hK', ?_⟩⟩
      refine ⟨_, res_read _ _ w.heap.size Av ys.length cv 0 0 rfl rfl rfl (boxed_putO s0 ⟨_, hK', rfl⟩) (boxed_putO s1 ⟨_, hK', rfl⟩) (boxed_putO s2 ⟨_, hK', rfl⟩), ⟨_, by rw [HE'.out]; rfl, by rw [HE'.out]; exact ownsRow_putObj rc _ hK' rfl⟩, sB.trans ((Below.refl _ _).grown (grownBy_putObj' _ D _) sB.size (fun j e => by cases e; omega))⟩
    case stop =>
      rintro D ws r W hD hX hK
      gi_wp2
      refine ⟨by simp, .inl ⟨_, _, rfl, run_takeDeferred hK, ?_⟩⟩
      refine ⟨_, res_read _ _ w.heap.size none 0 0 (ws.length : Int) 3 rfl rfl rfl (boxed_putO hX.b0 ⟨_, hK, rfl⟩) (boxed_putO hX.b1 ⟨_, hK, rfl⟩) (boxed_putO hX.b2 ⟨_, hK, rfl⟩), ⟨_, by rw [hX.r], by rw [hX.r]; exact World.ownsRow_nil _ _ _ _⟩, hX.b.trans ((Below.refl _ _).grown (grownBy_putObj' _ D _) hX.b.size (fun j e => by cases e; omega))⟩
end Go.Proofs.YtnjcenbmdcogpaaGreatDoor.Sp
/- step.Read: too many lines, or no line feed at the end; any text. -/
namespace Go.Proofs.YtnjcenbmdcogpaaGreatDoor.Sp
open Go Go.Lib Go.RowKit Go.Shelf
attribute [local go_sem] Oper.semAt_some
set_option linter.unusedSimpArgs false
set_option linter.unusedVariables false

theorem out3 (e : Int) (w : World) : (Boxed (((w.alloc (.cells #[.slice none 0 0] 28)).alloc (.cells #[.int .i64 0] 3)).alloc (.cells #[.int .i64 e] 30)) w.heap.size 28 (.slice none 0 0) ∧ Boxed (((w.alloc (.cells #[.slice none 0 0] 28)).alloc (.cells #[.int .i64 0] 3)).alloc (.cells #[.int .i64 e] 30)) (w.heap.size + 1) 3 (.int .i64 0) ∧ Boxed (((w.alloc (.cells #[.slice none 0 0] 28)).alloc (.cells #[.int .i64 0] 3)).alloc (.cells #[.int .i64 e] 30)) (w.heap.size + 1 + 1) 30 (.int .i64 e)) ∧ Below w.heap.size w (((w.alloc (.cells #[.slice none 0 0] 28)).alloc (.cells #[.int .i64 0] 3)).alloc (.cells #[.int .i64 e] 30)) := by
  have q0 := ((Boxed.new w 28 (.slice none 0 0)).alloc (.cells #[.int .i64 0] 3)).alloc (.cells #[.int .i64 e] 30)
  have q1 := (Boxed.new (w.alloc (.cells #[.slice none 0 0] 28)) 3 (.int .i64 0)).alloc (.cells #[.int .i64 e] 30)
  have q2 := Boxed.new ((w.alloc (.cells #[.slice none 0 0] 28)).alloc (.cells #[.int .i64 0] 3)) 30 (.int .i64 e)
  simp only [World.size_alloc] at q1 q2
  exact ⟨⟨q0, q1, q2⟩, (((Below.refl _ w).alloc (Nat.le_refl _) _).alloc (by simp) _).alloc (by simp; omega) _⟩
set_option maxRecDepth 100000 in
set_option maxHeartbeats 2000000 in
theorem read_full (s : ByteArray) (hs : s.size ≤ 1000000) (hc : 1024 < s.data.toList.count 10) (w : World) :
    Calls Tryz.prog 19 #[.string s] w fun e w' => e = .returned (.tuple #[.slice none 0 0, .int .i64 0, .int .i64 6]) ∧ Below w.heap.size w w' := by
  have HC := Lib.hid (fun W => cnt10 s W)
  have hcc : (1024 : Int) < ((s.data.toList.count 10 : Nat) : Int) := by omega
  generalize s.data.toList.count 10 = m at HC hcc
  clear hc
  refine (callsIn_wide (n := 6)).1 ?_
  refine callsIn_of_wp_marks Tryz.func19 rfl trivial ?_
  simp only [Tryz.ntmps19, List.size_toArray, List.length_cons, List.length_nil, Nat.reduceAdd, Nat.reduceSub, Array.replicate_succ, Array.replicate_zero, List.push_toArray, List.append_toArray, List.nil_append, List.cons_append]
  gi_wp2_with fail
  refine ⟨trivial, (callsIn_wide.2 (HC.out _)).mono ?_⟩
  rintro _ wq ⟨rfl, hq⟩
  obtain rfl := hq.symm
  clear hq
  gi_wp2
  have HO := out3 6 w
  first
  | exact ⟨_, res_read _ _ w.heap.size none 0 0 0 6 rfl rfl rfl HO.1.1 HO.1.2.1 HO.1.2.2, rfl, HO.2⟩
  | (refine ⟨by simp, ⟨_, res_read _ _ w.heap.size none 0 0 0 6 rfl rfl rfl HO.1.1 HO.1.2.1 HO.1.2.2, rfl, HO.2⟩⟩)
  | (refine ⟨by simp, .inr ⟨_, res_read _ _ w.heap.size none 0 0 0 6 rfl rfl rfl HO.1.1 HO.1.2.1 HO.1.2.2, rfl, HO.2⟩⟩)
set_option maxRecDepth 100000 in
set_option maxHeartbeats 2000000 in
theorem read_form (s : ByteArray) (hs : s.size ≤ 1000000) (hc : s.data.toList.count 10 ≤ 1024) (h0 : 0 < s.size) (hf : s.data.toList.getLast? ≠ some 10) (w : World) :
    Calls Tryz.prog 19 #[.string s] w fun e w' => e = .returned (.tuple #[.slice none 0 0, .int .i64 0, .int .i64 3]) ∧ Below w.heap.size w w' := by
  have HC := Lib.hid (fun W => cnt10 s W)
  have hcc : ¬ (1024 : Int) < ((s.data.toList.count 10 : Nat) : Int) := by omega
  generalize s.data.toList.count 10 = m at HC hcc hc
  clear hc
  obtain ⟨c, hl, hx, _⟩ := ext_last s h0
  have hc10 : (c == 10) = false := by
    rw [beq_eq_false_iff_ne]; intro e; subst e; exact hf hl
  have hE1 : s.toList.isEmpty = false := by
    rw [ByteArray.toList_eq]
    cases e : s.data.toList with
    | nil => rw [e] at hl; simp at hl
    | cons a b => rfl
  have hE2 : ¬ s.toList = [] := by intro e; rw [e] at hE1; cases hE1
  have HSf := Lib.hid (fun W => suf_any s h0 (by omega) c hx W)
  rw [hc10] at HSf
  clear hl hx hf hc10
  refine (callsIn_wide (n := 6)).1 ?_
  refine callsIn_of_wp_marks Tryz.func19 rfl trivial ?_
  simp only [Tryz.ntmps19, List.size_toArray, List.length_cons, List.length_nil, Nat.reduceAdd, Nat.reduceSub, Array.replicate_succ, Array.replicate_zero, List.push_toArray, List.append_toArray, List.nil_append, List.cons_append]
  gi_wp2_with fail
  refine ⟨trivial, (callsIn_wide.2 (HC.out _)).mono ?_⟩
  rintro _ wq ⟨rfl, hq⟩
  obtain rfl := hq.symm
  clear hq
  gi_wp2_with fail
  refine ⟨trivial, (callsIn_wide.2 (HSf.out _)).mono ?_⟩
  rintro _ w1 ⟨rfl, hb1⟩
  have HO := out3 0 w
  have b0 := boxed_below HO.1.1 hb1
  have b1 := boxed_below HO.1.2.1 hb1
  have b2 := boxed_below HO.1.2.2 hb1
  have hB := HO.2.trans (hb1.mono HO.2.size)
  have s0 := ((b0.set (.slice none 0 0)).other (B' := w.heap.size + 1) (by omega) (.int .i64 0)).other (B' := w.heap.size + 1 + 1) (by omega) (.int .i64 3)
  have s1 := ((b1.other (B' := w.heap.size) (by omega) (.slice none 0 0)).set (.int .i64 0)).other (B' := w.heap.size + 1 + 1) (by omega) (.int .i64 3)
  have s2 := ((b2.other (B' := w.heap.size) (by omega) (.slice none 0 0)).other (B' := w.heap.size + 1) (by omega) (.int .i64 0)).set (.int .i64 3)
  have sB := ((hB.setCell (p := ⟨w.heap.size, 0, none⟩) (by show w.heap.size ≤ w.heap.size; omega) (.slice none 0 0)).setCell (p := ⟨w.heap.size + 1, 0, none⟩) (by show w.heap.size ≤ w.heap.size + 1; omega) (.int .i64 0)).setCell (p := ⟨w.heap.size + 1 + 1, 0, none⟩) (by show w.heap.size ≤ w.heap.size + 1 + 1; omega) (.int .i64 3)
  have c0 := b0.cell; have c1 := b1.cell; have c2 := b2.cell
  have f0 := b0.frozen; have f1 := b1.frozen; have f2 := b2.frozen
  have d1 := (b1.other (B' := w.heap.size) (by omega) (.slice none 0 0)).cell
  have d2 := ((b2.other (B' := w.heap.size) (by omega) (.slice none 0 0)).other (B' := w.heap.size + 1) (by omega) (.int .i64 0)).cell
  have HZ := Lib.hid (And.intro s0 (And.intro s1 (And.intro s2 sB)))
  clear s0 s1 s2 sB b0 b1 b2 hB HO hb1
  gi_wp2
  exact ⟨_, res_read _ _ w.heap.size none 0 0 0 3 rfl rfl rfl HZ.out.1 HZ.out.2.1 HZ.out.2.2.1, rfl, HZ.out.2.2.2⟩
/-- WHICH SCRIPT ANY TEXT IS, by the program. -/
theorem sread_any (s : ByteArray) (hs : s.size ≤ 1000000) (hln : ∀ y ∈ lnA [] s.data.toList, y.length ≤ 2000) (w : World) (ht : Dec.Tab w) (hE : ErrsLie w) :
    Calls Tryz.prog 19 #[.string s] w fun e w' => (∃ v, e = .returned (.tuple #[v, .int .i64 ((readS s.data.toList).2.1 : Int), .int .i64 (readS s.data.toList).2.2]) ∧ w'.ownsRow w.heap.size 26 8 v (readS s.data.toList).1.length (sts (readS s.data.toList).1)) ∧ Below w.heap.size w w' := by
  unfold readS
  by_cases hc : 1024 < s.data.toList.count 10
  · rw [if_pos hc]
    refine (read_full s hs hc w).mono ?_
    rintro _ w' ⟨rfl, hb⟩
    exact ⟨⟨_, rfl, World.ownsRow_nil _ _ _ _⟩, hb⟩
  · rw [if_neg hc]
    by_cases hf : s.data.toList ≠ [] ∧ s.data.toList.getLast? ≠ some 10
    · rw [if_pos hf]
      have h0 : 0 < s.size := by
        show 0 < s.data.size
        rw [← Array.length_toList]
        exact List.length_pos_iff.2 hf.1
      refine (read_form s hs (by omega) h0 hf.2 w).mono ?_
      rintro _ w' ⟨rfl, hb⟩
      exact ⟨⟨_, rfl, World.ownsRow_nil _ _ _ _⟩, hb⟩
    · rw [if_neg hf]
      refine read_go s hs hln (by omega) ?_ w ht hE
      by_cases h : s.data.toList = []
      · left; show s.data.size = 0; rw [← Array.length_toList, h]; rfl
      · right
        exact Classical.byContradiction fun h2 => hf ⟨h, h2⟩
end Go.Proofs.YtnjcenbmdcogpaaGreatDoor.Sp
