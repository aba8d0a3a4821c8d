import Derived.Laws.IdiomRangeMap
import Derived.Below
import Derived.Test.YtdljphbfbiganaaGreatDoorStOPdq
import Derived.Test.YtdljphbfbiganaaGreatDoorLnBase
import Derived.RangeFuncNested
import Derived.RangeFuncBound
import Derived.RangeFuncCalls
import Derived.RangeFuncLeaves
import Derived.RangeFuncBox
import Derived.Maps.AppendAt
import Derived.Shelf.Abstract
import Derived.Shelf.RegionOpen
import Derived.OwnWalkIn
import Derived.TacticsInMore
import Derived.LoopNIn
import Derived.LoopIn
/- 'for k, v := range m', the iterator in whatever block: a step, and what it handed out. -/
namespace Go.Proofs.YtdljphbfbiganaaGreatDoor.Mi
open Go Go.RowKit
variable {P : Program}

/-- A step: nothing is left, or one that is left comes out, whichever. -/
theorem next_run (W : World) (ty : TypeId) (I bm since c0 : Nat) (seen : Array Nat) (es : Array MapEntry) (clock : Nat) (hI : W.heap[I]? = some (.mapIter (some bm) since seen c0)) (hb : W.heap[bm]? = some (.map es clock)) (hold : ∀ x ∈ es.toList, x.born < since) (hsc : since ≤ c0) :
    ((leftOf es seen).size = 0 ∧ (Instr.next (.pointer (some ⟨I, 0, none⟩)) false ty).run P W = .ok (.tuple #[.bool false]) W) ∨
    ∃ e ∈ (leftOf es seen).toList, ∃ W1 : World, (W1 = W ∨ W1 = W.drew) ∧ (Instr.next (.pointer (some ⟨I, 0, none⟩)) false ty).run P W = .ok (.tuple #[.bool true, e.key, e.val]) { W1 with heap := W1.heap.setIfInBounds I (.mapIter (some bm) since (seen.push e.born) clock) } := by
  simp only [Instr.next, getObj, Sem.run_bind, Sem.run, hI, hb, Result.andThen, next_test_false seen es since c0 hold hsc, Bool.false_eq_true, if_false]
  unfold leftOf
  have hmem : ∀ x ∈ (Array.filter (fun e => !seen.contains e.born) es).toList, x.born < since := fun x hx => hold x (by simp at hx ⊢; exact hx.1)
  generalize Array.filter (fun e => !seen.contains e.born) es = L at hmem ⊢
  have e1 : L.filter (fun x => decide (x.born < since)) = L := Array.filter_eq_self.2 (fun x hx => by simpa using hmem x (by simpa using hx))
  have e2 : L.filter (fun x => decide (x.born ≥ since)) = #[] := by
    rw [Array.filter_eq_empty_iff]
    intro x hx
    have := hmem x (by simpa using hx)
    simp
    omega
  simp only [e1, e2, Array.append_empty]
  by_cases h0 : L.size = 0
  · left
    have : L = #[] := Array.eq_empty_of_size_eq_zero h0
    subst this
    refine ⟨rfl, ?_⟩
    simp [choose, Sem.run, Question.forced]
  · right
    have hne : L.isEmpty = false := by simp [Array.isEmpty, h0]
    simp only [hne, Bool.false_eq_true, if_false, Array.empty_append, Array.size_map]
    have hch : ∃ (j : Nat) (W1 : World), j < L.size ∧ (W1 = W ∨ W1 = W.drew) ∧ (choose (Question.mapNext L.size)).run P W = .ok j W1 := by
      by_cases hf : L.size ≤ 1
      · exact ⟨0, W, by omega, Or.inl rfl, by simp [choose, Sem.run, Question.forced, hf]⟩
      · exact ⟨_, W.drew, Nat.mod_lt _ (by omega), Or.inr rfl, by
          simp only [choose, Sem.run, Question.forced, decide_eq_true_eq, hf, if_false, Question.cut]
          rfl⟩
    obtain ⟨j, W1, hj, hal, hrun⟩ := hch
    have hI1 : W1.heap[I]? = some (.mapIter (some bm) since seen c0) := by rcases hal with rfl | rfl <;> exact hI
    refine ⟨L[j], by simp, W1, hal, ?_⟩
    simp only [hrun, Array.getElem?_map, Array.getElem?_eq_getElem hj, Option.map_some, Sem.run_bind, setObj, Sem.run, hI1, Result.andThen]
    rfl
/-- The round's key and value, read behind the step. -/
theorem entry_run (W : World) (I bm since : Nat) (seen : Array Nat) (es : Array MapEntry) (clock : Nat) (e : MapEntry) (hI : W.heap[I]? = some (.mapIter (some bm) since (seen.push e.born) clock)) (hb : W.heap[bm]? = some (.map es clock)) (he : e ∈ es.toList) (hn : (es.toList.map (·.born)).Nodup) :
    (Instr.entry (.pointer (some ⟨I, 0, none⟩))).run P W = .ok (.tuple #[e.key, e.val]) W := by
  have hf : es.find? (·.born == e.born) = some e := by rw [← Array.find?_toList]; exact find_born e es.toList hn he
  simp only [Instr.entry, getObj, Sem.run_bind, Sem.run, hI, hb, Result.andThen, Array.back?_push, bne_self_eq_false, Bool.false_eq_true, if_false, hf]
  rfl
end Go.Proofs.YtdljphbfbiganaaGreatDoor.Mi
/- slices.Sort of a row of numbers, of one at least. -/
namespace Go.Proofs.YtdljphbfbiganaaGreatDoor.So
open Go Go.RowKit Go.Sort
set_option linter.unusedVariables false

set_option maxRecDepth 20000 in
theorem sort_any (g n cap : Nat) (hn : n < 4611686018427387904) (d : Array Int) (w0 w : World) (H0 : AtO g n w0 d w) :
    Calls Tryz.prog 54 #[.slice (some ⟨g, 0, none⟩) n cap] w fun e w' => e = .returned (.tuple #[]) ∧ ∃ d', PermIn 0 n d d' ∧ SortedIn ltInt 0 n d' ∧ AtO g n w0 d' w' := by
  have wr : IntKind.u64.wrap (n : Int) = n := by simp [IntKind.wrap, IntKind.bits, IntKind.signed]; omega
  have hlim : bitsLen n < 4611686018427387904 := Nat.lt_of_le_of_lt ((bitsLen_le_iff n 62).2 (by omega)) (by omega)
  have HL := Lib.hid (blen n hn)
  have HP := Lib.hid (pdq_all g n cap hn w0 (n + 1) 0 n (bitsLen n) d w (by omega) H0 (Nat.zero_le _) (Nat.le_refl _) hlim (Or.inl rfl))
  have hsort := pdq_sorts ltInt swo_ltInt d 0 d.size (bitsLen n) true true (Nat.zero_le _) (Nat.le_refl _) (Or.inl rfl)
  rw [H0.sz] at hsort
  have HSo := Lib.hid hsort
  clear H0 hsort
  go_enter Tryz.func54, Tryz.ntmps54
  go_wp2_with fail
  refine (HL.out _).mono ?_
  rintro _ _ ⟨rfl, rfl⟩
  go_wp2_with fail
  refine HP.out.mono ?_
  rintro _ w1 ⟨rfl, h1⟩
  have H1 := Lib.hid h1
  clear h1
  go_wp2
  refine bodyPost_end (results_none Tryz.results54 _ _ _) rfl ⟨rfl, _, HSo.out.1, HSo.out.2, H1.out⟩
def ucs (l : List Int) : List Value := l.map (Value.int .u64)
theorem take_cellS {V : World} {g n : Nat} {c : Array Value} {e : TypeId} (hh : V.heap[g]? = some (.cells c e (0, 0))) {xs : List Value} (h : c.toList.take n = xs) (t : Nat) (ht : t < n) : V.cell? ⟨g, t, none⟩ = xs[t]? := by
  rw [cell_of_row V g t c e (0, 0) hh, ← h, List.getElem?_take, if_pos ht, Array.getElem?_toList]
theorem sort_row (V : World) (base : Nat) (A : Option Addr) (n cap : Nat) (l : List Int) (hl : l.length = n) (h1 : 0 < n) (hn : n ≤ 1000000) (hown : V.ownsRow base TU 1 (.slice A n cap) n (ucs l)) :
    Calls Tryz.prog 54 #[.slice A n cap] V fun e w' => e = .returned (.tuple #[]) ∧ ∃ l', l'.Perm l ∧ l'.Pairwise (· ≤ ·) ∧ w'.ownsRow base TU 1 (.slice A n cap) n (ucs l') ∧ V.grownBy w' (Value.slice A n cap).ownBlock := by
  rcases hown.2 with ⟨hv, h0⟩ | ⟨g, cap', cur, hv, hg, hh, hnc, hcm, hcs, ht⟩
  · omega
  · injection hv with hv1 hv2 hv3
    subst hv1 hv3
    have hs : AtO g n V l.toArray V := AtO.start (c := cur) (by simpa using hl) hh fun t h => by
      have hlt : t < l.length := by omega
      rw [take_cellS hh ht t (by omega)]
      simp only [ucs, List.getElem?_map]
      rw [List.getElem?_eq_getElem hlt, getElem!_pos l.toArray t (by simpa using hlt)]
      simp
    refine (sort_any g n cap (by omega) l.toArray V V hs).mono ?_
    rintro e w' ⟨rfl, d', hp, hso, hA⟩
    have hsz : d'.size = n := hA.sz
    obtain ⟨c0, c, h1, h2, h3⟩ := hA.shape
    rw [hh] at h1
    injection h1 with h1
    injection h1 with h1 _ _
    subst h1
    refine ⟨rfl, d'.toList, ?_, ?_, ⟨?_, Or.inr ⟨g, cap, c, rfl, hg, h2, hnc, hcm, h3.trans hcs, ?_⟩⟩, ⟨hA.os, hA.tape, hA.output, hA.size, fun k hk hne => hA.block k hk fun e => hne (by rw [e]; rfl)⟩⟩
    · have h4 := hp.2.2
      have e1 : (d'.extract 0 n).toList = d'.toList := by rw [← hsz]; simp
      have e2 : (l.toArray.extract 0 n).toList = l := by rw [← hl]; simp
      rw [e1, e2] at h4
      exact h4
    · rw [List.pairwise_iff_getElem]
      intro i j hi hj hij
      have hi' : i < d'.size := by simpa using hi
      have hj' : j < d'.size := by simpa using hj
      have := hso i j (Nat.zero_le _) hij (by omega)
      rw [getElem!_pos d' i hi', getElem!_pos d' j hj'] at this
      simp only [ltInt, decide_eq_false_iff_not] at this
      simp only [Array.getElem_toList]
      omega
    · simp [ucs, hsz]
    · apply List.ext_getElem?
      intro t
      by_cases htn : t < n
      · have e1 := hA.cell t htn
        rw [cell_of_row w' g t c TU (0, 0) h2] at e1
        rw [List.getElem?_take, if_pos (by omega), Array.getElem?_toList]
        have htd : t < d'.size := by omega
        rw [show c[t]? = _ from e1, getElem!_pos d' t htd]
        simp [ucs, htd]
      · rw [List.getElem?_eq_none (by simp; omega), List.getElem?_eq_none (by simp [ucs]; omega)]
end Go.Proofs.YtdljphbfbiganaaGreatDoor.So
/- line: the keys of a map of one entry. -/
namespace Go.Proofs.YtdljphbfbiganaaGreatDoor.Ln
open Go Go.RowKit Go.Shelf Packet
set_option linter.unusedVariables false
attribute [local go_sem] Oper.semAt_some

abbrev TU8 : Nat := 47
abbrev TUu : Nat := 31
abbrev GK : Nat := 55
/-- the one entry -/
def ent (C : Array Value) : MapEntry := { key := .int .u64 1, val := .agg C, born := 0 }
theorem keys_any (M : Nat) (w : World) : Calls Tryz.prog 41 #[.map (some M)] w fun e w' =>
    e = .returned (.func (.func GK) #[] #[.pointer (some ⟨w.heap.size, 0, none⟩)]) ∧ w' = w.alloc (.cells #[.map (some M)] TMp) := by
  go_enter Tryz.func41, Tryz.ntmps41
  go_wp2
  go_ret
  exact ⟨rfl, rfl⟩
theorem range_one (M : Nat) (C : Array Value) (W : World) (h : W.heap[M]? = some (.map #[ent C] 1)) :
    (Instr.range TMp (.map (some M))).run Tryz.prog W = .ok (.pointer (some ⟨W.heap.size, 0, none⟩)) (W.alloc (.mapIter (some M) 1 #[] 1)) :=
  run_range_map W TMp _ _ M _ 1 Tryz.underlying49 h
/-- the world behind the first step -/
def stepW (W : World) (M I : Nat) : World := { W with heap := W.heap.setIfInBounds I (.mapIter (some M) 1 #[0] 1) }
theorem stepW_grown (W : World) (M I : Nat) : W.grownBy (stepW W M I) (some I) :=
  ⟨rfl, rfl, rfl, by simp [stepW], fun k hk hne => by
    show (W.heap.setIfInBounds I _)[k]? = _
    rw [Array.getElem?_setIfInBounds, if_neg (fun e => hne (by rw [e]))]⟩
theorem stepW_at (W : World) (M I : Nat) (h : I < W.heap.size) : (stepW W M I).heap[I]? = some (.mapIter (some M) 1 #[0] 1) := by
  show (W.heap.setIfInBounds I _)[I]? = _
  rw [Array.getElem?_setIfInBounds]; simp [h]
/-- the iterator's first step: the one entry -/
theorem next_one (ty : TypeId) (M I : Nat) (C : Array Value) (W : World) (h : W.heap[M]? = some (.map #[ent C] 1)) (hI : W.heap[I]? = some (.mapIter (some M) 1 #[] 1)) :
    (Instr.next (.pointer (some ⟨I, 0, none⟩)) false ty).run Tryz.prog W = .ok (.tuple #[.bool true, .int .u64 1, .agg C]) (stepW W M I) := by
  have hold : ∀ x ∈ (#[ent C] : Array MapEntry).toList, x.born < 1 := fun x hx => by
    have : x = ent C := by simpa using hx
    subst this; exact Nat.zero_lt_one
  simp only [Instr.next, getObj, Sem.run_bind, Sem.run, hI, h, Result.andThen, next_test_false #[] #[ent C] 1 1 hold (Nat.le_refl _), Bool.false_eq_true, if_false]
  have e1 : (#[ent C].filter fun e => !(#[] : Array Nat).contains e.born) = #[ent C] := by simp
  have e2 : (#[ent C].filter fun x => decide (x.born < 1)) = #[ent C] := by simp [ent]
  have e3 : (#[ent C].filter fun x => decide (x.born ≥ 1)) = #[] := by simp [ent]
  simp only [e1, e2, e3, Array.append_empty]
  simp [choose, Sem.run, Question.forced, setObj, hI, Result.andThen, stepW, ent]
/-- its second: nothing -/
theorem next_two (ty : TypeId) (M I : Nat) (C : Array Value) (W : World) (h : W.heap[M]? = some (.map #[ent C] 1)) (hI : W.heap[I]? = some (.mapIter (some M) 1 #[0] 1)) :
    (Instr.next (.pointer (some ⟨I, 0, none⟩)) false ty).run Tryz.prog W = .ok (.tuple #[.bool false]) W := by
  rcases Mi.next_run (P := Tryz.prog) W ty I M 1 1 #[0] #[ent C] 1 hI h (fun x hx => by
    have : x = ent C := by simpa using hx
    subst this; exact Nat.zero_lt_one) (Nat.le_refl _) with ⟨_, h0⟩ | ⟨e, he, _⟩
  · exact h0
  · simp [leftOf, ent] at he
theorem entry_one (M I : Nat) (C : Array Value) (W : World) (h : W.heap[M]? = some (.map #[ent C] 1)) (hI : W.heap[I]? = some (.mapIter (some M) 1 #[0] 1)) :
    (Instr.entry (.pointer (some ⟨I, 0, none⟩))).run Tryz.prog W = .ok (.tuple #[.int .u64 1, .agg C]) W :=
  Mi.entry_run (P := Tryz.prog) W I M 1 #[] #[ent C] 1 (ent C) hI h (by simp) (by simp)
/-- how much is left of it -/
def leftN (W : World) (I : Nat) : Nat := match W.heap[I]? with | some (.mapIter _ _ s _) => 1 - s.size | _ => 0
def KpL (n₀ : Nat) (A B : World) : Prop := Below n₀ A B ∧ KeepsWalks A B
set_option maxRecDepth 100000 in
set_option maxHeartbeats 2000000 in
theorem keys1_in (n : Nat) (hn : 1 ≤ n) (l Bl n₀ M : Nat) (C : Array Value) (w : World) (hw : n₀ = w.heap.size) (hM : w.heap[M]? = some (.map #[ent C] 1)) (J Jx : List Int → World → Prop) (W : World) 
    (hJA : AbidesFrom W.heap.size J)
    (hY : ∀ pre x W, J pre W → pre.length < 1 → YieldAt Fence.wide (n - 1) Tryz.prog l #[.int .u64 x] W fun e W' =>
      (e = .returned (.bool true) ∧ J (pre ++ [x]) W' ∧ KpL n₀ W W') ∨ (e = .returned (.bool false) ∧ Jx (pre ++ [x]) W'))
    (hBl : W.cell? ⟨Bl, 0, none⟩ = some (.map (some M))) (hB : Below n₀ w W) (h0 : J [] W) :
    CallsIn Fence.wide n Tryz.prog GK #[.func (.yield l) #[] #[], .pointer (some ⟨Bl, 0, none⟩)] W fun e W' => (∃ v, e = .returned v) ∧
      ((∃ ys, ys = [1] ∧ J ys W') ∨ (∃ pre, True ∧ Jx pre W')) := by
  have hMW := (hB.block _ (by rw [hw]; exact lt_of hM)).trans hM
  have hr := range_one M C W hMW
  have hM1 : (W.alloc (.mapIter (some M) 1 #[] 1)).heap[M]? = some (.map #[ent C] 1) := (Below.heap_alloc _ _ _ (lt_of hMW)).trans hMW
  have hI1 : (W.alloc (.mapIter (some M) 1 #[] 1)).heap[W.heap.size]? = some (.mapIter (some M) 1 #[] 1) := heap_alloc_new W _
  have hJ1 : J [] (W.alloc (.mapIter (some M) 1 #[] 1)) := hJA [] W _ none h0 (World.grownBy_alloc W _ none) (fun r e => by cases e)
  have hm : M < n₀ := by rw [hw]; exact lt_of hM
  have HA := Lib.hid (And.intro hJA (And.intro hm (And.intro hMW (And.intro hY hB.size))))
  obtain ⟨V, hV⟩ : ∃ V, V = W.alloc (.mapIter (some M) 1 #[] 1) := ⟨_, rfl⟩
  rw [← hV] at hr hM1 hI1 hJ1
  have H1 := Lib.hid (And.intro hM1 (And.intro hI1 hJ1))
  clear hV hM1 hI1 hJ1 hMW hJA hm hY hB h0 hw
  refine callsIn_of_wp Tryz.func55 rfl trivial ?_
  simp only [Tryz.ntmps55, List.size_toArray, List.length_cons, List.length_nil, Nat.reduceAdd, Nat.reduceSub, Array.replicate_succ, Array.replicate_zero, List.push_toArray, List.append_toArray, List.nil_append, List.cons_append]
  gi_wp2
  clear hr
  gi_loopw [3] (fun _ wr => ∃ ss : List Int, Hid (J ss wr) ∧ Hid (wr.heap[M]? = some (.map #[ent C] 1)) ∧ ((ss = [] ∧ Hid (wr.heap[W.heap.size]? = some (.mapIter (some M) 1 #[] 1))) ∨ (ss = [1] ∧ Hid (wr.heap[W.heap.size]? = some (.mapIter (some M) 1 #[0] 1)))))
    (fun _ wr => leftN wr W.heap.size)
  case atStart => exact ⟨[], Lib.hid H1.out.2.2, Lib.hid H1.out.1, .inl ⟨rfl, Lib.hid H1.out.2.1⟩⟩
  case round =>
    obtain ⟨ss, hJs, hMs, ⟨rfl, hI⟩ | ⟨rfl, hI⟩⟩ := hrel
    · have hnx := fun ty => next_one ty M W.heap.size C wr hMs.out hI.out
      have hg := stepW_grown wr M W.heap.size
      have hi2 := stepW_at wr M W.heap.size (lt_of hI.out)
      have hJ2 : J [] (stepW wr M W.heap.size) := HA.out.1 [] wr _ (some W.heap.size) hJs.out hg (fun r e => by cases e; exact ⟨Nat.le_refl _, _, hI.out, rfl⟩)
      have hM2 : (stepW wr M W.heap.size).heap[M]? = some (.map #[ent C] 1) := (hg.block _ (lt_of hMs.out) (fun e => by have := lt_of HA.out.2.2.1; injection e with e; omega)).trans hMs.out
      have hen := entry_one M W.heap.size C _ hM2 hi2
      have hsz2 : W.heap.size < (stepW wr M W.heap.size).heap.size := lt_of hi2
      obtain ⟨w2, hw2⟩ : ∃ X, X = stepW wr M W.heap.size := ⟨_, rfl⟩
      rw [← hw2] at hnx hi2 hJ2 hM2 hen
      obtain ⟨fn, tmps, assign, body, hy, hR⟩ := HA.out.2.2.2.1 [] 1 w2 hJ2 (by decide)
      have HR := Lib.hid hR
      have H2 := Lib.hid (And.intro hi2 (And.intro hM2 hI.out))
      clear hg hi2 hJ2 hM2 hw2 hR hsz2
      gi_wp2
      refine HR.out.mono ?_
      rintro e W3 (⟨rfl, hJ3, hk3⟩ | ⟨rfl, hJx3⟩)
      · have H3 := Lib.hid (And.intro hJ3 hk3)
        clear hJ3 hk3
        gi_wp2
        go_roundw
        case rel => exact ⟨[1], Lib.hid H3.out.1, Lib.hid ((H3.out.2.1.block _ HA.out.2.1).trans H2.out.2.1), .inr ⟨rfl, Lib.hid (H3.out.2.2.same _ _ H2.out.1 rfl)⟩⟩
        case measure => unfold leftN; rw [H3.out.2.2.same _ _ H2.out.1 rfl, H2.out.2.2]; exact Nat.zero_lt_one
      · have H3 := Lib.hid hJx3
        clear hJx3
        gi_wp2
        refine bodyPost_ret (results_none rfl _ _ _) rfl ?_
        exact ⟨⟨_, rfl⟩, .inr ⟨_, trivial, H3.out⟩⟩
    · have hnx := fun ty => next_two ty M W.heap.size C wr hMs.out hI.out
      gi_wp2
      go_end0
      exact ⟨⟨_, rfl⟩, .inl ⟨_, rfl, hJs.out⟩⟩
theorem keys_stops (n : Nat) (hn : 1 ≤ n) (Bl M : Nat) (C : Array Value) (w w1 : World) (hM : w.heap[M]? = some (.map #[ent C] 1)) (hBl : w1.cell? ⟨Bl, 0, none⟩ = some (.map (some M))) (hl1 : Bl < w1.heap.size) (hB : Below w.heap.size w w1) :
    SeqStopsK Fence.wide n Tryz.prog GK #[.pointer (some ⟨Bl, 0, none⟩)] (fun x : Int => #[Value.int .u64 x]) (KpL w.heap.size) (fun ys => ys = [1]) (fun _ => True) 1 w1 := fun l J Jx W hW hJ _ hY h0 =>
  keys1_in n hn l Bl w.heap.size M C w rfl hM J Jx W hJ hY ((hW.cell (p := ⟨Bl, 0, none⟩) hl1).trans hBl) (hB.trans (hW.mono hB.size)) h0
theorem kpL_t {n₀ : Nat} {A B C : World} (h : KpL n₀ A B) (k : KpL n₀ B C) : KpL n₀ A C := ⟨h.1.trans k.1, h.2.trans k.2⟩
theorem kpL_b {n₀ : Nat} {w : World} (hn : n₀ ≤ w.heap.size) (W : World) (l : Nat) (o o' : Obj) (hl : w.heap.size ≤ l) (h : W.heap[l]? = some o) (hc : o.isCells = false) (hw : o.isWalk = false) : KpL n₀ W (W.putObj l o') :=
  ⟨belowK_b hn W l o o' hl h hc hw, KeepsWalks.putObj _ h hw⟩
def uuc (l : List Int) : List Value := l.map (Value.int .u64)
theorem infoU : (Tryz.prog.info? 31).map (fun i => (i.zero, i.size, i.bytes)) = some (some (.int .u64 0), 1, 8) := by kernel_rfl
end Go.Proofs.YtdljphbfbiganaaGreatDoor.Ln
