import Derived.Test.YtdljphbfbiganaaDoorLnBase
import Derived.Test.YtdljphbfbiganaaDoorMapIter
import Derived.Test.YtdljphbfbiganaaDoorStP
import Derived.RangeFuncNested
import Derived.RangeFuncBound
import Derived.RangeFuncCalls
import Derived.RangeFuncLeaves
import Derived.RangeFuncBox
import Derived.Maps.AppendAt
import Derived.Shelf.Abstract
import Derived.Shelf.RegionOpen
import Derived.OwnWalkIn
import Derived.TacticsInMore
import Derived.LoopNIn
import Derived.LoopIn
/- line: the keys of a map of one entry. -/
namespace Go.Proofs.YtdljphbfbiganaaDoor.Ln
open Go Go.RowKit Go.Shelf Packet
set_option linter.unusedVariables false
attribute [local go_sem] Oper.semAt_some

abbrev TU8 : Nat := 47
abbrev TUu : Nat := 29
abbrev GK : Nat := 33
/-- the one entry -/
def ent (C : Array Value) : MapEntry := { key := .int .u64 1, val := .agg C, born := 0 }
theorem keys_any (M : Nat) (w : World) : Calls Tryd.prog 23 #[.map (some M)] w fun e w' =>
    e = .returned (.func (.func GK) #[] #[.pointer (some ⟨w.heap.size, 0, none⟩)]) ∧ w' = w.alloc (.cells #[.map (some M)] TMp) := by
  go_enter Tryd.func23, Tryd.ntmps23
  go_wp2
  go_ret
  exact ⟨rfl, rfl⟩
theorem range_one (M : Nat) (C : Array Value) (W : World) (h : W.heap[M]? = some (.map #[ent C] 1)) :
    (Instr.range TMp (.map (some M))).run Tryd.prog W = .ok (.pointer (some ⟨W.heap.size, 0, none⟩)) (W.alloc (.mapIter (some M) 1 #[] 1)) :=
  run_range_map W TMp _ _ M _ 1 Tryd.underlying49 h
/-- the world behind the first step -/
def stepW (W : World) (M I : Nat) : World := { W with heap := W.heap.setIfInBounds I (.mapIter (some M) 1 #[0] 1) }
theorem stepW_grown (W : World) (M I : Nat) : W.grownBy (stepW W M I) (some I) :=
  ⟨rfl, rfl, rfl, by simp [stepW], fun k hk hne => by
    show (W.heap.setIfInBounds I _)[k]? = _
    rw [Array.getElem?_setIfInBounds, if_neg (fun e => hne (by rw [e]))]⟩
theorem stepW_at (W : World) (M I : Nat) (h : I < W.heap.size) : (stepW W M I).heap[I]? = some (.mapIter (some M) 1 #[0] 1) := by
  show (W.heap.setIfInBounds I _)[I]? = _
  rw [Array.getElem?_setIfInBounds]; simp [h]
/-- the iterator's first step: the one entry -/
theorem next_one (ty : TypeId) (M I : Nat) (C : Array Value) (W : World) (h : W.heap[M]? = some (.map #[ent C] 1)) (hI : W.heap[I]? = some (.mapIter (some M) 1 #[] 1)) :
    (Instr.next (.pointer (some ⟨I, 0, none⟩)) false ty).run Tryd.prog W = .ok (.tuple #[.bool true, .int .u64 1, .agg C]) (stepW W M I) := by
  have hold : ∀ x ∈ (#[ent C] : Array MapEntry).toList, x.born < 1 := fun x hx => by
    have : x = ent C := by simpa using hx
    subst this; exact Nat.zero_lt_one
  simp only [Instr.next, getObj, Sem.run_bind, Sem.run, hI, h, Result.andThen, next_test_false #[] #[ent C] 1 1 hold (Nat.le_refl _), Bool.false_eq_true, if_false]
  have e1 : (#[ent C].filter fun e => !(#[] : Array Nat).contains e.born) = #[ent C] := by simp
  have e2 : (#[ent C].filter fun x => decide (x.born < 1)) = #[ent C] := by simp [ent]
  have e3 : (#[ent C].filter fun x => decide (x.born ≥ 1)) = #[] := by simp [ent]
  simp only [e1, e2, e3, Array.append_empty]
  simp [choose, Sem.run, Question.forced, setObj, hI, Result.andThen, stepW, ent]
/-- its second: nothing -/
theorem next_two (ty : TypeId) (M I : Nat) (C : Array Value) (W : World) (h : W.heap[M]? = some (.map #[ent C] 1)) (hI : W.heap[I]? = some (.mapIter (some M) 1 #[0] 1)) :
    (Instr.next (.pointer (some ⟨I, 0, none⟩)) false ty).run Tryd.prog W = .ok (.tuple #[.bool false]) W := by
  rcases Mi.next_run (P := Tryd.prog) W ty I M 1 1 #[0] #[ent C] 1 hI h (fun x hx => by
    have : x = ent C := by simpa using hx
    subst this; exact Nat.zero_lt_one) (Nat.le_refl _) with ⟨_, h0⟩ | ⟨e, he, _⟩
  · exact h0
  · simp [leftOf, ent] at he
theorem entry_one (M I : Nat) (C : Array Value) (W : World) (h : W.heap[M]? = some (.map #[ent C] 1)) (hI : W.heap[I]? = some (.mapIter (some M) 1 #[0] 1)) :
    (Instr.entry (.pointer (some ⟨I, 0, none⟩))).run Tryd.prog W = .ok (.tuple #[.int .u64 1, .agg C]) W :=
  Mi.entry_run (P := Tryd.prog) W I M 1 #[] #[ent C] 1 (ent C) hI h (by simp) (by simp)
/-- how much is left of it -/
def leftN (W : World) (I : Nat) : Nat := match W.heap[I]? with | some (.mapIter _ _ s _) => 1 - s.size | _ => 0
def KpL (n₀ : Nat) (A B : World) : Prop := Below n₀ A B ∧ KeepsWalks A B
set_option maxRecDepth 100000 in
set_option maxHeartbeats 2000000 in
theorem keys1_in (n : Nat) (hn : 1 ≤ n) (l Bl n₀ M : Nat) (C : Array Value) (w : World) (hw : n₀ = w.heap.size) (hM : w.heap[M]? = some (.map #[ent C] 1)) (J Jx : List Int → World → Prop) (W : World) 
    (hJA : AbidesFrom W.heap.size J)
    (hY : ∀ pre x W, J pre W → pre.length < 1 → YieldAt Fence.wide (n - 1) Tryd.prog l #[.int .u64 x] W fun e W' =>
      (e = .returned (.bool true) ∧ J (pre ++ [x]) W' ∧ KpL n₀ W W') ∨ (e = .returned (.bool false) ∧ Jx (pre ++ [x]) W'))
    (hBl : W.cell? ⟨Bl, 0, none⟩ = some (.map (some M))) (hB : Below n₀ w W) (h0 : J [] W) :
    CallsIn Fence.wide n Tryd.prog GK #[.func (.yield l) #[] #[], .pointer (some ⟨Bl, 0, none⟩)] W fun e W' => (∃ v, e = .returned v) ∧
      ((∃ ys, ys = [1] ∧ J ys W') ∨ (∃ pre, True ∧ Jx pre W')) := by
  have hMW := (hB.block _ (by rw [hw]; exact lt_of hM)).trans hM
  have hr := range_one M C W hMW
  have hM1 : (W.alloc (.mapIter (some M) 1 #[] 1)).heap[M]? = some (.map #[ent C] 1) := (Below.heap_alloc _ _ _ (lt_of hMW)).trans hMW
  have hI1 : (W.alloc (.mapIter (some M) 1 #[] 1)).heap[W.heap.size]? = some (.mapIter (some M) 1 #[] 1) := heap_alloc_new W _
  have hJ1 : J [] (W.alloc (.mapIter (some M) 1 #[] 1)) := hJA [] W _ none h0 (World.grownBy_alloc W _ none) (fun r e => by cases e)
  have hm : M < n₀ := by rw [hw]; exact lt_of hM
  have HA := Lib.hid (And.intro hJA (And.intro hm (And.intro hMW (And.intro hY hB.size))))
  obtain ⟨V, hV⟩ : ∃ V, V = W.alloc (.mapIter (some M) 1 #[] 1) := ⟨_, rfl⟩
  rw [← hV] at hr hM1 hI1 hJ1
  have H1 := Lib.hid (And.intro hM1 (And.intro hI1 hJ1))
  clear hV hM1 hI1 hJ1 hMW hJA hm hY hB h0 hw
  refine callsIn_of_wp Tryd.func33 rfl trivial ?_
  simp only [Tryd.ntmps33, List.size_toArray, List.length_cons, List.length_nil, Nat.reduceAdd, Nat.reduceSub, Array.replicate_succ, Array.replicate_zero, List.push_toArray, List.append_toArray, List.nil_append, List.cons_append]
  gi_wp2
  clear hr
  gi_loopw [3] (fun _ wr => ∃ ss : List Int, Hid (J ss wr) ∧ Hid (wr.heap[M]? = some (.map #[ent C] 1)) ∧ ((ss = [] ∧ Hid (wr.heap[W.heap.size]? = some (.mapIter (some M) 1 #[] 1))) ∨ (ss = [1] ∧ Hid (wr.heap[W.heap.size]? = some (.mapIter (some M) 1 #[0] 1)))))
    (fun _ wr => leftN wr W.heap.size)
  case atStart => exact ⟨[], Lib.hid H1.out.2.2, Lib.hid H1.out.1, .inl ⟨rfl, Lib.hid H1.out.2.1⟩⟩
  case round =>
    obtain ⟨ss, hJs, hMs, ⟨rfl, hI⟩ | ⟨rfl, hI⟩⟩ := hrel
    · have hnx := fun ty => next_one ty M W.heap.size C wr hMs.out hI.out
      have hg := stepW_grown wr M W.heap.size
      have hi2 := stepW_at wr M W.heap.size (lt_of hI.out)
      have hJ2 : J [] (stepW wr M W.heap.size) := HA.out.1 [] wr _ (some W.heap.size) hJs.out hg (fun r e => by cases e; exact ⟨Nat.le_refl _, _, hI.out, rfl⟩)
      have hM2 : (stepW wr M W.heap.size).heap[M]? = some (.map #[ent C] 1) := (hg.block _ (lt_of hMs.out) (fun e => by have := lt_of HA.out.2.2.1; injection e with e; omega)).trans hMs.out
      have hen := entry_one M W.heap.size C _ hM2 hi2
      have hsz2 : W.heap.size < (stepW wr M W.heap.size).heap.size := lt_of hi2
      obtain ⟨w2, hw2⟩ : ∃ X, X = stepW wr M W.heap.size := ⟨_, rfl⟩
      rw [← hw2] at hnx hi2 hJ2 hM2 hen
      obtain ⟨fn, tmps, assign, body, hy, hR⟩ := HA.out.2.2.2.1 [] 1 w2 hJ2 (by decide)
      have HR := Lib.hid hR
      have H2 := Lib.hid (And.intro hi2 (And.intro hM2 hI.out))
      clear hg hi2 hJ2 hM2 hw2 hR hsz2
      gi_wp2
      refine HR.out.mono ?_
      rintro e W3 (⟨rfl, hJ3, hk3⟩ | ⟨rfl, hJx3⟩)
      · have H3 := Lib.hid (And.intro hJ3 hk3)
        clear hJ3 hk3
        gi_wp2
        go_roundw
        case rel => exact ⟨[1], Lib.hid H3.out.1, Lib.hid ((H3.out.2.1.block _ HA.out.2.1).trans H2.out.2.1), .inr ⟨rfl, Lib.hid (H3.out.2.2.same _ _ H2.out.1 rfl)⟩⟩
        case measure => unfold leftN; rw [H3.out.2.2.same _ _ H2.out.1 rfl, H2.out.2.2]; exact Nat.zero_lt_one
      · have H3 := Lib.hid hJx3
        clear hJx3
        gi_wp2
        refine bodyPost_ret (results_none rfl _ _ _) rfl ?_
        exact ⟨⟨_, rfl⟩, .inr ⟨_, trivial, H3.out⟩⟩
    · have hnx := fun ty => next_two ty M W.heap.size C wr hMs.out hI.out
      gi_wp2
      go_end0
      exact ⟨⟨_, rfl⟩, .inl ⟨_, rfl, hJs.out⟩⟩
theorem keys_stops (n : Nat) (hn : 1 ≤ n) (Bl M : Nat) (C : Array Value) (w w1 : World) (hM : w.heap[M]? = some (.map #[ent C] 1)) (hBl : w1.cell? ⟨Bl, 0, none⟩ = some (.map (some M))) (hl1 : Bl < w1.heap.size) (hB : Below w.heap.size w w1) :
    SeqStopsK Fence.wide n Tryd.prog GK #[.pointer (some ⟨Bl, 0, none⟩)] (fun x : Int => #[Value.int .u64 x]) (KpL w.heap.size) (fun ys => ys = [1]) (fun _ => True) 1 w1 := fun l J Jx W hW hJ _ hY h0 =>
  keys1_in n hn l Bl w.heap.size M C w rfl hM J Jx W hJ hY ((hW.cell (p := ⟨Bl, 0, none⟩) hl1).trans hBl) (hB.trans (hW.mono hB.size)) h0
theorem kpL_t {n₀ : Nat} {A B C : World} (h : KpL n₀ A B) (k : KpL n₀ B C) : KpL n₀ A C := ⟨h.1.trans k.1, h.2.trans k.2⟩
theorem kpL_b {n₀ : Nat} {w : World} (hn : n₀ ≤ w.heap.size) (W : World) (l : Nat) (o o' : Obj) (hl : w.heap.size ≤ l) (h : W.heap[l]? = some o) (hc : o.isCells = false) (hw : o.isWalk = false) : KpL n₀ W (W.putObj l o') :=
  ⟨belowK_b hn W l o o' hl h hc hw, KeepsWalks.putObj _ h hw⟩
def uuc (l : List Int) : List Value := l.map (Value.int .u64)
theorem infoU : (Tryd.prog.info? 29).map (fun i => (i.zero, i.size, i.bytes)) = some (some (.int .u64 0), 1, 8) := by kernel_rfl
end Go.Proofs.YtdljphbfbiganaaDoor.Ln
/- line: the keys of a map of one entry, gathered and sorted. -/
namespace Go.Proofs.YtdljphbfbiganaaDoor.Ln
open Go Go.RowKit Go.Shelf Packet
set_option linter.unusedVariables false
attribute [local go_sem] Oper.semAt_some

set_option maxRecDepth 100000 in
set_option maxHeartbeats 2000000 in
theorem appseq_any (Bl M : Nat) (C : Array Value) (w : World) (hM : w.heap[M]? = some (.map #[ent C] 1)) (hBl : w.cell? ⟨Bl, 0, none⟩ = some (.map (some M))) (hl1 : Bl < w.heap.size) :
    Calls Tryd.prog 42 #[.slice none 0 0, .func (.func GK) #[] #[.pointer (some ⟨Bl, 0, none⟩)]] w fun e w' => (∃ u, e = .returned u ∧ w'.ownsRow w.heap.size TUu 1 u 1 (uuc [1])) ∧ Below w.heap.size w w' := by
  obtain ⟨i0, hi, hz0, hz1, hz2⟩ := info_parts infoU
  refine (callsIn_wide (n := 6)).1 ?_
  refine callsIn_of_wp_marks Tryd.func42 rfl trivial ?_
  simp only [Tryd.ntmps42, List.size_toArray, List.length_cons, List.length_nil, Nat.reduceAdd, Nat.reduceSub, Array.replicate_succ, Array.replicate_zero, List.push_toArray, List.append_toArray, List.nil_append, List.cons_append]
  gi_wp2
  have hB0 : Below w.heap.size w (w.alloc (.cells #[.slice none 0 0] TU8)) := (Below.refl _ w).alloc (Nat.le_refl _) _
  have bO := Boxed.new w TU8 (.slice none 0 0)
  have hsz : (w.alloc (.cells #[.slice none 0 0] TU8)).heap.size = w.heap.size + 1 := by simp
  have hcl : (w.alloc (.cells #[.slice none 0 0] TU8)).cell? ⟨Bl, 0, none⟩ = some (.map (some M)) := (hB0.cell (p := ⟨Bl, 0, none⟩) hl1).trans hBl
  obtain ⟨W0, hW0⟩ : ∃ W0, w.alloc (.cells #[.slice none 0 0] TU8) = W0 := ⟨_, rfl⟩
  rw [hW0] at hB0 bO hsz hcl ⊢
  clear hW0
  refine wpIn_rangeFunc_ownH rfl (by decide) (gf := GK) (lb := #[.pointer (some ⟨Bl, 0, none⟩)]) rfl trivial (enters_of Tryd.func33 (by kernel_rfl) rfl)
    (keys_stops 5 (by decide) Bl M C w W0 hM hcl (by omega) hB0) (fun h k => kpL_t h k) (kpL_b (by omega)) (Below.refl _ _) (fun _ => rfl)
    (fun pre W => (∃ v, Boxed W w.heap.size TU8 v ∧ W.ownsRow w.heap.size TUu 1 v pre.length (uuc pre) ∧ True) ∧ Below w.heap.size w W)
    (fun _ _ _ => False)
    (OwnFrom.and (Own.from (holdsRow_own w.heap.size w.heap.size TU8 TUu 1 (fun pre => pre.length) (fun pre => uuc pre) (fun _ _ => True)) _) (ownFrom_below (Nat.le_refl _) (by omega)))
    (fun _ _ _ _ _ hs _ _ => hs)
    ⟨⟨_, bO, World.ownsRow_nil _ _ _ _, trivial⟩, hB0⟩
    (fun x a' _ => a' = { tmps := #[.slice none 0 0, .func (.func GK) #[] #[.pointer (some ⟨Bl, 0, none⟩)], .pointer (some ⟨w.heap.size, 0, none⟩), undef, .slice none 0 0, .int .u64 x, .func (.func GK) #[] #[.pointer (some ⟨Bl, 0, none⟩)], .int .u64 x, undef, undef, undef, undef, undef], defers := [] })
    (fun x a' _ X Y row hs hg hr => hs)
    ?assign ?body ?done ?stop
  case assign =>
    rintro l pre x W K ⟨⟨v, hv, hrow, _⟩, hB⟩ hK
    gi_wp2
    exact hK _ _ (KeepsFrom.refl _ _) ⟨Below.refl _ _, KeepsWalks.refl _⟩ ⟨⟨v, hv, hrow, trivial⟩, hB⟩ rfl
  case body =>
    rintro l pre x a' W hl ⟨r, hlr⟩ ⟨⟨v, hv, hrow, _⟩, hB⟩ rfl hlt
    have v0 := hv.cell
    gi_wp2_with (gi_at_builtin; refine wpListIn_append_own _ rfl _ _ TU8 rfl w.heap.size TUu i0 _ 1 8 Tryd.underlying47 hi hz0 hz1 hz2 rfl (by decide) _ _ _ rfl (hrow.alloc _) ⟨W.heap.size, 0, none⟩ 1 1 [.int .u64 x] rfl rfl (cell_one_new _ _ _) (one_one rfl) (by unfold maxLen; omega) (by omega) (by have := hB.size; simp; omega) ?_; intro v' w1 hown' hgrow _; obtain ⟨g', cap', rfl⟩ := ownsRow_succ hown'; obtain ⟨hv1, hv2, hr2, hk2, hb2⟩ := hv.appended (by decide) hrow hB.size (by omega) hown' hgrow; have hc1 := hv1.cell; have hf1 := hv1.frozen)
    refine ⟨hk2.from _, ⟨hb2, ?_⟩, ⟨⟨_, hv2, ?_, trivial⟩, hB.trans hb2⟩⟩
    · exact ⟨hk2.size, fun k o h hw => hk2.same k o h (Obj.not_cells_of_walk hw)⟩
    · rw [List.length_append, List.length_singleton]
      have : uuc (pre ++ [x]) = uuc pre ++ [.int .u64 x] := by simp [uuc]
      rw [this]
      exact hr2
  case done =>
    rintro D ys W hD rfl ⟨⟨v, hv, hrow, _⟩, hB⟩ hK
    have c0 := hv.cell
    gi_wp2
    refine ⟨by simp, .inl ⟨_, _, rfl, run_takeDeferred hK, ?_⟩⟩
    exact ⟨_, results_tmp rfl _ _ _, ⟨v, rfl, ownsRow_putObj hrow _ hK rfl⟩, hB.trans (belowK_b (w := w) (Nat.le_refl _) W D _ _ (by omega) hK rfl rfl)⟩
  case stop =>
    rintro D c pre W _ _ h _
    exact h.elim
theorem collect_any (Bl M : Nat) (C : Array Value) (w : World) (hM : w.heap[M]? = some (.map #[ent C] 1)) (hBl : w.cell? ⟨Bl, 0, none⟩ = some (.map (some M))) (hl1 : Bl < w.heap.size) :
    Calls Tryd.prog 31 #[.func (.func GK) #[] #[.pointer (some ⟨Bl, 0, none⟩)]] w fun e w' => (∃ u, e = .returned u ∧ w'.ownsRow w.heap.size TUu 1 u 1 (uuc [1])) ∧ Below w.heap.size w w' := by
  have HA := Lib.hid (appseq_any Bl M C w hM hBl hl1)
  clear hM hBl
  go_enter Tryd.func31, Tryd.ntmps31
  go_wp2_with fail
  refine HA.out.mono ?_
  rintro e w1 ⟨⟨u, rfl, hrow⟩, hb⟩
  have HZ := Lib.hid (And.intro hrow hb)
  obtain ⟨A1, c1, hu⟩ := own_form hrow
  subst hu
  clear hrow hb
  go_wp2
  go_ret
  exact ⟨⟨_, rfl, HZ.out.1⟩, HZ.out.2⟩
theorem sorted_any (Bl M : Nat) (C : Array Value) (w : World) (hM : w.heap[M]? = some (.map #[ent C] 1)) (hBl : w.cell? ⟨Bl, 0, none⟩ = some (.map (some M))) (hl1 : Bl < w.heap.size) :
    Calls Tryd.prog 22 #[.func (.func GK) #[] #[.pointer (some ⟨Bl, 0, none⟩)]] w fun e w' => (∃ b c, e = .returned (.slice (some ⟨b, 0, none⟩) 1 c) ∧ w'.cell? ⟨b, 0, none⟩ = some (.int .u64 1)) ∧ Below w.heap.size w w' := by
  have HA := Lib.hid (collect_any Bl M C w hM hBl hl1)
  clear hM hBl
  go_enter Tryd.func22, Tryd.ntmps22
  go_wp2_with fail
  refine HA.out.mono ?_
  rintro e w1 ⟨⟨u, rfl, hrow⟩, hb⟩
  obtain ⟨A1, c1, hu⟩ := own_form hrow
  subst hu
  have HS := Lib.hid (So.sort_row w1 w.heap.size A1 1 c1 [1] rfl (by decide) (by decide) hrow)
  have HZ := Lib.hid (And.intro hrow hb)
  clear hrow hb
  go_wp2_with fail
  refine HS.out.mono ?_
  rintro e w2 ⟨rfl, l', hp, _, hrow2, hg⟩
  have hl' : l' = [1] := by simpa using hp.eq_singleton
  subst hl'
  have hB2 : Below w.heap.size w w2 := HZ.out.2.grown hg HZ.out.2.size (fun k e => by
    rcases HZ.out.1.2 with ⟨hv, h0⟩ | ⟨g, cap', cur, hv, hg', _⟩
    · omega
    · rw [hv] at e; cases e; exact hg')
  have HY := Lib.hid (And.intro hrow2 hB2)
  clear hp hrow2 hg hB2
  rcases HY.out.1.2 with ⟨hv, h0⟩ | ⟨g, cap', cur, hv, hg, hh, hnc, hcm, hcs, ht⟩
  · omega
  · injection hv with hv1 hv2 hv3
    subst hv1 hv3
    have hc : w2.cell? ⟨g, 0, none⟩ = some (.int .u64 1) := by
      have := So.take_cellS hh ht 0 (by decide)
      exact this
    have HC := Lib.hid hc
    clear hc hh ht
    go_wp2
    go_ret
    exact ⟨⟨_, _, rfl, HC.out⟩, HY.out.2⟩
set_option maxRecDepth 20000 in
theorem waiting_one {w : World} {E M N : Nat} {n : Int} (C : Array Value) (h : LnIs w E M N n) (hM : w.heap[M]? = some (.map #[ent C] 1)) :
    Calls Tryd.prog 13 #[.pointer (some ⟨E, 0, none⟩)] w fun e w' => (∃ b c, e = .returned (.slice (some ⟨b, 0, none⟩) 1 c) ∧ w'.cell? ⟨b, 0, none⟩ = some (.int .u64 1)) ∧ Below w.heap.size w w' := by
  have c7 := cell_of_row w E 7 _ _ (0, 0) h.box
  have hb1 : Below w.heap.size w (w.alloc (.cells #[.map (some M)] TMp)) := (Below.refl _ w).alloc (Nat.le_refl _) _
  have HS := Lib.hid (sorted_any w.heap.size M C (w.alloc (.cells #[.map (some M)] TMp)) ((hb1.block _ (lt_of hM)).trans hM) (by simp) (by simp))
  have HB := Lib.hid hb1
  clear h hM hb1
  go_enter Tryd.func13, Tryd.ntmps13
  go_wp2_with fail
  refine (keys_any M _).mono ?_
  rintro _ _ ⟨rfl, rfl⟩
  go_wp2_with fail
  refine HS.out.mono ?_
  rintro _ w1 ⟨⟨b, c, rfl, hc⟩, hb⟩
  have HC := Lib.hid (And.intro hc (HB.out.trans (hb.mono (by simp))))
  clear hc hb
  go_wp2
  go_ret
  exact ⟨⟨_, _, rfl, HC.out.1⟩, HC.out.2⟩
end Go.Proofs.YtdljphbfbiganaaDoor.Ln
