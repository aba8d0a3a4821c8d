import Derived.Test.YtdljphbfbiganaaGreatDoorGMapIter
import Derived.Test.YtdljphbfbiganaaGreatDoorGLgBase
/- line: the keys of a map of whatever entries. -/
namespace Go.Proofs.YtdljphbfbiganaaGreatDoor.Wa
open Go Go.RowKit Go.Shelf Packet Mg Lg Ln
set_option linter.unusedVariables false
attribute [local go_sem] Oper.semAt_some

abbrev Mu : Type := (Int × Array Value) × Nat
/-- stamps that were handed out -/
abbrev isIn (seen : Array Nat) (x : Mu) : Bool := seen.contains x.2
theorem contains_push (a : Array Nat) (b c : Nat) : (a.push b).contains c = (a.contains c || c == b) := by
  rw [Bool.eq_iff_iff]
  simp only [Array.contains_iff_mem, Array.mem_push, Bool.or_eq_true, beq_iff_eq]
theorem filter_push {seen : Array Nat} : ∀ {l : List Mu}, (l.map (·.2)).Nodup → ∀ x ∈ l, seen.contains x.2 = false → ((l.filter (isIn (seen.push x.2))).Perm (x :: l.filter (isIn seen)))
  | [], _, _, h, _ => by cases h
  | y :: l, hn, x, hx, hs => by
    have hn' : y.2 ∉ l.map (·.2) ∧ (l.map (·.2)).Nodup := List.nodup_cons.1 hn
    simp only [List.filter_cons, isIn, contains_push]
    rcases List.mem_cons.1 hx with rfl | hm
    · have hl : l.filter (isIn (seen.push x.2)) = l.filter (isIn seen) := by
        apply List.filter_congr
        intro z hz
        have : (z.2 == x.2) = false := by
          simp only [beq_eq_false_iff_ne]
          exact fun e => hn'.1 (by rw [← e]; exact List.mem_map.2 ⟨z, hz, rfl⟩)
        simp only [isIn, contains_push, this, Bool.or_false]
      rw [beq_self_eq_true, Bool.or_true, if_pos rfl, if_neg (by rw [hs]; decide), hl]
    · have hy : (y.2 == x.2) = false := by
        simp only [beq_eq_false_iff_ne]
        exact fun e => hn'.1 (by rw [e]; exact List.mem_map.2 ⟨x, hm, rfl⟩)
      rw [hy, Bool.or_false]
      have ih := filter_push hn'.2 x hm hs
      by_cases hc : seen.contains y.2 = true
      · rw [if_pos hc, if_pos hc]
        exact (List.Perm.cons y ih).trans (List.Perm.swap x y _)
      · rw [if_neg hc, if_neg hc]
        exact ih
theorem left_toE (l : List Mu) (seen : Array Nat) : (leftOf (l.map KS.toE).toArray seen).toList = (l.filter fun x => !isIn seen x).map KS.toE := by
  unfold leftOf
  rw [Array.toList_filter]
  simp only [List.filter_map]
  rfl
theorem filter_lt {α : Type} (p q : α → Bool) (hpq : ∀ y, q y = true → p y = true) (x : α) (hx : p x = true) (hq : q x = false) : ∀ (l : List α), x ∈ l → (l.filter q).length < (l.filter p).length
  | [], h => by cases h
  | y :: l, h => by
    have hle : ∀ l : List α, (l.filter q).length ≤ (l.filter p).length := fun l => by
      induction l with
      | nil => simp
      | cons z l ih =>
        simp only [List.filter_cons]
        by_cases h1 : q z = true
        · rw [if_pos h1, if_pos (hpq z h1)]; simpa using ih
        · rw [if_neg h1]; split
          · simp; omega
          · exact ih
    simp only [List.filter_cons]
    rcases List.mem_cons.1 h with rfl | hm
    · rw [hq, hx]
      have := hle l
      simp
      omega
    · have ih := filter_lt p q hpq x hx hq l hm
      by_cases h1 : q y = true
      · rw [if_pos h1, if_pos (hpq y h1)]; simpa using ih
      · rw [if_neg h1]; split
        · simp; omega
        · exact ih
theorem left_dec (l : List Mu) (seen : Array Nat) {x : Mu} (hx : x ∈ l) (hs : isIn seen x = false) : (l.filter fun y => !isIn (seen.push x.2) y).length < (l.filter fun y => !isIn seen y).length := by
  refine filter_lt (fun y : Mu => !isIn seen y) (fun y => !isIn (seen.push x.2) y) (fun y hy => ?_) x (by show (!isIn seen x) = true; rw [hs]; rfl) ?_ l hx
  · simp only [isIn, contains_push, Bool.not_eq_true', Bool.or_eq_false_iff] at hy ⊢
    exact hy.1
  · simp only [isIn, contains_push, beq_self_eq_true, Bool.or_true, Bool.not_true]
theorem iterSeen_of {V : World} {I b c : Nat} {a : Option Nat} {s : Array Nat} (h : V.heap[I]? = some (.mapIter a b s c)) : V.iterSeen I = s := by
  unfold World.iterSeen; rw [h]
/-- the keys that came out -/
def outK (l : List Mu) (seen : Array Nat) : List Int := (l.filter (isIn seen)).map (·.1.1)
theorem outK_all (l : List Mu) (seen : Array Nat) (h : (l.filter fun x => !isIn seen x) = []) : outK l seen = l.map (·.1.1) := by
  unfold outK
  rw [List.filter_eq_self.2 fun x hx => by have := List.filter_eq_nil_iff.1 h x hx; simpa using this]
theorem outK_lt (l : List Mu) (seen : Array Nat) {x : Mu} (hx : x ∈ l) (hs : isIn seen x = false) : (outK l seen).length < l.length := by
  unfold outK
  rw [List.length_map]
  have h := filter_lt (fun _ : Mu => true) (isIn seen) (fun _ _ => rfl) x rfl hs l hx
  rw [List.filter_eq_self.2 (fun _ _ => rfl)] at h
  exact h
theorem range_g (W : World) (M : Nat) (es : Array MapEntry) (n : Nat) (h : W.heap[M]? = some (.map es n)) :
    (Instr.range TMp (.map (some M))).run Tryz.prog W = .ok (.pointer (some ⟨W.heap.size, 0, none⟩)) (W.alloc (.mapIter (some M) n #[] n)) :=
  run_range_map W TMp _ _ M es n Tryz.underlying49 h
theorem set_grown {V W : World} (h : V = W ∨ V = W.drew) (I : Nat) (o : Obj) : W.grownBy { V with heap := V.heap.setIfInBounds I o } (some I) := by
  rcases h with rfl | rfl
  all_goals
    refine ⟨rfl, rfl, rfl, by simp, fun k hk hne => ?_⟩
    rw [Array.getElem?_setIfInBounds, if_neg (fun e => hne (by rw [e]))]
    try rfl
theorem set_here {V W : World} (h : V = W ∨ V = W.drew) (I : Nat) (o : Obj) (hI : I < W.heap.size) : ({ V with heap := V.heap.setIfInBounds I o } : World).heap[I]? = some o := by
  have : I < V.heap.size := by rcases h with rfl | rfl <;> exact hI
  show (V.heap.setIfInBounds I o)[I]? = _
  rw [Array.getElem?_setIfInBounds]; simp [this]
set_option maxRecDepth 100000 in
set_option maxHeartbeats 4000000 in
theorem keysN_in (n : Nat) (hn : 1 ≤ n) (l Bl n₀ M N : Nat) (L : List Mu) (clock : Nat) (w : World) (hw : n₀ = w.heap.size) (hM : w.heap[M]? = some (.map (L.map KS.toE).toArray clock)) (hborn : ∀ x ∈ L, x.2 < clock) (hnd : (L.map (·.2)).Nodup) (hN : L.length ≤ N) (J Jx : List Int → World → Prop) (W : World)
    (hJA : AbidesFrom W.heap.size J)
    (hY : ∀ pre x W, J pre W → pre.length < N → YieldAt Fence.wide (n - 1) Tryz.prog l #[.int .u64 x] W fun e W' =>
      (e = .returned (.bool true) ∧ J (pre ++ [x]) W' ∧ KpL n₀ W W') ∨ (e = .returned (.bool false) ∧ Jx (pre ++ [x]) W'))
    (hBl : W.cell? ⟨Bl, 0, none⟩ = some (.map (some M))) (hB : Below n₀ w W) (h0 : J [] W) :
    CallsIn Fence.wide n Tryz.prog GK #[.func (.yield l) #[] #[], .pointer (some ⟨Bl, 0, none⟩)] W fun e W' => (∃ v, e = .returned v) ∧
      ((∃ ys, ys.Perm (L.map (·.1.1)) ∧ J ys W') ∨ (∃ pre, True ∧ Jx pre W')) := by
  have hMW := (hB.block _ (by rw [hw]; exact lt_of hM)).trans hM
  have hr := range_g W M _ clock hMW
  have hM1 : (W.alloc (.mapIter (some M) clock #[] clock)).heap[M]? = some (.map (L.map KS.toE).toArray clock) := (Below.heap_alloc _ _ _ (lt_of hMW)).trans hMW
  have hI1 : (W.alloc (.mapIter (some M) clock #[] clock)).heap[W.heap.size]? = some (.mapIter (some M) clock #[] clock) := heap_alloc_new W _
  have hJ1 : J [] (W.alloc (.mapIter (some M) clock #[] clock)) := hJA [] W _ none h0 (World.grownBy_alloc W _ none) (fun r e => by cases e)
  have hm : M < n₀ := by rw [hw]; exact lt_of hM
  have HA := Lib.hid (And.intro hJA (And.intro hm (And.intro hMW (And.intro hY hB.size))))
  have HL := Lib.hid (And.intro hborn (And.intro hnd hN))
  obtain ⟨V, hV⟩ : ∃ V, V = W.alloc (.mapIter (some M) clock #[] clock) := ⟨_, rfl⟩
  rw [← hV] at hr hM1 hI1 hJ1
  have H1 := Lib.hid (And.intro hM1 (And.intro hI1 hJ1))
  clear hV hM1 hI1 hJ1 hMW hJA hm hY hB h0 hw hborn hnd hN
  refine callsIn_of_wp Tryz.func55 rfl trivial ?_
  simp only [Tryz.ntmps55, List.size_toArray, List.length_cons, List.length_nil, Nat.reduceAdd, Nat.reduceSub, Array.replicate_succ, Array.replicate_zero, List.push_toArray, List.append_toArray, List.nil_append, List.cons_append]
  gi_wp2
  clear hr
  gi_loopw [3] (fun _ wr => ∃ (ss : List Int) (seen : Array Nat), Hid (J ss wr) ∧ Hid (wr.heap[M]? = some (.map (L.map KS.toE).toArray clock)) ∧ Hid (wr.heap[W.heap.size]? = some (.mapIter (some M) clock seen clock)) ∧ Hid ((outK L seen).Perm ss))
    (fun _ wr => (L.filter fun x => !isIn (wr.iterSeen W.heap.size) x).length)
  case atStart => exact ⟨[], #[], Lib.hid H1.out.2.2, Lib.hid H1.out.1, Lib.hid H1.out.2.1, Lib.hid (by unfold outK; rw [List.filter_eq_nil_iff.2 (fun x _ => by simp [isIn])]; exact List.Perm.refl _)⟩
  case round =>
    obtain ⟨ss, seen, hJs, hMs, hI, hP⟩ := hrel
    rcases Mi.next_run (P := Tryz.prog) wr 0 W.heap.size M clock clock seen (L.map KS.toE).toArray clock hI.out hMs.out (fun x hx => by simp at hx; obtain ⟨a, e, c, hm, rfl⟩ := hx; exact HL.out.1 _ hm) (Nat.le_refl _) with ⟨h0, hrun⟩ | ⟨e, he, V1, hV1, hrun⟩
    · have hnx : ∀ ty, (Instr.next (.pointer (some ⟨W.heap.size, 0, none⟩)) false ty).run Tryz.prog wr = _ := fun _ => hrun
      have hall : outK L seen = L.map (·.1.1) := by
        refine outK_all L seen ?_
        have : (leftOf (L.map KS.toE).toArray seen).toList = [] := by rw [Array.size_eq_length_toList] at h0; exact List.length_eq_zero_iff.1 h0
        rw [left_toE] at this
        exact List.map_eq_nil_iff.1 this
      have HP : Hid (ss.Perm (L.map (·.1.1))) := Lib.hid (by have := hP.out.symm; rw [hall] at this; exact this)
      clear hall h0 hrun
      gi_wp2
      go_end0
      exact ⟨⟨_, rfl⟩, .inl ⟨_, HP.out, hJs.out⟩⟩
    · rw [left_toE] at he
      obtain ⟨x, hx, rfl⟩ := List.mem_map.1 he
      obtain ⟨hxl, hxs⟩ := List.mem_filter.1 hx
      have hxs' : isIn seen x = false := by simpa using hxs
      have hnx : ∀ ty, (Instr.next (.pointer (some ⟨W.heap.size, 0, none⟩)) false ty).run Tryz.prog wr = _ := fun _ => hrun
      have hg := set_grown hV1 W.heap.size (.mapIter (some M) clock (seen.push x.2) clock)
      have hi2 := set_here hV1 W.heap.size (.mapIter (some M) clock (seen.push x.2) clock) (lt_of hI.out)
      have hJ2 := HA.out.1 ss wr _ (some W.heap.size) hJs.out hg (fun r e => by cases e; exact ⟨Nat.le_refl _, _, hI.out, rfl⟩)
      have hM2 := (hg.block _ (lt_of hMs.out) (fun e => by have := lt_of HA.out.2.2.1; injection e with e; omega)).trans hMs.out
      have hen := Mi.entry_run (P := Tryz.prog) _ W.heap.size M clock seen (L.map KS.toE).toArray clock (KS.toE x) hi2 hM2 (by simp; exact ⟨x.1.1, x.1.2, x.2, hxl, rfl⟩) (by
        have : ((L.map KS.toE).toArray.toList.map (·.born)) = L.map (·.2) := by simp [Kit.toE]
        rw [this]; exact HL.out.2.1)
      change ∀ ty, _ = Result.ok _ ({ V1 with heap := V1.heap.setIfInBounds W.heap.size (.mapIter (some M) clock (seen.push x.2) clock) } : World) at hnx
      have hsz2 := lt_of hi2
      obtain ⟨w2, hw2⟩ : ∃ X : World, X = { V1 with heap := V1.heap.setIfInBounds W.heap.size (.mapIter (some M) clock (seen.push x.2) clock) } := ⟨_, rfl⟩
      rw [← hw2] at hnx hi2 hJ2 hM2 hen hsz2
      have hlen : ss.length < N := by
        have h1 := hP.out.length_eq
        have h2 := outK_lt L seen hxl hxs'
        have h3 := HL.out.2.2
        omega
      have hpp : (outK L (seen.push x.2)).Perm (ss ++ [x.1.1]) := by
        have h1 := (filter_push HL.out.2.1 x hxl (by simpa [isIn] using hxs')).map (·.1.1)
        exact h1.trans ((List.Perm.cons _ hP.out).trans (List.perm_append_singleton _ _).symm)
      have hms := left_dec L seen hxl hxs'
      have hms0 : wr.iterSeen W.heap.size = seen := iterSeen_of hI.out
      obtain ⟨⟨k, C⟩, born⟩ := x
      dsimp only at hpp hms
      unfold Kit.toE at hnx hen
      dsimp only at hnx hen hi2
      obtain ⟨fn, tmps, assign, body, hy, hR⟩ := HA.out.2.2.2.1 ss k w2 hJ2 hlen
      have HR := Lib.hid hR
      have H2 := Lib.hid (And.intro hi2 (And.intro hM2 (And.intro hpp (And.intro hms hms0))))
      clear hg hi2 hJ2 hM2 hw2 hR hsz2 hlen hpp hms hms0 hx hxl hxs hxs' hrun hV1 he
      gi_wp2
      refine HR.out.mono ?_
      rintro e W3 (⟨rfl, hJ3, hk3⟩ | ⟨rfl, hJx3⟩)
      · have H3 := Lib.hid (And.intro hJ3 hk3)
        clear hJ3 hk3
        gi_wp2
        go_roundw
        case rel => exact ⟨_, _, Lib.hid H3.out.1, Lib.hid ((H3.out.2.1.block _ HA.out.2.1).trans H2.out.2.1), Lib.hid (H3.out.2.2.same _ _ H2.out.1 rfl), Lib.hid H2.out.2.2.1⟩
        case measure => rw [iterSeen_of (H3.out.2.2.same _ _ H2.out.1 rfl), H2.out.2.2.2.2]; exact H2.out.2.2.2.1
      · have H3 := Lib.hid hJx3
        clear hJx3
        gi_wp2
        refine bodyPost_ret (results_none rfl _ _ _) rfl ?_
        exact ⟨⟨_, rfl⟩, .inr ⟨_, trivial, H3.out⟩⟩
theorem keysN_stops (n : Nat) (hn : 1 ≤ n) (Bl M N : Nat) (L : List Mu) (clock : Nat) (w w1 : World) (hM : w.heap[M]? = some (.map (L.map KS.toE).toArray clock)) (hborn : ∀ x ∈ L, x.2 < clock) (hnd : (L.map (·.2)).Nodup) (hN : L.length ≤ N) (hBl : w1.cell? ⟨Bl, 0, none⟩ = some (.map (some M))) (hl1 : Bl < w1.heap.size) (hB : Below w.heap.size w w1) :
    SeqStopsK Fence.wide n Tryz.prog GK #[.pointer (some ⟨Bl, 0, none⟩)] (fun x : Int => #[Value.int .u64 x]) (KpL w.heap.size) (fun ys => ys.Perm (L.map (·.1.1))) (fun _ => True) N w1 := fun l J Jx W hW hJ _ hY h0 =>
  keysN_in n hn l Bl w.heap.size M N L clock w rfl hM hborn hnd hN J Jx W hJ hY ((hW.cell (p := ⟨Bl, 0, none⟩) hl1).trans hBl) (hB.trans (hW.mono hB.size)) h0
end Go.Proofs.YtdljphbfbiganaaGreatDoor.Wa
