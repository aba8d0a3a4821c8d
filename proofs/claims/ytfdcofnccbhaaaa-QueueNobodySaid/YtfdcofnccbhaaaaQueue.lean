/- Queues of numbers: what each call makes of one. -/
import Derived.Test.YtfdcofnccbhaaaaCommon
import Derived.Shelf.Slices.Cells
namespace Go.Proofs.Ytfdcofnccbhaaaa.Queue
open Go.RowKit Go.Shelf

def laysDelete_ren : Go.Shelf.Ren := ⟨fun | 23 => 98 | n => n, fun | 22 => 66 | 3 => 3 | 4 => 4 | 0 => 0 | n => n, fun | n => n⟩
theorem laysDelete : Go.Proofs.Lays2.n23 Try.prog laysDelete_ren := {
  mixed := by kernel_rfl
  f23 := Try.func98.trans (congrArg some (by kernel_rfl))
  t0 := Try.underlying0
  a0 := Try.isAgg0
  z0 := Try.sizeOf0
  v0 := Try.zeroValue0
  t3 := Try.underlying3
  a3 := Try.isAgg3
  z3 := Try.sizeOf3
  v3 := Try.zeroValue3
  t4 := Try.underlying4
  a4 := Try.isAgg4
  z4 := Try.sizeOf4
  v4 := Try.zeroValue4
  t22 := Try.underlying66
  a22 := Try.isAgg66
  z22 := Try.sizeOf66
  v22 := Try.zeroValue66
  i3 := by kernel_rfl }

/-- A row behind stores into its first cells. -/
theorem heap_setCells {e : TypeId} {fr : Nat × Nat} (u : Nat) : ∀ (vs : List Value) (o : Nat) (w : World) (cur : Array Value), w.heap[u]? = some (.cells cur e fr) → o + vs.length ≤ cur.size →
    ∃ cur', (w.setCells u o vs).heap[u]? = some (.cells cur' e fr) ∧ cur'.size = cur.size ∧ cur'.toList = cur.toList.take o ++ vs ++ cur.toList.drop (o + vs.length) := by
  intro vs
  induction vs with
  | nil => intro o w cur h _; exact ⟨cur, h, rfl, by simp⟩
  | cons v r ih =>
    intro o w cur h hl
    simp only [List.length_cons] at hl
    have h1 : (w.setCell ⟨u, o, none⟩ v).heap[u]? = some (.cells (cur.setIfInBounds o v) e fr) := by simp [World.setCell, Array.getElem?_modify, h]
    obtain ⟨cur', h2, h3, h4⟩ := ih (o + 1) _ _ h1 (by simp; omega)
    refine ⟨cur', h2, by simpa using h3, ?_⟩
    rw [h4, Array.toList_setIfInBounds]
    have ho : o < cur.toList.length := by simp; omega
    rw [List.take_set, List.drop_set]
    simp only [List.length_cons]
    have e1 : (List.take (o + 1) cur.toList).set o v = List.take o cur.toList ++ [v] := by
      have hm : (List.take o cur.toList).length = o := by rw [List.length_take]; omega
      rw [List.take_succ_eq_append_getElem ho, List.set_append, if_neg (by omega), hm, Nat.sub_self]
      rfl
    rw [e1]
    simp only [show o < o + 1 + r.length from by omega, if_true, List.append_assoc, List.cons_append, List.nil_append, show o + (r.length + 1) = o + 1 + r.length from by omega]

/-- A row of the call's own behind stores into all its elements, cut to the first m of them. -/
theorem own_setCells {w : World} {base e n m cap u : Nat} {xs : List Value} (h : w.ownsRow base e 1 (.slice (some ⟨u, 0, none⟩) n cap) n xs) (hn : 0 < n) (vs : List Value) (hv : vs.length = n) (hm : m ≤ n) :
    (w.setCells u 0 vs).ownsRow base e 1 (.slice (some ⟨u, 0, none⟩) m cap) m (vs.take m) := by
  rcases h.2 with ⟨_, h0⟩ | ⟨g, cap', cur, hs, hg, hh, hc, hcm, hsz, htk⟩
  · omega
  · injection hs with hA _ hcc
    injection hA with hA
    injection hA with hA
    subst hA hcc
    obtain ⟨cur', h1, h2, h3⟩ := heap_setCells u vs 0 w cur hh (by omega)
    refine ⟨by simp; omega, Or.inr ⟨u, cap, cur', rfl, hg, h1, by omega, hcm, by omega, ?_⟩⟩
    rw [h3, List.take_zero, List.nil_append, Nat.mul_one, List.take_append_of_le_length (by omega)]

theorem heap_setCells_far (u : Nat) : ∀ (vs : List Value) (o : Nat) (w : World) (g : Nat), g ≠ u → (w.setCells u o vs).heap[g]? = w.heap[g]? := by
  intro vs
  induction vs with
  | nil => intro o w g _; rfl
  | cons v r ih => intro o w g hg; exact (ih (o + 1) _ g hg).trans (Below.heap_setCell _ _ _ _ hg)

theorem stores_below {B u : Nat} {a : World} (hu : B ≤ u) : ∀ (vs : List Value) (o : Nat) (w : World), Below B a w → Below B a (w.setCells u o vs) := by
  intro vs
  induction vs with
  | nil => intro o w h; exact h
  | cons v r ih => intro o w h; exact ih (o + 1) _ (h.setCell (p := ⟨u, o, none⟩) hu v)

theorem own_drewN {w : World} {base e size n : Nat} {v : Value} {xs : List Value} (h : w.ownsRow base e size v n xs) (k : Nat) : (w.drewN k).ownsRow base e size v n xs := h

def ints (xs : List Int) : List Value := xs.map (Value.int .i64)
theorem ints_at (xs : List Int) (j : Nat) (h : j < xs.length) : (ints xs)[j]? = some (.int .i64 (xs.getD j 0)) := by
  unfold ints
  rw [List.getElem?_map, List.getElem?_eq_getElem h, List.getD_eq_getElem?_getD, List.getElem?_eq_getElem h]; rfl

/-- At block g, of the call's own from B on, stands a queue with this room, and these numbers in it. -/
def Q (w : World) (B g : Nat) (most : Int) (xs : List Int) : Prop :=
  B ≤ g ∧ ∃ A c, w.heap[g]? = some (.cells #[.slice A xs.length c, .int .i64 most] 142 (0, 0)) ∧ w.ownsRow B 3 1 (.slice A xs.length c) xs.length (ints xs)

theorem cell_blk {w : World} {g : Nat} {cs : Array Value} {t : TypeId} (h : w.heap[g]? = some (.cells cs t (0, 0))) (i : Nat) : w.cell? ⟨g, i, none⟩ = cs[i]? := cell_of_row w g i cs t (0, 0) h
theorem free_blk {w : World} {g : Nat} {cs : Array Value} {t : TypeId} (h : w.heap[g]? = some (.cells cs t (0, 0))) (i : Nat) : w.frozen? ⟨g, i, none⟩ = false := by simp [World.frozen?, h]

theorem new_any (room : Int) (h0 : 1 ≤ room) (h1 : room ≤ 1024) (w : World) :
    Calls Try.prog 44 #[.int .i64 room] w fun e w' => e = .returned (.tuple #[.pointer (some ⟨w.heap.size, 0, none⟩), .int .i64 0]) ∧ Q w' w.heap.size w.heap.size room [] ∧ Below w.heap.size w w' ∧ w.heap.size < w'.heap.size := by
  go_enter Try.func44, Try.ntmps44
  go_wp2
  go_ret2
  exact ⟨rfl, ⟨Nat.le_refl _, none, 0, heap_alloc_new w _, World.ownsRow_nil _ _ _ _⟩, (Below.refl _ _).alloc (Nat.le_refl _) _, by simp⟩

theorem len_any {w : World} {B g : Nat} {most : Int} {xs : List Int} (h : Q w B g most xs) :
    Calls Try.prog 51 #[.pointer (some ⟨g, 0, none⟩)] w fun e w' => e = .returned (.int .i64 (xs.length : Int)) ∧ w' = w := by
  obtain ⟨_, A, c, hb, _⟩ := h
  have c0 := cell_blk hb 0
  simp at c0
  clear hb
  go_enter Try.func51, Try.ntmps51
  go_wp2
  go_ret
  exact ⟨rfl, rfl⟩

theorem room_any {w : World} {B g : Nat} {most : Int} {xs : List Int} (h : Q w B g most xs) (h0 : (xs.length : Int) ≤ most) (h1 : most ≤ 1024) :
    Calls Try.prog 52 #[.pointer (some ⟨g, 0, none⟩)] w fun e w' => e = .returned (.int .i64 (most - (xs.length : Int))) ∧ ∃ n, w' = w.drewN n := by
  obtain ⟨_, A, c, hb, _⟩ := h
  have c0 := cell_blk hb 0
  have c1 := cell_blk hb 1
  simp at c0 c1
  clear hb
  have hn : (0 : Int) ≤ (xs.length : Int) := by omega
  go_enter Try.func52, Try.ntmps52
  go_wp2
  go_quiet (fail)
  go_wp2
  go_ret
  exact ⟨rfl, _, rfl⟩

theorem peek_none {w : World} {B g : Nat} {most : Int} (h : Q w B g most []) :
    Calls Try.prog 48 #[.pointer (some ⟨g, 0, none⟩)] w fun e w' => e = .returned (.tuple #[.int .i64 0, .bool false]) ∧ w' = w := by
  go_enter Try.func48, Try.ntmps48
  go_wp2_with (go_at_call 51; ((with_reducible refine (len_any h).mono ?_); rintro e w' ⟨rfl, rfl⟩))
  go_ret2
  exact ⟨rfl, rfl⟩

theorem peek_any {w : World} {B g : Nat} {most x : Int} {xs : List Int} (h : Q w B g most (x :: xs)) :
    Calls Try.prog 48 #[.pointer (some ⟨g, 0, none⟩)] w fun e w' => e = .returned (.tuple #[.int .i64 x, .bool true]) ∧ w' = w := by
  obtain ⟨hB, A, c, hb, hown⟩ := h
  have h' : Q w B g most (x :: xs) := ⟨hB, A, c, hb, hown⟩
  obtain ⟨u, rfl, _⟩ := own_at hown (by simp)
  have c0 := cell_blk hb 0
  have hx := hown.cellAt 0 (by simp)
  have cx : w.cell? ⟨u, 0, none⟩ = some (.int .i64 x) := hx
  simp at c0
  have hne : (((x :: xs).length : Int) == 0) = false := by
    simp only [List.length_cons, beq_eq_false_iff_ne]; omega
  have hpos : (0 : Int) < ((x :: xs).length : Int) := by simp only [List.length_cons]; omega
  simp only [List.length_cons] at *
  clear hb hx
  go_enter Try.func48, Try.ntmps48
  go_wp2_with (go_at_call 51; ((with_reducible refine (len_any h').mono ?_); rintro e w' ⟨rfl, rfl⟩))
  go_ret2
  exact ⟨rfl, rfl⟩

theorem own_setother {w : World} {base e T n g i : Nat} {v u : Value} {cs : Array Value} {xs : List Value} (h : w.ownsRow base e 1 v n xs) (hb : w.heap[g]? = some (.cells cs T (0, 0))) (hT : T ≠ e) :
    (w.setCell ⟨g, i, none⟩ u).ownsRow base e 1 v n xs := by
  refine ⟨h.1, ?_⟩
  rcases h.2 with h2 | ⟨k, cap, cur, hv, hg, hh, r⟩
  · exact Or.inl h2
  · refine Or.inr ⟨k, cap, cur, hv, hg, (Below.heap_setCell _ _ _ _ fun e => ?_).trans hh, r⟩
    subst e
    rw [hh] at hb
    injection hb with hb
    injection hb with _ ht
    exact hT ht.symm

theorem set0_blk {w : World} {g : Nat} {a b u : Value} {t : TypeId} (h : w.heap[g]? = some (.cells #[a, b] t (0, 0))) : (w.setCell ⟨g, 0, none⟩ u).heap[g]? = some (.cells #[u, b] t (0, 0)) := by
  simp [World.setCell, Array.getElem?_modify, h]

theorem lt_blk {w : World} {g : Nat} {o : Obj} (h : w.heap[g]? = some o) : g < w.heap.size := by
  rcases Nat.lt_or_ge g w.heap.size with h1 | h1
  · exact h1
  · rw [Array.getElem?_eq_none h1] at h; cases h

theorem grown_blk {w w1 : World} {g base e T n : Nat} {v : Value} {cs : Array Value} {xs : List Value} (hb : w.heap[g]? = some (.cells cs T (0, 0))) (hg : w.grownBy w1 v.ownBlock) (hown : w.ownsRow base e 1 v n xs) (hT : T ≠ e) :
    w1.heap[g]? = some (.cells cs T (0, 0)) := by
  refine (hg.block g (lt_blk hb) fun heq => ?_).trans hb
  rcases hown.2 with ⟨rfl, _⟩ | ⟨k, cap, cur, rfl, _, hh, _⟩
  · simp [Value.ownBlock] at heq
  · simp [Value.ownBlock] at heq
    subst heq
    rw [hb] at hh
    injection hh with hh
    injection hh with _ ht
    exact hT ht

theorem infoI : (Try.prog.info? 3).map (fun i => (i.zero, i.size, i.bytes)) = some (some (.int .i64 0), 1, 8) := by kernel_rfl

theorem put_full {w : World} {B g : Nat} {most : Int} {xs : List Int} (h : Q w B g most xs) (h0 : (xs.length : Int) = most) (h1 : most ≤ 1024) (y : Int) :
    Calls Try.prog 45 #[.pointer (some ⟨g, 0, none⟩), .int .i64 y] w fun e w' => e = .returned (.int .i64 6) ∧ ∃ n, w' = w.drewN n := by
  have hr := room_any h (by omega) h1
  rw [show most - (xs.length : Int) = 0 from by omega] at hr
  have HR := Lib.hid hr
  clear hr h0 h
  go_enter Try.func45, Try.ntmps45
  go_wp2_with (go_at_call 52; refine HR.out.mono ?_; rintro e w' ⟨rfl, n, rfl⟩)
  go_ret
  exact ⟨rfl, _, rfl⟩

set_option maxHeartbeats 1000000 in
theorem put_any {w : World} {B g : Nat} {most : Int} {xs : List Int} (h : Q w B g most xs) (h0 : (xs.length : Int) < most) (h1 : most ≤ 1024) (y : Int) :
    Calls Try.prog 45 #[.pointer (some ⟨g, 0, none⟩), .int .i64 y] w fun e w' => e = .returned (.int .i64 0) ∧ Q w' B g most (xs ++ [y]) ∧ Below B w w' ∧ w.heap.size ≤ w'.heap.size := by
  obtain ⟨i0, hi, hz0, hz1, hz2⟩ := info_parts infoI
  have hr := room_any h (by omega) h1
  have hne : ((most - (xs.length : Int)) == 0) = false := by rw [beq_eq_false_iff_ne]; omega
  have HR := Lib.hid hr
  clear hr
  obtain ⟨hB, A, c, hb, hown⟩ := h
  have hlt := lt_blk hb
  go_enter Try.func45, Try.ntmps45
  go_wp2_with fail
  refine HR.out.mono ?_
  rintro e w' ⟨rfl, n, rfl⟩
  have hb1 : (w.drewN n).heap[g]? = some (.cells #[.slice A xs.length c, .int .i64 most] 142 (0, 0)) := hb
  have c0 := cell_blk hb1 0
  simp at c0
  have HB := Lib.hid hb1
  clear hb hb1 HR
  go_wp2_with (at_builtin; refine wpList_append_own _ rfl _ _ 66 rfl B 3 i0 (.int .i64 0) 1 8 Try.underlying66 hi hz0 hz1 hz2 rfl (by decide) _ _ _ rfl ((own_drewN hown n).alloc _) ⟨w.heap.size, 0, none⟩ 1 1 [.int .i64 y] rfl rfl (cell_one_new _ _ _) (one_one rfl) (by unfold maxLen; omega) (by omega) (by simp; omega) ?_)
  intro v1 w1 hown1 hg1 _
  have hb2 : ((w.drewN n).alloc (.cells #[.int .i64 y] 3)).heap[g]? = some (.cells #[.slice A xs.length c, .int .i64 most] 142 (0, 0)) := (Below.heap_alloc _ _ _ (by exact hlt)).trans HB.out
  have hb3 := grown_blk hb2 hg1 ((own_drewN hown n).alloc _) (by decide)
  have hbel : Below B w w1 := (((below_drewN (Below.refl B w) n).alloc (by simp; omega) _).grown hg1 (by simp; omega) (own_ge hown))
  have hsz : w.heap.size ≤ w1.heap.size := by have := hg1.size; simp at this; omega
  obtain ⟨A1, k1, rfl⟩ := own_form hown1
  have d0 := cell_blk hb3 0
  have f0 := free_blk hb3 0
  simp at d0
  have H3 := Lib.hid (And.intro hb3 (And.intro hbel hsz))
  clear hb2 hb3 hbel hsz hg1
  go_wp2
  go_ret
  refine ⟨rfl, ⟨hB, A1, k1, ?_, ?_⟩, H3.out.2.1.setCell (p := ⟨g, 0, none⟩) hB _, ?_⟩
  · rw [List.length_append, List.length_singleton]
    exact set0_blk H3.out.1
  · rw [List.length_append, List.length_singleton]
    have e : ints (xs ++ [y]) = ints xs ++ [.int .i64 y] := by simp [ints]
    rw [e]
    exact own_setother hown1 H3.out.1 (by decide)
  · have := H3.out.2.2
    simpa [World.setCell] using this

theorem get_none {w : World} {B g : Nat} {most : Int} (h : Q w B g most []) :
    Calls Try.prog 49 #[.pointer (some ⟨g, 0, none⟩)] w fun e w' => e = .returned (.tuple #[.int .i64 0, .bool false]) ∧ w' = w := by
  go_enter Try.func49, Try.ntmps49
  go_wp2_with (go_at_call 48; ((with_reducible refine (peek_none h).mono ?_); rintro e w' ⟨rfl, rfl⟩))
  go_ret2
  exact ⟨rfl, rfl⟩

set_option maxHeartbeats 1000000 in
theorem get_any {w : World} {B g : Nat} {most x : Int} {xs : List Int} (h : Q w B g most (x :: xs)) :
    Calls Try.prog 49 #[.pointer (some ⟨g, 0, none⟩)] w fun e w' => e = .returned (.tuple #[.int .i64 x, .bool true]) ∧ Q w' B g most xs ∧ Below B w w' ∧ w.heap.size ≤ w'.heap.size := by
  have hp := Lib.hid (peek_any h)
  obtain ⟨hB, A, c, hb, hown⟩ := h
  obtain ⟨u, rfl, hu⟩ := own_at hown (by simp)
  have c0 := cell_blk hb 0
  simp at c0
  have hcm : (x :: xs).length ≤ c ∧ c ≤ 9223372036854775807 := by
    rcases hown.2 with ⟨_, h0⟩ | ⟨k, cap, cur, hv, _, _, h1, h2, _⟩
    · simp at h0
    · injection hv with _ _ hc
      subst hc
      unfold maxLen at h2
      omega
  have hgu : g ≠ u := by
    rintro rfl
    rcases hown.2 with ⟨hv, _⟩ | ⟨k, cap, cur, hv, _, hh, _⟩
    · simp at hv
    · injection hv with hA
      injection hA with hA
      injection hA with hA
      subst hA
      rw [hh] at hb
      injection hb with hb
      injection hb with _ ht
      exact absurd ht (by decide)
  have hd0 := Any.slices_Delete_int_cells laysDelete u 0 (x :: xs).length c 0 1 (x :: xs) w (Nat.le_refl _) hcm.1 hcm.2 (by decide) (by simp) (fun j hj => by
    have := hown.cellAt j (by omega)
    rw [Nat.zero_add, this]
    exact ints_at _ _ hj) (fun j _ => by rw [Nat.zero_add]; exact hown.frozenAt j)
  have hd : Calls Try.prog 98 #[.slice (some ⟨u, 0, none⟩) (xs.length + 1) c, .int .i64 0, .int .i64 1] w fun e w' => e = .returned (.slice (some ⟨u, 0, none⟩) xs.length c) ∧ ∃ q, w' = (w.drewN q).setCells u 0 (ints (xs ++ [0])) := by
    have e : (List.take (x :: xs).length (x :: xs)).take 0 ++ (List.take (x :: xs).length (x :: xs)).drop 1 ++ List.replicate (1 - 0) 0 = xs ++ [0] := by simp
    rw [e] at hd0
    exact hd0
  clear hd0
  have HD := Lib.hid hd
  have HB := Lib.hid (And.intro hb (And.intro hown (And.intro hgu hu)))
  clear hd hb hown hgu hu hcm
  go_enter Try.func49, Try.ntmps49
  go_wp2_with (go_at_call 48; (refine hp.out.mono ?_; rintro e w' ⟨rfl, rfl⟩))
  refine HD.out.mono ?_
  rintro e w2 ⟨rfl, q, rfl⟩
  have hb2 : ((w'.drewN q).setCells u 0 (ints (xs ++ [0]))).heap[g]? = some (.cells #[.slice (some ⟨u, 0, none⟩) (xs.length + 1) c, .int .i64 most] 142 (0, 0)) := by
    rw [heap_setCells_far u _ 0 _ _ HB.out.2.2.1]
    exact HB.out.1
  have hown2 := own_setCells (m := xs.length) (own_drewN HB.out.2.1 q) (by simp) (ints (xs ++ [0])) (by simp [ints]) (by simp)
  have e : (ints (xs ++ [0])).take xs.length = ints xs := by simp [ints]
  rw [e] at hown2
  have hbel : Below B w' ((w'.drewN q).setCells u 0 (ints (xs ++ [0]))) := stores_below HB.out.2.2.2 _ 0 _ (below_drewN (Below.refl B w') q)
  generalize (w'.drewN q).setCells u 0 (ints (xs ++ [0])) = w3 at *
  have d0 := cell_blk hb2 0
  have f0 := free_blk hb2 0
  simp at d0
  have H3 := Lib.hid (And.intro hb2 (And.intro hown2 hbel))
  clear hb2 hown2 hbel HB HD e
  go_wp2
  go_ret2
  refine ⟨rfl, ⟨hB, some ⟨u, 0, none⟩, c, set0_blk H3.out.1, own_setother H3.out.2.1 H3.out.1 (by decide)⟩, H3.out.2.2.setCell (p := ⟨g, 0, none⟩) hB _, ?_⟩
  have := H3.out.2.2.size
  simpa [World.setCell] using this
end Go.Proofs.Ytfdcofnccbhaaaa.Queue
