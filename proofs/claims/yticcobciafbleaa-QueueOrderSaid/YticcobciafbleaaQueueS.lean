/- Queues of texts: what each call makes of one, and what it leaves as it was. -/
import Derived.Test.YticcobciafbleaaRows2
import Derived.Test.YticcobciafbleaaQueueTwo
namespace Go.Proofs.Yticcobciafbleaa.QueueS
open Go.RowKit Go.Shelf Queue

def strs (xs : List ByteArray) : List Value := xs.map Value.string
theorem infoS : (Try.prog.info? 9).map (fun i => (i.zero, i.size, i.bytes)) = some (some (.string ⟨#[]⟩), 1, 16) := by kernel_rfl
def laysDeleteS_ren : Go.Shelf.Ren := ⟨fun | 24 => 95 | n => n, fun | 24 => 22 | 3 => 3 | 4 => 4 | 9 => 9 | 0 => 0 | n => n, fun | n => n⟩
theorem laysDeleteS : Go.Proofs.Lays2.n24 Try.prog laysDeleteS_ren := {
  mixed := by kernel_rfl
  f24 := Try.func95.trans (congrArg some (by kernel_rfl))
  t0 := Try.underlying0
  a0 := Try.isAgg0
  z0 := Try.sizeOf0
  v0 := Try.zeroValue0
  t3 := Try.underlying3
  a3 := Try.isAgg3
  z3 := Try.sizeOf3
  v3 := Try.zeroValue3
  t4 := Try.underlying4
  a4 := Try.isAgg4
  z4 := Try.sizeOf4
  v4 := Try.zeroValue4
  t9 := Try.underlying9
  a9 := Try.isAgg9
  z9 := Try.sizeOf9
  v9 := Try.zeroValue9
  t24 := Try.underlying22
  a24 := Try.isAgg22
  z24 := Try.sizeOf22
  v24 := Try.zeroValue22
  i9 := by kernel_rfl }

theorem strs_at (xs : List ByteArray) (j : Nat) (h : j < xs.length) : (strs xs)[j]? = some (.string (xs.getD j .empty)) := by
  unfold strs
  rw [List.getElem?_map, List.getElem?_eq_getElem h, List.getD_eq_getElem?_getD, List.getElem?_eq_getElem h]; rfl
theorem strs_all (xs : List ByteArray) : (Lib.strsOf (fun i => xs.getD i .empty) xs.length).map encStr = strs xs := by
  apply List.ext_getElem?
  intro j
  by_cases h : j < xs.length
  · rw [strs_at xs j h]
    simp [Lib.strsOf, encStr, h]
  · rw [List.getElem?_eq_none (by simp [Lib.strsOf]; omega), List.getElem?_eq_none (by simp [strs]; omega)]
theorem strs_del (x : ByteArray) (xs : List ByteArray) : ((Lib.strsOf (fun i => (x :: xs).getD i .empty) (x :: xs).length).take 0 ++ (Lib.strsOf (fun i => (x :: xs).getD i .empty) (x :: xs).length).drop 1 ++ List.replicate (1 - 0) []).map encStr = strs (xs ++ [.empty]) := by
  rw [List.map_append, List.map_append, List.map_drop, strs_all]
  simp [strs, encStr]
  rfl

/-- At block g, of the call's own from B on, stands a queue with this room, and these numbers in it. -/
def Q (w : World) (B g : Nat) (most : Int) (xs : List ByteArray) : Prop :=
  B ≤ g ∧ ∃ A c, w.heap[g]? = some (.cells #[.slice A xs.length c, .int .i64 most] 139 (0, 0)) ∧ w.ownsRow B 9 1 (.slice A xs.length c) xs.length (strs xs)

theorem new_any (room : Int) (h0 : 1 ≤ room) (h1 : room ≤ 1024) (w : World) :
    Calls Try.prog 16 #[.int .i64 room] w fun e w' => e = .returned (.tuple #[.pointer (some ⟨w.heap.size, 0, none⟩), .int .i64 0]) ∧ Q w' w.heap.size w.heap.size room [] ∧ Below w.heap.size w w' ∧ w.heap.size < w'.heap.size := by
  go_enter Try.func16, Try.ntmps16
  go_wp2
  go_ret2
  exact ⟨rfl, ⟨Nat.le_refl _, none, 0, heap_alloc_new w _, World.ownsRow_nil _ _ _ _⟩, (Below.refl _ _).alloc (Nat.le_refl _) _, by simp⟩

theorem len_any {w : World} {B g : Nat} {most : Int} {xs : List ByteArray} (h : Q w B g most xs) :
    Calls Try.prog 19 #[.pointer (some ⟨g, 0, none⟩)] w fun e w' => e = .returned (.int .i64 (xs.length : Int)) ∧ w' = w := by
  obtain ⟨_, A, c, hb, _⟩ := h
  have c0 := cell_blk hb 0
  simp at c0
  clear hb
  go_enter Try.func19, Try.ntmps19
  go_wp2
  go_ret
  exact ⟨rfl, rfl⟩

theorem room_any {w : World} {B g : Nat} {most : Int} {xs : List ByteArray} (h : Q w B g most xs) (h0 : (xs.length : Int) ≤ most) (h1 : most ≤ 1024) :
    Calls Try.prog 93 #[.pointer (some ⟨g, 0, none⟩)] w fun e w' => e = .returned (.int .i64 (most - (xs.length : Int))) ∧ ∃ n, w' = w.drewN n := by
  obtain ⟨_, A, c, hb, _⟩ := h
  have c0 := cell_blk hb 0
  have c1 := cell_blk hb 1
  simp at c0 c1
  clear hb
  have hn : (0 : Int) ≤ (xs.length : Int) := by omega
  go_enter Try.func93, Try.ntmps93
  go_wp2
  go_quiet (fail)
  go_wp2
  go_ret
  exact ⟨rfl, _, rfl⟩

theorem peek_none {w : World} {B g : Nat} {most : Int} (h : Q w B g most []) :
    Calls Try.prog 94 #[.pointer (some ⟨g, 0, none⟩)] w fun e w' => e = .returned (.tuple #[.string ⟨#[]⟩, .bool false]) ∧ w' = w := by
  go_enter Try.func94, Try.ntmps94
  go_wp2_with (go_at_call 19; ((with_reducible refine (len_any h).mono ?_); rintro e w' ⟨rfl, rfl⟩))
  go_ret2
  exact ⟨rfl, rfl⟩

theorem peek_any {w : World} {B g : Nat} {most : Int} {x : ByteArray} {xs : List ByteArray} (h : Q w B g most (x :: xs)) :
    Calls Try.prog 94 #[.pointer (some ⟨g, 0, none⟩)] w fun e w' => e = .returned (.tuple #[.string x, .bool true]) ∧ w' = w := by
  obtain ⟨hB, A, c, hb, hown⟩ := h
  have h' : Q w B g most (x :: xs) := ⟨hB, A, c, hb, hown⟩
  obtain ⟨u, rfl, _⟩ := own_at hown (by simp)
  have c0 := cell_blk hb 0
  have hx := hown.cellAt 0 (by simp)
  have cx : w.cell? ⟨u, 0, none⟩ = some (.string x) := hx
  simp at c0
  have hne : (((x :: xs).length : Int) == 0) = false := by
    simp only [List.length_cons, beq_eq_false_iff_ne]; omega
  have hpos : (0 : Int) < ((x :: xs).length : Int) := by simp only [List.length_cons]; omega
  simp only [List.length_cons] at *
  clear hb hx
  go_enter Try.func94, Try.ntmps94
  go_wp2_with (go_at_call 19; ((with_reducible refine (len_any h').mono ?_); rintro e w' ⟨rfl, rfl⟩))
  go_ret2
  exact ⟨rfl, rfl⟩

theorem put_full {w : World} {B g : Nat} {most : Int} {xs : List ByteArray} (h : Q w B g most xs) (h0 : (xs.length : Int) = most) (h1 : most ≤ 1024) (y : ByteArray) :
    Calls Try.prog 17 #[.pointer (some ⟨g, 0, none⟩), .string y] w fun e w' => e = .returned (.int .i64 6) ∧ ∃ n, w' = w.drewN n := by
  have hr := room_any h (by omega) h1
  rw [show most - (xs.length : Int) = 0 from by omega] at hr
  have HR := Lib.hid hr
  clear hr h0 h
  go_enter Try.func17, Try.ntmps17
  go_wp2_with (go_at_call 93; refine HR.out.mono ?_; rintro e w' ⟨rfl, n, rfl⟩)
  go_ret
  exact ⟨rfl, _, rfl⟩

abbrev TS : Nat := 139
/-- At block g stands a queue of texts, its row v. -/
def Qs (w : World) (B g : Nat) (most : Int) (xs : List ByteArray) (v : Value) : Prop :=
  B ≤ g ∧ w.heap[g]? = some (.cells #[v, .int .i64 most] TS (0, 0)) ∧ w.ownsRow B 9 1 v xs.length (strs xs)
theorem Qs.toQ {w : World} {B g : Nat} {most : Int} {xs : List ByteArray} {v : Value} (h : Qs w B g most xs v) : Q w B g most xs := by
  obtain ⟨hB, hb, hown⟩ := h
  obtain ⟨A, c, rfl⟩ := own_form hown
  exact ⟨hB, A, c, hb, hown⟩

set_option maxRecDepth 20000 in
set_option maxHeartbeats 1000000 in
theorem put_v {w : World} {B g : Nat} {most : Int} {xs : List ByteArray} {v : Value} (h : Qs w B g most xs v) (h0 : (xs.length : Int) < most) (h1 : most ≤ 1024) (y : ByteArray) :
    Calls Try.prog 17 #[.pointer (some ⟨g, 0, none⟩), .string y] w fun e w' => e = .returned (.int .i64 0) ∧ ∃ v', Qs w' B g most (xs ++ [y]) v' ∧ Fr g v.ownBlock w w' ∧ New w v.ownBlock v'.ownBlock ∧ Below B w w' := by
  obtain ⟨i0, hi, hz0, hz1, hz2⟩ := info_parts infoS
  have hr := room_any h.toQ (by omega) h1
  have hne : ((most - (xs.length : Int)) == 0) = false := by rw [beq_eq_false_iff_ne]; omega
  have HR := Lib.hid hr
  clear hr
  obtain ⟨hB, hb, hown⟩ := h
  have hlt := lt_blk hb
  obtain ⟨A, c, rfl⟩ := own_form hown
  go_enter Try.func17, Try.ntmps17
  go_wp2_with fail
  refine HR.out.mono ?_
  rintro e w' ⟨rfl, n, rfl⟩
  have hb1 : (w.drewN n).heap[g]? = some (.cells #[.slice A xs.length c, .int .i64 most] TS (0, 0)) := hb
  have c0 := cell_blk hb1 0
  simp at c0
  have HB := Lib.hid hb1
  clear hb hb1 HR
  go_wp2_with (at_builtin; refine wpList_append_own_at _ rfl _ _ 22 rfl B 9 i0 (.string ⟨#[]⟩) 1 16 Try.underlying22 hi hz0 hz1 hz2 rfl (by decide) _ _ _ rfl ((own_drewN hown n).alloc _) ⟨w.heap.size, 0, none⟩ 1 1 [.string y] rfl rfl (cell_one_new _ _ _) (one_one rfl) (by unfold maxLen; omega) (by omega) (by simp; omega) ?_)
  intro v1 w1 hown1 hg1 _ hnew
  have hb2 : ((w.drewN n).alloc (.cells #[.string y] 9)).heap[g]? = some (.cells #[.slice A xs.length c, .int .i64 most] TS (0, 0)) := (Below.heap_alloc _ _ _ (by exact hlt)).trans HB.out
  have hb3 := grown_blk hb2 hg1 ((own_drewN hown n).alloc _) (by decide)
  have hbel : Below B w w1 := (((below_drewN (Below.refl B w) n).alloc (by simp; omega) _).grown hg1 (by simp; omega) (own_ge hown))
  have hfr : Fr g (Value.slice A xs.length c).ownBlock w w1 := Fr.grown (Fr.alloc (w' := w.drewN n) (Fr.refl g _ w) _) hg1
  obtain ⟨A1, k1, rfl⟩ := own_form hown1
  have d0 := cell_blk hb3 0
  have f0 := free_blk hb3 0
  simp at d0
  have hn' : New w (Value.slice A xs.length c).ownBlock (Value.slice A1 (xs.length + 1) k1).ownBlock := by
    rcases hnew with e | e
    · exact .inl e
    · exact .inr (.inr ⟨_, e, by first | omega | simp⟩)
  have H3 := Lib.hid (And.intro hb3 (And.intro hbel (And.intro hfr hn')))
  clear hb2 hb3 hbel hg1 hfr hn' hnew
  go_wp2
  go_ret
  refine ⟨rfl, _, ⟨hB, set0_blk H3.out.1, ?_⟩, H3.out.2.2.1.set _, H3.out.2.2.2, H3.out.2.1.setCell (p := ⟨g, 0, none⟩) hB _⟩
  rw [List.length_append, List.length_singleton]
  have e : strs (xs ++ [y]) = strs xs ++ [.string y] := by simp [strs]
  rw [e]
  exact own_setother hown1 H3.out.1 (by decide)

set_option maxHeartbeats 1000000 in
theorem get_v {w : World} {B g : Nat} {most : Int} {x : ByteArray} {xs : List ByteArray} {v : Value} (h : Qs w B g most (x :: xs) v) :
    Calls Try.prog 18 #[.pointer (some ⟨g, 0, none⟩)] w fun e w' => e = .returned (.tuple #[.string x, .bool true]) ∧ ∃ v', Qs w' B g most xs v' ∧ Fr g v.ownBlock w w' ∧ New w v.ownBlock v'.ownBlock ∧ Below B w w' := by
  have hp := Lib.hid (peek_any h.toQ)
  obtain ⟨hB, hb, hown⟩ := h
  obtain ⟨A, c, rfl⟩ := own_form hown
  obtain ⟨u, rfl, hu⟩ := own_at hown (by simp)
  have c0 := cell_blk hb 0
  simp at c0
  have hcm : (x :: xs).length ≤ c ∧ c ≤ 9223372036854775807 := by
    rcases hown.2 with ⟨_, h0⟩ | ⟨k, cap, cur, hv, _, _, h1, h2, _⟩
    · simp at h0
    · injection hv with _ _ hc
      subst hc
      unfold maxLen at h2
      omega
  have hgu : g ≠ u := fun e => by
    obtain ⟨cs, fr, ho⟩ := own_type hown rfl (e ▸ hb)
    injection ho with _ ht
    exact absurd ht (by decide)
  have hd0 := Any.slices_Delete_string_cells laysDeleteS u 0 (x :: xs).length c 0 1 (fun i => (x :: xs).getD i .empty) w hcm.1 hcm.2 (by decide) (by simp) (fun j hj => by
    have := hown.cellAt j (by omega)
    rw [Nat.zero_add, this]
    exact strs_at _ _ hj) (fun j _ => by rw [Nat.zero_add]; exact hown.frozenAt j)
  have hd : Calls Try.prog 95 #[.slice (some ⟨u, 0, none⟩) (xs.length + 1) c, .int .i64 0, .int .i64 1] w fun e w' => e = .returned (.slice (some ⟨u, 0, none⟩) xs.length c) ∧ ∃ q, w' = (w.drewN q).setCells u 0 (strs (xs ++ [.empty])) := by
    rw [strs_del x xs] at hd0
    exact hd0
  clear hd0
  have HD := Lib.hid hd
  have HB := Lib.hid (And.intro hb (And.intro hown (And.intro hgu hu)))
  clear hd hb hown hgu hu hcm
  go_enter Try.func18, Try.ntmps18
  go_wp2_with (go_at_call 94; (refine hp.out.mono ?_; rintro e w' ⟨rfl, rfl⟩))
  refine HD.out.mono ?_
  rintro e w2 ⟨rfl, q, rfl⟩
  have hb2 : ((w'.drewN q).setCells u 0 (strs (xs ++ [.empty]))).heap[g]? = some (.cells #[.slice (some ⟨u, 0, none⟩) (xs.length + 1) c, .int .i64 most] TS (0, 0)) := by
    rw [heap_setCells_far u _ 0 _ _ HB.out.2.2.1]
    exact HB.out.1
  have hown2 := own_setCells (m := xs.length) (own_drewN HB.out.2.1 q) (by simp) (strs (xs ++ [.empty])) (by simp [strs]) (by simp)
  have e : (strs (xs ++ [.empty])).take xs.length = strs xs := by simp [strs]
  rw [e] at hown2
  have hbel : Below B w' ((w'.drewN q).setCells u 0 (strs (xs ++ [.empty]))) := stores_below HB.out.2.2.2 _ 0 _ (below_drewN (Below.refl B w') q)
  have hfr : Fr g (Value.slice (some ⟨u, 0, none⟩) (xs.length + 1) c).ownBlock w' ((w'.drewN q).setCells u 0 (strs (xs ++ [.empty]))) := Fr.stores (w' := w'.drewN q) (Fr.refl g _ w') rfl _
  generalize (w'.drewN q).setCells u 0 (strs (xs ++ [.empty])) = w3 at *
  have d0 := cell_blk hb2 0
  have f0 := free_blk hb2 0
  simp at d0
  have H3 := Lib.hid (And.intro hb2 (And.intro hown2 (And.intro hbel hfr)))
  clear hb2 hown2 hbel hfr HB HD e
  go_wp2
  go_ret2
  exact ⟨rfl, _, ⟨hB, set0_blk H3.out.1, own_setother H3.out.2.1 H3.out.1 (by decide)⟩, H3.out.2.2.2.set _, .inl rfl, H3.out.2.2.1.setCell (p := ⟨g, 0, none⟩) hB _⟩

end Go.Proofs.Yticcobciafbleaa.QueueS
