/- Two queues beside each other: what each call leaves as it was. -/
import Derived.Test.YticcobciafbleaaQueue
import Derived.Test.YticcobciafbleaaSame
import Derived.Shelf.Slices.Clone
namespace Go.Proofs.Yticcobciafbleaa.Queue
open Go.RowKit Go.Shelf

def laysClone_ren : Go.Shelf.Ren := ⟨fun | 15 => 122 | n => n, fun | 22 => 45 | 3 => 3 | 4 => 4 | n => n, fun | n => n⟩
theorem laysClone : Go.Proofs.Lays2.n15 Try.prog laysClone_ren := {
  mixed := by kernel_rfl
  f15 := Try.func122.trans (congrArg some (by kernel_rfl))
  t3 := Try.underlying3
  a3 := Try.isAgg3
  z3 := Try.sizeOf3
  v3 := Try.zeroValue3
  t4 := Try.underlying4
  a4 := Try.isAgg4
  z4 := Try.sizeOf4
  v4 := Try.zeroValue4
  t22 := Try.underlying45
  a22 := Try.isAgg45
  z22 := Try.sizeOf45
  v22 := Try.zeroValue45
  i3 := by kernel_rfl }

abbrev TQ : Nat := 178
abbrev TR : Nat := 114

/-- At block g stands a queue of type T, its row v. -/
def Qv (T : TypeId) (w : World) (B g : Nat) (most : Int) (xs : List Int) (v : Value) : Prop :=
  B ≤ g ∧ w.heap[g]? = some (.cells #[v, .int .i64 most] T (0, 0)) ∧ w.ownsRow B 3 1 v xs.length (ints xs)

/-- All that stood stands as it was, but block g and the row's. -/
def Fr (g : Nat) (row : Option Nat) (w w' : World) : Prop := w.heap.size ≤ w'.heap.size ∧ ∀ (j : Nat) (o : Obj), j ≠ g → row ≠ some j → w.heap[j]? = some o → w'.heap[j]? = some o
/-- A row is the old one, none, or a new one. -/
def New (w : World) (row row' : Option Nat) : Prop := row' = row ∨ row' = none ∨ ∃ k, row' = some k ∧ w.heap.size ≤ k

section
variable {w w' : World} {B g g2 : Nat} {most most2 : Int} {xs ys : List Int} {v u : Value} {T T2 : TypeId} {row : Option Nat}
theorem Qv.toQ (h : Qv TQ w B g most xs v) : Q w B g most xs := by
  obtain ⟨hB, hb, hown⟩ := h
  obtain ⟨A, c, rfl⟩ := own_form hown
  exact ⟨hB, A, c, hb, hown⟩
theorem own_type {base e n k : Nat} {o : Obj} {zs : List Value} (h : w.ownsRow base e 1 v n zs) (hk : v.ownBlock = some k) (hb : w.heap[k]? = some o) : ∃ cs fr, o = .cells cs e fr := by
  rcases h.2 with ⟨rfl, _⟩ | ⟨g', cap, cur, rfl, _, hh, _⟩
  · cases hk
  · injection hk with hk
    subst hk
    rw [hh] at hb
    injection hb with hb
    exact ⟨_, _, hb.symm⟩
theorem Qv.apart (h : Qv T w B g most xs v) {base n k : Nat} {zs : List Value} (hu : w.ownsRow base 3 1 u n zs) (hT : T ≠ 3) (hk : u.ownBlock = some k) : k ≠ g := by
  rintro rfl
  obtain ⟨cs, fr, ho⟩ := own_type hu hk h.2.1
  injection ho with _ ht
  exact hT ht
theorem Qv.kept (h : Qv T w B g most xs v) (h2 : Qv T2 w B g2 most2 ys u) (hT : T ≠ 3) (hT2 : T2 ≠ 3) (hne : g ≠ g2) (hap : v.ownBlock = none ∨ v.ownBlock ≠ u.ownBlock) (hf : Fr g2 u.ownBlock w w') : Qv T w' B g most xs v := by
  refine ⟨h.1, hf.2 g _ hne (fun e => h.apart h2.2.2 hT e rfl) h.2.1, h.2.2.1, ?_⟩
  rcases h.2.2.2 with h3 | ⟨k, cap, cur, rfl, hg, hh, r⟩
  · exact .inl h3
  · refine .inr ⟨k, cap, cur, rfl, hg, hf.2 k _ (h2.apart h.2.2 hT2 rfl) (fun e => ?_) hh, r⟩
    rcases hap with ha | ha
    · cases ha
    · exact ha (by rw [e]; rfl)
theorem New.keeps {row' row2 : Option Nat} (hn : New w row row') (hlt : ∀ k, row2 = some k → k < w.heap.size) (hap : row2 = none ∨ row2 ≠ row) : row2 = none ∨ row2 ≠ row' := by
  rcases hn with rfl | rfl | ⟨k, rfl, hk⟩
  · exact hap
  · cases row2 with
    | none => exact .inl rfl
    | some k => exact .inr (by simp)
  · cases row2 with
    | none => exact .inl rfl
    | some j => refine .inr fun e => ?_; injection e with e; subst e; have := hlt j rfl; omega
theorem Fr.refl (g : Nat) (row : Option Nat) (w : World) : Fr g row w w := ⟨Nat.le_refl _, fun _ _ _ _ h => h⟩
theorem Fr.alloc (h : Fr g row w w') (o : Obj) : Fr g row w (w'.alloc o) := ⟨by have := h.1; simp; omega, fun j x a b c => by
  have := h.2 j x a b c
  exact (Below.heap_alloc _ _ _ (lt_blk this)).trans this⟩
theorem Fr.set (h : Fr g row w w') {i : Nat} (x : Value) : Fr g row w (w'.setCell ⟨g, i, none⟩ x) := ⟨by simpa [World.setCell] using h.1, fun j y a b c => (Below.heap_setCell _ _ _ _ (by exact a)).trans (h.2 j y a b c)⟩
theorem Fr.grown {w2 : World} (h : Fr g row w w') (hg : w'.grownBy w2 row) : Fr g row w w2 := ⟨Nat.le_trans h.1 hg.size, fun j y a b c => by
  have := h.2 j y a b c
  exact (hg.block j (lt_blk this) (fun e => b e.symm)).trans this⟩
theorem Fr.stores (h : Fr g row w w') {k : Nat} (hk : row = some k) (vs : List Value) : Fr g row w (w'.setCells k 0 vs) := ⟨Nat.le_trans h.1 (stores_below (Nat.zero_le k) vs 0 _ (Below.refl 0 w')).size, fun j y a b c => (heap_setCells_far k vs 0 w' j (fun e => b (by rw [hk, e]))).trans (h.2 j y a b c)⟩
end

set_option maxRecDepth 20000 in
set_option maxHeartbeats 1000000 in
theorem put_v {w : World} {B g : Nat} {most : Int} {xs : List Int} {v : Value} (h : Qv TQ w B g most xs v) (h0 : (xs.length : Int) < most) (h1 : most ≤ 1024) (y : Int) :
    Calls Try.prog 70 #[.pointer (some ⟨g, 0, none⟩), .int .i64 y] w fun e w' => e = .returned (.int .i64 0) ∧ ∃ v', Qv TQ w' B g most (xs ++ [y]) v' ∧ Fr g v.ownBlock w w' ∧ New w v.ownBlock v'.ownBlock ∧ Below B w w' := by
  obtain ⟨i0, hi, hz0, hz1, hz2⟩ := info_parts infoI
  have hr := room_any h.toQ (by omega) h1
  have hne : ((most - (xs.length : Int)) == 0) = false := by rw [beq_eq_false_iff_ne]; omega
  have HR := Lib.hid hr
  clear hr
  obtain ⟨hB, hb, hown⟩ := h
  have hlt := lt_blk hb
  obtain ⟨A, c, rfl⟩ := own_form hown
  go_enter Try.func70, Try.ntmps70
  go_wp2_with fail
  refine HR.out.mono ?_
  rintro e w' ⟨rfl, n, rfl⟩
  have hb1 : (w.drewN n).heap[g]? = some (.cells #[.slice A xs.length c, .int .i64 most] TQ (0, 0)) := hb
  have c0 := cell_blk hb1 0
  simp at c0
  have HB := Lib.hid hb1
  clear hb hb1 HR
  go_wp2_with (at_builtin; refine wpList_append_own_at _ rfl _ _ 45 rfl B 3 i0 (.int .i64 0) 1 8 Try.underlying45 hi hz0 hz1 hz2 rfl (by decide) _ _ _ rfl ((own_drewN hown n).alloc _) ⟨w.heap.size, 0, none⟩ 1 1 [.int .i64 y] rfl rfl (cell_one_new _ _ _) (one_one rfl) (by unfold maxLen; omega) (by omega) (by simp; omega) ?_)
  intro v1 w1 hown1 hg1 _ hnew
  have hb2 : ((w.drewN n).alloc (.cells #[.int .i64 y] 3)).heap[g]? = some (.cells #[.slice A xs.length c, .int .i64 most] TQ (0, 0)) := (Below.heap_alloc _ _ _ (by exact hlt)).trans HB.out
  have hb3 := grown_blk hb2 hg1 ((own_drewN hown n).alloc _) (by decide)
  have hbel : Below B w w1 := (((below_drewN (Below.refl B w) n).alloc (by simp; omega) _).grown hg1 (by simp; omega) (own_ge hown))
  have hfr : Fr g (Value.slice A xs.length c).ownBlock w w1 := Fr.grown (Fr.alloc (w' := w.drewN n) (Fr.refl g _ w) _) hg1
  obtain ⟨A1, k1, rfl⟩ := own_form hown1
  have d0 := cell_blk hb3 0
  have f0 := free_blk hb3 0
  simp at d0
  have hn' : New w (Value.slice A xs.length c).ownBlock (Value.slice A1 (xs.length + 1) k1).ownBlock := by
    rcases hnew with e | e
    · exact .inl e
    · exact .inr (.inr ⟨_, e, by first | omega | simp⟩)
  have H3 := Lib.hid (And.intro hb3 (And.intro hbel (And.intro hfr hn')))
  clear hb2 hb3 hbel hg1 hfr hn' hnew
  go_wp2
  go_ret
  refine ⟨rfl, _, ⟨hB, set0_blk H3.out.1, ?_⟩, H3.out.2.2.1.set _, H3.out.2.2.2, H3.out.2.1.setCell (p := ⟨g, 0, none⟩) hB _⟩
  rw [List.length_append, List.length_singleton]
  have e : ints (xs ++ [y]) = ints xs ++ [.int .i64 y] := by simp [ints]
  rw [e]
  exact own_setother hown1 H3.out.1 (by decide)

set_option maxHeartbeats 1000000 in
theorem get_v {w : World} {B g : Nat} {most x : Int} {xs : List Int} {v : Value} (h : Qv TQ w B g most (x :: xs) v) :
    Calls Try.prog 74 #[.pointer (some ⟨g, 0, none⟩)] w fun e w' => e = .returned (.tuple #[.int .i64 x, .bool true]) ∧ ∃ v', Qv TQ w' B g most xs v' ∧ Fr g v.ownBlock w w' ∧ New w v.ownBlock v'.ownBlock ∧ Below B w w' := by
  have hp := Lib.hid (peek_any h.toQ)
  obtain ⟨hB, hb, hown⟩ := h
  obtain ⟨A, c, rfl⟩ := own_form hown
  obtain ⟨u, rfl, hu⟩ := own_at hown (by simp)
  have c0 := cell_blk hb 0
  simp at c0
  have hcm : (x :: xs).length ≤ c ∧ c ≤ 9223372036854775807 := by
    rcases hown.2 with ⟨_, h0⟩ | ⟨k, cap, cur, hv, _, _, h1, h2, _⟩
    · simp at h0
    · injection hv with _ _ hc
      subst hc
      unfold maxLen at h2
      omega
  have hgu : g ≠ u := fun e => by
    obtain ⟨cs, fr, ho⟩ := own_type hown rfl (e ▸ hb)
    injection ho with _ ht
    exact absurd ht (by decide)
  have hd0 := Any.slices_Delete_int_cells laysDelete u 0 (x :: xs).length c 0 1 (x :: xs) w (Nat.le_refl _) hcm.1 hcm.2 (by decide) (by simp) (fun j hj => by
    have := hown.cellAt j (by omega)
    rw [Nat.zero_add, this]
    exact ints_at _ _ hj) (fun j _ => by rw [Nat.zero_add]; exact hown.frozenAt j)
  have hd : Calls Try.prog 110 #[.slice (some ⟨u, 0, none⟩) (xs.length + 1) c, .int .i64 0, .int .i64 1] w fun e w' => e = .returned (.slice (some ⟨u, 0, none⟩) xs.length c) ∧ ∃ q, w' = (w.drewN q).setCells u 0 (ints (xs ++ [0])) := by
    have e : (List.take (x :: xs).length (x :: xs)).take 0 ++ (List.take (x :: xs).length (x :: xs)).drop 1 ++ List.replicate (1 - 0) 0 = xs ++ [0] := by simp
    rw [e] at hd0
    exact hd0
  clear hd0
  have HD := Lib.hid hd
  have HB := Lib.hid (And.intro hb (And.intro hown (And.intro hgu hu)))
  clear hd hb hown hgu hu hcm
  go_enter Try.func74, Try.ntmps74
  go_wp2_with (go_at_call 73; (refine hp.out.mono ?_; rintro e w' ⟨rfl, rfl⟩))
  refine HD.out.mono ?_
  rintro e w2 ⟨rfl, q, rfl⟩
  have hb2 : ((w'.drewN q).setCells u 0 (ints (xs ++ [0]))).heap[g]? = some (.cells #[.slice (some ⟨u, 0, none⟩) (xs.length + 1) c, .int .i64 most] TQ (0, 0)) := by
    rw [heap_setCells_far u _ 0 _ _ HB.out.2.2.1]
    exact HB.out.1
  have hown2 := own_setCells (m := xs.length) (own_drewN HB.out.2.1 q) (by simp) (ints (xs ++ [0])) (by simp [ints]) (by simp)
  have e : (ints (xs ++ [0])).take xs.length = ints xs := by simp [ints]
  rw [e] at hown2
  have hbel : Below B w' ((w'.drewN q).setCells u 0 (ints (xs ++ [0]))) := stores_below HB.out.2.2.2 _ 0 _ (below_drewN (Below.refl B w') q)
  have hfr : Fr g (Value.slice (some ⟨u, 0, none⟩) (xs.length + 1) c).ownBlock w' ((w'.drewN q).setCells u 0 (ints (xs ++ [0]))) := Fr.stores (w' := w'.drewN q) (Fr.refl g _ w') rfl _
  generalize (w'.drewN q).setCells u 0 (ints (xs ++ [0])) = w3 at *
  have d0 := cell_blk hb2 0
  have f0 := free_blk hb2 0
  simp at d0
  have H3 := Lib.hid (And.intro hb2 (And.intro hown2 (And.intro hbel hfr)))
  clear hb2 hown2 hbel hfr HB HD e
  go_wp2
  go_ret2
  exact ⟨rfl, _, ⟨hB, set0_blk H3.out.1, own_setother H3.out.2.1 H3.out.1 (by decide)⟩, H3.out.2.2.2.set _, .inl rfl, H3.out.2.2.1.setCell (p := ⟨g, 0, none⟩) hB _⟩

theorem clear_v {w : World} {B g : Nat} {most : Int} {xs : List Int} {v : Value} (h : Qv TQ w B g most xs v) :
    Calls Try.prog 72 #[.pointer (some ⟨g, 0, none⟩)] w fun e w' => e = .returned (.tuple #[]) ∧ ∃ v', Qv TQ w' B g most [] v' ∧ Fr g v.ownBlock w w' ∧ New w v.ownBlock v'.ownBlock ∧ Below B w w' := by
  have H := Lib.hid h
  obtain ⟨hB, hb, hown⟩ := h
  have d0 := cell_blk hb 0
  have f0 := free_blk hb 0
  simp at d0
  clear hb hown
  go_enter Try.func72, Try.ntmps72
  go_wp2
  go_end0
  exact ⟨rfl, _, ⟨hB, set0_blk H.out.2.1, World.ownsRow_nil _ _ _ _⟩, (Fr.refl g _ w).set _, .inr (.inl rfl), (Below.refl B w).setCell (p := ⟨g, 0, none⟩) hB _⟩

theorem all_v {w : World} {B g : Nat} {most : Int} {xs : List Int} {v : Value} (h : Qv TQ w B g most xs v) (hl : xs.length ≤ 1024) :
    Calls Try.prog 78 #[.pointer (some ⟨g, 0, none⟩)] w fun e w' => ∃ v', e = .returned v' ∧ w'.ownsRow w.heap.size 3 1 v' xs.length (ints xs) ∧ Below w.heap.size w w' := by
  obtain ⟨hB, hb, hown⟩ := h
  obtain ⟨A, c, rfl⟩ := own_form hown
  have hc : Calls Try.prog 122 #[.slice A xs.length c] w fun e w' => ∃ v', e = .returned v' ∧ w'.ownsRow w.heap.size 3 1 v' xs.length (ints xs) ∧ Below w.heap.size w w' := by
    rcases hown.2 with ⟨hv, h0⟩ | ⟨k, cap, cur, hv, hg, hh, r⟩
    · injection hv with hA hn hc'
      subst hA
      have hx : xs = [] := List.eq_nil_of_length_eq_zero h0
      subst hx
      exact (Any.slices_Clone_int_nil laysClone 0 c w).mono fun e w' ⟨he, hw⟩ => ⟨_, he, World.ownsRow_nil _ _ _ _, hw ▸ Below.refl _ _⟩
    · injection hv with hA hn hc'
      subst hA hc'
      refine (Any.slices_Clone_int laysClone k 0 xs.length c xs w (Nat.le_refl _) (by omega) (fun j hj => ?_)).mono fun e w' ⟨v', he, ho, _, hb⟩ => ⟨v', he, ?_, hb⟩
      · rw [Nat.zero_add, hown.cellAt j (by omega)]
        exact ints_at _ _ hj
      · rw [List.take_of_length_le (Nat.le_refl _)] at ho
        exact ho
  have HC := Lib.hid hc
  have c0 := cell_blk hb 0
  simp at c0
  clear hb hown hc
  go_enter Try.func78, Try.ntmps78
  go_wp2_with fail
  refine HC.out.mono ?_
  rintro e w' ⟨v', rfl, ho, hb⟩
  go_wp2
  go_ret
  exact ⟨_, rfl, ho, hb⟩

end Go.Proofs.Yticcobciafbleaa.Queue
