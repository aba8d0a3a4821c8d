/- Queues of numbers: what each call makes of one. -/
import Derived.Test.YticcobciafbleaaRows2
namespace Go.Proofs.Yticcobciafbleaa.Queue
open Go.RowKit Go.Shelf

/-- At block g, of the call's own from B on, stands a queue with this room, and these numbers in it. -/
def Q (w : World) (B g : Nat) (most : Int) (xs : List Int) : Prop :=
  B ≤ g ∧ ∃ A c, w.heap[g]? = some (.cells #[.slice A xs.length c, .int .i64 most] 178 (0, 0)) ∧ w.ownsRow B 3 1 (.slice A xs.length c) xs.length (ints xs)

theorem new_any (room : Int) (h0 : 1 ≤ room) (h1 : room ≤ 1024) (w : World) :
    Calls Try.prog 69 #[.int .i64 room] w fun e w' => e = .returned (.tuple #[.pointer (some ⟨w.heap.size, 0, none⟩), .int .i64 0]) ∧ Q w' w.heap.size w.heap.size room [] ∧ Below w.heap.size w w' ∧ w.heap.size < w'.heap.size := by
  go_enter Try.func69, Try.ntmps69
  go_wp2
  go_ret2
  exact ⟨rfl, ⟨Nat.le_refl _, none, 0, heap_alloc_new w _, World.ownsRow_nil _ _ _ _⟩, (Below.refl _ _).alloc (Nat.le_refl _) _, by simp⟩

theorem len_any {w : World} {B g : Nat} {most : Int} {xs : List Int} (h : Q w B g most xs) :
    Calls Try.prog 76 #[.pointer (some ⟨g, 0, none⟩)] w fun e w' => e = .returned (.int .i64 (xs.length : Int)) ∧ w' = w := by
  obtain ⟨_, A, c, hb, _⟩ := h
  have c0 := cell_blk hb 0
  simp at c0
  clear hb
  go_enter Try.func76, Try.ntmps76
  go_wp2
  go_ret
  exact ⟨rfl, rfl⟩

theorem room_any {w : World} {B g : Nat} {most : Int} {xs : List Int} (h : Q w B g most xs) (h0 : (xs.length : Int) ≤ most) (h1 : most ≤ 1024) :
    Calls Try.prog 77 #[.pointer (some ⟨g, 0, none⟩)] w fun e w' => e = .returned (.int .i64 (most - (xs.length : Int))) ∧ ∃ n, w' = w.drewN n := by
  obtain ⟨_, A, c, hb, _⟩ := h
  have c0 := cell_blk hb 0
  have c1 := cell_blk hb 1
  simp at c0 c1
  clear hb
  have hn : (0 : Int) ≤ (xs.length : Int) := by omega
  go_enter Try.func77, Try.ntmps77
  go_wp2
  go_quiet (fail)
  go_wp2
  go_ret
  exact ⟨rfl, _, rfl⟩

theorem peek_none {w : World} {B g : Nat} {most : Int} (h : Q w B g most []) :
    Calls Try.prog 73 #[.pointer (some ⟨g, 0, none⟩)] w fun e w' => e = .returned (.tuple #[.int .i64 0, .bool false]) ∧ w' = w := by
  go_enter Try.func73, Try.ntmps73
  go_wp2_with (go_at_call 76; ((with_reducible refine (len_any h).mono ?_); rintro e w' ⟨rfl, rfl⟩))
  go_ret2
  exact ⟨rfl, rfl⟩

theorem peek_any {w : World} {B g : Nat} {most x : Int} {xs : List Int} (h : Q w B g most (x :: xs)) :
    Calls Try.prog 73 #[.pointer (some ⟨g, 0, none⟩)] w fun e w' => e = .returned (.tuple #[.int .i64 x, .bool true]) ∧ w' = w := by
  obtain ⟨hB, A, c, hb, hown⟩ := h
  have h' : Q w B g most (x :: xs) := ⟨hB, A, c, hb, hown⟩
  obtain ⟨u, rfl, _⟩ := own_at hown (by simp)
  have c0 := cell_blk hb 0
  have hx := hown.cellAt 0 (by simp)
  have cx : w.cell? ⟨u, 0, none⟩ = some (.int .i64 x) := hx
  simp at c0
  have hne : (((x :: xs).length : Int) == 0) = false := by
    simp only [List.length_cons, beq_eq_false_iff_ne]; omega
  have hpos : (0 : Int) < ((x :: xs).length : Int) := by simp only [List.length_cons]; omega
  simp only [List.length_cons] at *
  clear hb hx
  go_enter Try.func73, Try.ntmps73
  go_wp2_with (go_at_call 76; ((with_reducible refine (len_any h').mono ?_); rintro e w' ⟨rfl, rfl⟩))
  go_ret2
  exact ⟨rfl, rfl⟩

theorem put_full {w : World} {B g : Nat} {most : Int} {xs : List Int} (h : Q w B g most xs) (h0 : (xs.length : Int) = most) (h1 : most ≤ 1024) (y : Int) :
    Calls Try.prog 70 #[.pointer (some ⟨g, 0, none⟩), .int .i64 y] w fun e w' => e = .returned (.int .i64 6) ∧ ∃ n, w' = w.drewN n := by
  have hr := room_any h (by omega) h1
  rw [show most - (xs.length : Int) = 0 from by omega] at hr
  have HR := Lib.hid hr
  clear hr h0 h
  go_enter Try.func70, Try.ntmps70
  go_wp2_with (go_at_call 77; refine HR.out.mono ?_; rintro e w' ⟨rfl, n, rfl⟩)
  go_ret
  exact ⟨rfl, _, rfl⟩

set_option maxHeartbeats 1000000 in
theorem put_any {w : World} {B g : Nat} {most : Int} {xs : List Int} (h : Q w B g most xs) (h0 : (xs.length : Int) < most) (h1 : most ≤ 1024) (y : Int) :
    Calls Try.prog 70 #[.pointer (some ⟨g, 0, none⟩), .int .i64 y] w fun e w' => e = .returned (.int .i64 0) ∧ Q w' B g most (xs ++ [y]) ∧ Below B w w' ∧ w.heap.size ≤ w'.heap.size := by
  obtain ⟨i0, hi, hz0, hz1, hz2⟩ := info_parts infoI
  have hr := room_any h (by omega) h1
  have hne : ((most - (xs.length : Int)) == 0) = false := by rw [beq_eq_false_iff_ne]; omega
  have HR := Lib.hid hr
  clear hr
  obtain ⟨hB, A, c, hb, hown⟩ := h
  have hlt := lt_blk hb
  go_enter Try.func70, Try.ntmps70
  go_wp2_with fail
  refine HR.out.mono ?_
  rintro e w' ⟨rfl, n, rfl⟩
  have hb1 : (w.drewN n).heap[g]? = some (.cells #[.slice A xs.length c, .int .i64 most] 178 (0, 0)) := hb
  have c0 := cell_blk hb1 0
  simp at c0
  have HB := Lib.hid hb1
  clear hb hb1 HR
  go_wp2_with (at_builtin; refine wpList_append_own _ rfl _ _ 45 rfl B 3 i0 (.int .i64 0) 1 8 Try.underlying45 hi hz0 hz1 hz2 rfl (by decide) _ _ _ rfl ((own_drewN hown n).alloc _) ⟨w.heap.size, 0, none⟩ 1 1 [.int .i64 y] rfl rfl (cell_one_new _ _ _) (one_one rfl) (by unfold maxLen; omega) (by omega) (by simp; omega) ?_)
  intro v1 w1 hown1 hg1 _
  have hb2 : ((w.drewN n).alloc (.cells #[.int .i64 y] 3)).heap[g]? = some (.cells #[.slice A xs.length c, .int .i64 most] 178 (0, 0)) := (Below.heap_alloc _ _ _ (by exact hlt)).trans HB.out
  have hb3 := grown_blk hb2 hg1 ((own_drewN hown n).alloc _) (by decide)
  have hbel : Below B w w1 := (((below_drewN (Below.refl B w) n).alloc (by simp; omega) _).grown hg1 (by simp; omega) (own_ge hown))
  have hsz : w.heap.size ≤ w1.heap.size := by have := hg1.size; simp at this; omega
  obtain ⟨A1, k1, rfl⟩ := own_form hown1
  have d0 := cell_blk hb3 0
  have f0 := free_blk hb3 0
  simp at d0
  have H3 := Lib.hid (And.intro hb3 (And.intro hbel hsz))
  clear hb2 hb3 hbel hsz hg1
  go_wp2
  go_ret
  refine ⟨rfl, ⟨hB, A1, k1, ?_, ?_⟩, H3.out.2.1.setCell (p := ⟨g, 0, none⟩) hB _, ?_⟩
  · rw [List.length_append, List.length_singleton]
    exact set0_blk H3.out.1
  · rw [List.length_append, List.length_singleton]
    have e : ints (xs ++ [y]) = ints xs ++ [.int .i64 y] := by simp [ints]
    rw [e]
    exact own_setother hown1 H3.out.1 (by decide)
  · have := H3.out.2.2
    simpa [World.setCell] using this

theorem get_none {w : World} {B g : Nat} {most : Int} (h : Q w B g most []) :
    Calls Try.prog 74 #[.pointer (some ⟨g, 0, none⟩)] w fun e w' => e = .returned (.tuple #[.int .i64 0, .bool false]) ∧ w' = w := by
  go_enter Try.func74, Try.ntmps74
  go_wp2_with (go_at_call 73; ((with_reducible refine (peek_none h).mono ?_); rintro e w' ⟨rfl, rfl⟩))
  go_ret2
  exact ⟨rfl, rfl⟩

set_option maxHeartbeats 1000000 in
theorem get_any {w : World} {B g : Nat} {most x : Int} {xs : List Int} (h : Q w B g most (x :: xs)) :
    Calls Try.prog 74 #[.pointer (some ⟨g, 0, none⟩)] w fun e w' => e = .returned (.tuple #[.int .i64 x, .bool true]) ∧ Q w' B g most xs ∧ Below B w w' ∧ w.heap.size ≤ w'.heap.size := by
  have hp := Lib.hid (peek_any h)
  obtain ⟨hB, A, c, hb, hown⟩ := h
  obtain ⟨u, rfl, hu⟩ := own_at hown (by simp)
  have c0 := cell_blk hb 0
  simp at c0
  have hcm : (x :: xs).length ≤ c ∧ c ≤ 9223372036854775807 := by
    rcases hown.2 with ⟨_, h0⟩ | ⟨k, cap, cur, hv, _, _, h1, h2, _⟩
    · simp at h0
    · injection hv with _ _ hc
      subst hc
      unfold maxLen at h2
      omega
  have hgu : g ≠ u := by
    rintro rfl
    rcases hown.2 with ⟨hv, _⟩ | ⟨k, cap, cur, hv, _, hh, _⟩
    · simp at hv
    · injection hv with hA
      injection hA with hA
      injection hA with hA
      subst hA
      rw [hh] at hb
      injection hb with hb
      injection hb with _ ht
      exact absurd ht (by decide)
  have hd0 := Any.slices_Delete_int_cells laysDelete u 0 (x :: xs).length c 0 1 (x :: xs) w (Nat.le_refl _) hcm.1 hcm.2 (by decide) (by simp) (fun j hj => by
    have := hown.cellAt j (by omega)
    rw [Nat.zero_add, this]
    exact ints_at _ _ hj) (fun j _ => by rw [Nat.zero_add]; exact hown.frozenAt j)
  have hd : Calls Try.prog 110 #[.slice (some ⟨u, 0, none⟩) (xs.length + 1) c, .int .i64 0, .int .i64 1] w fun e w' => e = .returned (.slice (some ⟨u, 0, none⟩) xs.length c) ∧ ∃ q, w' = (w.drewN q).setCells u 0 (ints (xs ++ [0])) := by
    have e : (List.take (x :: xs).length (x :: xs)).take 0 ++ (List.take (x :: xs).length (x :: xs)).drop 1 ++ List.replicate (1 - 0) 0 = xs ++ [0] := by simp
    rw [e] at hd0
    exact hd0
  clear hd0
  have HD := Lib.hid hd
  have HB := Lib.hid (And.intro hb (And.intro hown (And.intro hgu hu)))
  clear hd hb hown hgu hu hcm
  go_enter Try.func74, Try.ntmps74
  go_wp2_with (go_at_call 73; (refine hp.out.mono ?_; rintro e w' ⟨rfl, rfl⟩))
  refine HD.out.mono ?_
  rintro e w2 ⟨rfl, q, rfl⟩
  have hb2 : ((w'.drewN q).setCells u 0 (ints (xs ++ [0]))).heap[g]? = some (.cells #[.slice (some ⟨u, 0, none⟩) (xs.length + 1) c, .int .i64 most] 178 (0, 0)) := by
    rw [heap_setCells_far u _ 0 _ _ HB.out.2.2.1]
    exact HB.out.1
  have hown2 := own_setCells (m := xs.length) (own_drewN HB.out.2.1 q) (by simp) (ints (xs ++ [0])) (by simp [ints]) (by simp)
  have e : (ints (xs ++ [0])).take xs.length = ints xs := by simp [ints]
  rw [e] at hown2
  have hbel : Below B w' ((w'.drewN q).setCells u 0 (ints (xs ++ [0]))) := stores_below HB.out.2.2.2 _ 0 _ (below_drewN (Below.refl B w') q)
  generalize (w'.drewN q).setCells u 0 (ints (xs ++ [0])) = w3 at *
  have d0 := cell_blk hb2 0
  have f0 := free_blk hb2 0
  simp at d0
  have H3 := Lib.hid (And.intro hb2 (And.intro hown2 hbel))
  clear hb2 hown2 hbel HB HD e
  go_wp2
  go_ret2
  refine ⟨rfl, ⟨hB, some ⟨u, 0, none⟩, c, set0_blk H3.out.1, own_setother H3.out.2.1 H3.out.1 (by decide)⟩, H3.out.2.2.setCell (p := ⟨g, 0, none⟩) hB _, ?_⟩
  have := H3.out.2.2.size
  simpa [World.setCell] using this
end Go.Proofs.Yticcobciafbleaa.Queue
