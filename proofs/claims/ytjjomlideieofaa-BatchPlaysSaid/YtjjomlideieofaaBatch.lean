/- A batch of messages: what New, Len, Has, Due and Add do. -/
import Derived.Test.YtjjomlideieofaaRight
import Derived.Test.YtjjomlideieofaaRowsM
import Derived.Deep.RegionLaw
import Derived.IntWalk
namespace Go.Proofs.Ytjjomlideieofaa.Msg
open Go Go.RowKit

abbrev TB : Nat := 106

/-- At block g stands a batch, its row v. -/
def Bt (W : World) (base g : Nat) (sz wt : Int) (v : Value) (since : Int) (ms : List M7) : Prop :=
  base ≤ g ∧ W.heap[g]? = some (.cells #[.int .i64 sz, .int .i64 wt, v, .int .u64 since] TB (0, 0)) ∧ W.ownsRow base TM 7 v ms.length (mevs ms)

/-- All that stood stands as it was, but block g and the row's. -/
def Fr (g : Nat) (row : Option Nat) (w w' : World) : Prop := w.heap.size ≤ w'.heap.size ∧ ∀ (j : Nat) (o : Obj), j ≠ g → row ≠ some j → w.heap[j]? = some o → w'.heap[j]? = some o
/-- A row is the old one, none, or a new one. -/
def New (w : World) (row row' : Option Nat) : Prop := row' = row ∨ row' = none ∨ ∃ k, row' = some k ∧ w.heap.size ≤ k
section
variable {w w' : World} {g : Nat} {row : Option Nat}
theorem Fr.refl (g : Nat) (row : Option Nat) (w : World) : Fr g row w w := ⟨Nat.le_refl _, fun _ _ _ _ h => h⟩
theorem Fr.alloc (h : Fr g row w w') (o : Obj) : Fr g row w (w'.alloc o) := ⟨by have := h.1; simp; omega, fun j x a b c => by
  have := h.2 j x a b c
  exact (Below.heap_alloc _ _ _ (lt_blk this)).trans this⟩
theorem Fr.set (h : Fr g row w w') {i : Nat} (x : Value) : Fr g row w (w'.setCell ⟨g, i, none⟩ x) := ⟨by simpa [World.setCell] using h.1, fun j y a b c => (Below.heap_setCell _ _ _ _ (by exact a)).trans (h.2 j y a b c)⟩
theorem Fr.grown {w2 : World} (h : Fr g row w w') (hg : w'.grownBy w2 row) : Fr g row w w2 := ⟨Nat.le_trans h.1 hg.size, fun j y a b c => by
  have := h.2 j y a b c
  exact (hg.block j (lt_blk this) (fun e => b e.symm)).trans this⟩
theorem Fr.below {w2 : World} (h : Fr g row w w') (hb : Below w'.heap.size w' w2) : Fr g row w w2 := ⟨Nat.le_trans h.1 hb.size, fun j y a b c => by
  have := h.2 j y a b c
  exact (hb.block j (lt_blk this)).trans this⟩
end

section
variable {w w' : World} {base g : Nat} {sz wt since : Int} {v : Value} {ms : List M7}
theorem Bt.below (h : Bt w base g sz wt v since ms) (hb : Below w.heap.size w w') : Bt w' base g sz wt v since ms := ⟨h.1, (hb.block g (lt_blk h.2.1)).trans h.2.1, own_below h.2.2 hb⟩
theorem Bt.cells (h : Bt w base g sz wt v since ms) : w.cell? ⟨g, 0, none⟩ = some (.int .i64 sz) ∧ w.cell? ⟨g, 1, none⟩ = some (.int .i64 wt) ∧ w.cell? ⟨g, 2, none⟩ = some v ∧ w.cell? ⟨g, 3, none⟩ = some (.int .u64 since) :=
  ⟨cell_of_row _ _ 0 _ _ _ h.2.1, cell_of_row _ _ 1 _ _ _ h.2.1, cell_of_row _ _ 2 _ _ _ h.2.1, cell_of_row _ _ 3 _ _ _ h.2.1⟩
theorem Bt.free (h : Bt w base g sz wt v since ms) (i : Nat) : w.frozen? ⟨g, i, none⟩ = false := by
  have := h.2.1
  simp [World.frozen?, this]
end

set_option maxHeartbeats 1000000 in
theorem new_ok (sz wt : Int) (w : World) (h0 : 1 ≤ sz) (h1 : sz ≤ 32) (h2 : 0 ≤ wt) (h3 : wt ≤ 8) :
    Calls Try.prog 25 #[.int .i64 sz, .int .i64 wt] w fun e w' => e = .returned (.tuple #[.pointer (some ⟨w.heap.size, 0, none⟩), .int .i64 0]) ∧ w' = w.alloc (.cells #[.int .i64 sz, .int .i64 wt, .slice none 0 0, .int .u64 0] TB) := by
  go_enter Try.func25, Try.ntmps25
  go_wp2
  go_ret2
  exact ⟨rfl, rfl⟩

theorem Bt.new (w : World) (base : Nat) (hb : base ≤ w.heap.size) (sz wt : Int) : Bt (w.alloc (.cells #[.int .i64 sz, .int .i64 wt, .slice none 0 0, .int .u64 0] TB)) base w.heap.size sz wt (.slice none 0 0) 0 [] :=
  ⟨hb, heap_alloc_new w _, World.ownsRow_nil _ _ _ _⟩

set_option maxHeartbeats 1000000 in
theorem len_any {w : World} {base g : Nat} {sz wt since : Int} {v : Value} {ms : List M7} (h : Bt w base g sz wt v since ms) :
    Calls Try.prog 33 #[.pointer (some ⟨g, 0, none⟩)] w fun e w' => e = .returned (.int .i64 (ms.length : Int)) ∧ w' = w := by
  obtain ⟨A, c, rfl⟩ := own_formN h.2.2
  have h2 := h.cells.2.2.1
  clear h
  go_enter Try.func33, Try.ntmps33
  go_wp2
  go_ret
  exact ⟨rfl, rfl⟩

theorem wrap_u64 {n : Int} (h : 0 ≤ n) (h2 : n < 18446744073709551616) : IntKind.u64.wrap n = n := by rw [IntKind.wrap_u64]; omega

/-- Is a batch to be sent? -/
def due (sz wt since now : Int) (n : Nat) : Bool := decide (n ≠ 0 ∧ (sz ≤ n ∨ (since ≤ now ∧ wt ≤ now - since) ∨ wt = 0))

set_option maxHeartbeats 2000000 in
theorem due_any {w : World} {base g : Nat} {sz wt since now : Int} {v : Value} {ms : List M7} (h : Bt w base g sz wt v since ms) (h0 : 0 ≤ wt) (h1 : wt ≤ 8) (h2 : 0 ≤ since) (h3 : since < 18446744073709551616) (h4 : 0 ≤ now) (h5 : now < 18446744073709551616) :
    Calls Try.prog 31 #[.pointer (some ⟨g, 0, none⟩), .int .u64 now] w fun e w' => e = .returned (.bool (due sz wt since now ms.length)) ∧ ∃ q, w' = w.drewN q := by
  have HL := Lib.hid (len_any h)
  obtain ⟨A, c, rfl⟩ := own_formN h.2.2
  obtain ⟨c0, c1, c2, c3⟩ := h.cells
  clear h
  generalize ms.length = n at *
  by_cases hn : n = 0
  · subst hn
    go_enter Try.func31, Try.ntmps31
    go_wp2_with fail
    refine HL.out.mono ?_
    rintro e w' ⟨rfl, rfl⟩
    go_wp2
    go_ret
    exact ⟨rfl, 0, rfl⟩
  · have hz : ((n : Int) == 0) = false := by rw [beq_eq_false_iff_ne]; omega
    -- DUE
    -- DUE
    -- DUE
    -- DUE
    by_cases hmx : since ≤ now
    · have hx : max now since = now := Int.max_eq_left hmx
      have hws : IntKind.u64.wrap (now - since) = now - since := wrap_u64 (by omega) (by omega)
      have hww : IntKind.u64.wrap wt = wt := wrap_u64 (by omega) (by omega)
      by_cases hs : sz ≤ (n : Int)
      · have hs2 : sz ≤ (n : Int) := hs
        have hd := Lib.hid (show due sz wt since now n = true from decide_eq_true (by omega))
        clear h0 h1 h4 h5 hn
        go_enter Try.func31, Try.ntmps31
        go_wp2_with fail
        refine HL.out.mono ?_
        rintro e w' ⟨rfl, rfl⟩
        go_wp2
        go_quiet (fail)
        go_wp2
        go_quiet (fail)
        go_wp2
        go_ret
        exact ⟨by rw [hd.out]; rfl, _, World.drewN_drewN _ _ _⟩
      · by_cases hw : wt ≤ now - since
        · have hs2 : (n : Int) < sz := by omega
          have d1 : decide (sz ≤ (n : Int)) = false := decide_eq_false (by omega)
          have hd := Lib.hid (show due sz wt since now n = true from decide_eq_true (by omega))
          clear h0 h1 h4 h5 hn
          go_enter Try.func31, Try.ntmps31
          go_wp2_with fail
          refine HL.out.mono ?_
          rintro e w' ⟨rfl, rfl⟩
          go_wp2
          go_quiet (fail)
          go_wp2
          go_quiet (fail)
          go_wp2
          go_ret
          exact ⟨by rw [hd.out]; rfl, _, World.drewN_drewN _ _ _⟩
        · have hs2 : (n : Int) < sz := by omega
          have d1 : decide (sz ≤ (n : Int)) = false := decide_eq_false (by omega)
          have hw2 : now - since < wt := by omega
          have d2 : decide (wt ≤ now - since) = false := decide_eq_false (by omega)
          have hd := Lib.hid (show due sz wt since now n = false from decide_eq_false (by omega))
          clear h0 h1 h4 h5 hn
          go_enter Try.func31, Try.ntmps31
          go_wp2_with fail
          refine HL.out.mono ?_
          rintro e w' ⟨rfl, rfl⟩
          go_wp2
          go_quiet (fail)
          go_wp2
          go_quiet (fail)
          go_wp2
          go_ret
          exact ⟨by rw [hd.out]; rfl, _, World.drewN_drewN _ _ _⟩
    · have hx : max now since = since := Int.max_eq_right (by omega)
      have hws : IntKind.u64.wrap (since - since) = 0 := by rw [Int.sub_self]; rfl
      have hss : since - since = 0 := Int.sub_self _
      have hww : IntKind.u64.wrap wt = wt := wrap_u64 (by omega) (by omega)
      have hmx2 : now < since := by omega
      by_cases hs : sz ≤ (n : Int)
      · have hs2 : sz ≤ (n : Int) := hs
        have hd := Lib.hid (show due sz wt since now n = true from decide_eq_true (by omega))
        clear h0 h1 h4 h5 hn
        go_enter Try.func31, Try.ntmps31
        go_wp2_with fail
        refine HL.out.mono ?_
        rintro e w' ⟨rfl, rfl⟩
        go_wp2
        go_quiet (fail)
        go_wp2
        go_quiet (fail)
        go_wp2
        go_ret
        exact ⟨by rw [hd.out]; rfl, _, World.drewN_drewN _ _ _⟩
      · by_cases hw : wt = 0
        · subst hw
          have hs2 : (n : Int) < sz := by omega
          have d1 : decide (sz ≤ (n : Int)) = false := decide_eq_false (by omega)
          have hd := Lib.hid (show due sz 0 since now n = true from decide_eq_true (by omega))
          clear h0 h1 h4 h5 hn
          go_enter Try.func31, Try.ntmps31
          go_wp2_with fail
          refine HL.out.mono ?_
          rintro e w' ⟨rfl, rfl⟩
          go_wp2
          go_quiet (fail)
          go_wp2
          go_quiet (fail)
          go_wp2
          go_ret
          exact ⟨by rw [hd.out]; rfl, _, World.drewN_drewN _ _ _⟩
        · have hs2 : (n : Int) < sz := by omega
          have d1 : decide (sz ≤ (n : Int)) = false := decide_eq_false (by omega)
          have hw2 : 0 < wt := by omega
          have hw3 : ¬ wt ≤ 0 := by omega
          have d2 : decide (wt ≤ 0) = false := decide_eq_false (by omega)
          have hd := Lib.hid (show due sz wt since now n = false from decide_eq_false (by omega))
          clear h0 h1 h4 h5 hn
          go_enter Try.func31, Try.ntmps31
          go_wp2_with fail
          refine HL.out.mono ?_
          rintro e w' ⟨rfl, rfl⟩
          go_wp2
          go_quiet (fail)
          go_wp2
          go_quiet (fail)
          go_wp2
          go_ret
          exact ⟨by rw [hd.out]; rfl, _, World.drewN_drewN _ _ _⟩
end Go.Proofs.Ytjjomlideieofaa.Msg
