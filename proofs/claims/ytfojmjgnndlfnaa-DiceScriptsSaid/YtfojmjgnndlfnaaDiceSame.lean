/- The page's Same: of two scripts, of two configs that are alike. -/
import Derived.Test.YtfojmjgnndlfnaaDiceScript
import Derived.Deep.QuietTactic
import Derived.BigQuiet
namespace Go.Proofs.Ytfojmjgnndlfnaa.DiceW
open Go Go.RowKit Conf Dice

def s80 : S8 := ⟨0, 0, 0, 0, 0, 0, 0, ⟨#[]⟩⟩
theorem vals_at : ∀ (l : List S8) (i j : Nat), i < l.length → j < 8 → (vals l)[i * 8 + j]? = ((l.getD i s80).cells)[j]?
  | [], _, _, h, _ => absurd h (by simp)
  | x :: l, 0, j, _, hj => by
    show (x.cells.toList ++ vals l)[0 * 8 + j]? = _
    rw [Nat.zero_mul, Nat.zero_add, List.getElem?_append_left (by simpa [S8.cells] using hj)]
    simp
  | x :: l, i + 1, j, h, hj => by
    show (x.cells.toList ++ vals l)[(i + 1) * 8 + j]? = _
    have e : (i + 1) * 8 + j = x.cells.toList.length + (i * 8 + j) := by
      have : x.cells.toList.length = 8 := rfl
      omega
    rw [e, List.getElem?_append_right (Nat.le_add_right _ _), Nat.add_sub_cancel_left]
    have := vals_at l i j (by simpa using h) hj
    simpa using this
/-- the i-th step stands there -/
def At (W : World) (b o : Nat) (m : S8) : Prop :=
  W.cell? ⟨b, o, none⟩ = some (.int .i64 m.k) ∧ W.cell? ⟨b, o + 1, none⟩ = some (.int .i64 m.sd) ∧ W.cell? ⟨b, o + 2, none⟩ = some (.int .i64 m.n) ∧ W.cell? ⟨b, o + 3, none⟩ = some (.int .i64 m.c) ∧
  W.cell? ⟨b, o + 4, none⟩ = some (.int .i64 m.f) ∧ W.cell? ⟨b, o + 5, none⟩ = some (.int .u64 m.s) ∧ W.cell? ⟨b, o + 6, none⟩ = some (.int .u64 m.t) ∧ W.cell? ⟨b, o + 7, none⟩ = some (.string m.d)
theorem row_at {w : World} {base n : Nat} {v : Value} {ms : List S8} (h : w.ownsRow base TSt 8 v n (vals ms)) (hn : ms.length = n) (h0 : 0 < n) : ∃ g c, v = .slice (some ⟨g, 0, none⟩) n c ∧ g < w.heap.size ∧ ∀ i, i < n → At w g (i * 8) (ms.getD i s80) := by
  rcases h.2 with ⟨_, h9⟩ | ⟨g, cap, cur, rfl, _, hh, hc, _, hsz, htk⟩
  · omega
  · refine ⟨g, cap, rfl, blk_lt hh, fun i hi => ?_⟩
    have h1 : ∀ j v, ((ms.getD i s80).cells)[j]? = some v → w.cell? ⟨g, i * 8 + j, none⟩ = some v := fun j v hv => by
      have hj : j < 8 := by
        have := (Array.getElem?_eq_some_iff.1 hv).1
        simpa [S8.cells] using this
      rw [cell_of_row w g _ cur _ (0, 0) hh, ← Array.getElem?_toList]
      have h1 : (cur.toList.take (n * 8))[i * 8 + j]? = cur.toList[i * 8 + j]? := List.getElem?_take_of_lt (by omega)
      rw [← h1, htk, vals_at ms i j (by omega) hj, hv]
    exact ⟨h1 0 _ rfl, h1 1 _ rfl, h1 2 _ rfl, h1 3 _ rfl, h1 4 _ rfl, h1 5 _ rfl, h1 6 _ rfl, h1 7 _ rfl⟩
theorem sneq_run (m : S8) (W : World) : (binOp .neq TSt (.agg #[.int .i64 m.k, .int .i64 m.sd, .int .i64 m.n, .int .i64 m.c, .int .i64 m.f, .int .u64 m.s, .int .u64 m.t, .string m.d]) (.agg #[.int .i64 m.k, .int .i64 m.sd, .int .i64 m.n, .int .i64 m.c, .int .i64 m.f, .int .u64 m.s, .int .u64 m.t, .string m.d])).run Try.prog W = .ok (.bool false) W := by
  go_simp
set_option maxRecDepth 20000 in
set_option maxHeartbeats 1000000 in
theorem same_steps (b b' n c d : Nat) (ms : List S8) (w : World) (hn : n ≤ 9223372036854775807) (hc : ∀ i, i < n → At w b (i * 8) (ms.getD i s80)) (hc' : ∀ i, i < n → At w b' (i * 8) (ms.getD i s80)) :
    Calls Try.prog 13 #[.slice (some ⟨b, 0, none⟩) n c, .slice (some ⟨b', 0, none⟩) n d] w fun e w' => e = .returned (.bool true) ∧ Below w.heap.size w w' := by
  have HC := Lib.hid hc
  have HC' := Lib.hid hc'
  clear hc hc'
  go_enter Try.func13, Try.ntmps13
  go_wp2
  go_loopw [5] (fun i wr => ∃ k : Nat, i = .int .i64 (k : Int) ∧ k ≤ n ∧ ∃ q, wr = w.drewN q) (fun i _ => n - (intOf i).toNat)
  case atStart => exact ⟨0, rfl, Nat.zero_le _, 0, rfl⟩
  case round =>
    obtain ⟨k, rfl, hk, q, rfl⟩ := hrel
    by_cases hlt : k < n
    · have hck := HC.out k hlt
      have hck' := HC'.out k hlt
      obtain ⟨m, hm⟩ : ∃ m, m = ms.getD k s80 := ⟨_, rfl⟩
      rw [← hm] at hck hck'
      clear hm
      obtain ⟨c0, c1, c2, c3, c4, c5, c6, c7⟩ := hck
      obtain ⟨d0, d1, d2, d3, d4, d5, d6, d7⟩ := hck'
      have hne := sneq_run m
      have hi0 : (0 : Int) ≤ (k : Int) := by omega
      have hi1 : (k : Int) < (n : Int) := by omega
      go_wp2
      go_quiet (fail)
      go_wp2
      exact ⟨⟨k + 1, by go_num, by omega, _, rfl⟩, by simp [intOf]; omega⟩
    · obtain rfl : k = n := by omega
      go_wp2
      go_ret
      exact ⟨rfl, below_drewN (Below.refl _ _) _⟩
set_option maxRecDepth 20000 in
set_option maxHeartbeats 4000000 in
theorem conf_alike (u v n cap : Nat) (f1 f2 f3 f4 f5 f6 f7 f8 f9 f10 f11 : Int) (bs : Nat → Bool) (hn : n ≤ 4) (w : World) (hu : ∀ j, j < n → w.cell? ⟨u, j, none⟩ = some (.bool (bs j))) (hv : ∀ j, j < n → w.cell? ⟨v, j, none⟩ = some (.bool (bs j))) :
    Calls Try.prog 8 #[.agg #[.slice (some ⟨u, 0, none⟩) n cap, .int .i64 f1, .int .i64 f2, .int .i64 f3, .int .i64 f4, .int .i64 f5, .int .i64 f6, .int .i64 f7, .int .i64 f8, .int .i64 f9, .int .i64 f10, .int .u64 f11], .agg #[.slice (some ⟨v, 0, none⟩) n cap, .int .i64 f1, .int .i64 f2, .int .i64 f3, .int .i64 f4, .int .i64 f5, .int .i64 f6, .int .i64 f7, .int .i64 f8, .int .i64 f9, .int .i64 f10, .int .u64 f11]] w fun e w' => e = .returned (.bool true) ∧ Below w.heap.size w w' := by
  have hB2 : Below w.heap.size w ((w.alloc (.cells #[.slice (some ⟨u, 0, none⟩) n cap, .int .i64 f1, .int .i64 f2, .int .i64 f3, .int .i64 f4, .int .i64 f5, .int .i64 f6, .int .i64 f7, .int .i64 f8, .int .i64 f9, .int .i64 f10, .int .u64 f11] TCf)).alloc (.cells #[.slice (some ⟨v, 0, none⟩) n cap, .int .i64 f1, .int .i64 f2, .int .i64 f3, .int .i64 f4, .int .i64 f5, .int .i64 f6, .int .i64 f7, .int .i64 f8, .int .i64 f9, .int .i64 f10, .int .u64 f11] TCf)) := ((Below.refl _ _).alloc (Nat.le_refl _) _).alloc (by simp) _
  have hx : ((w.alloc (.cells #[.slice (some ⟨u, 0, none⟩) n cap, .int .i64 f1, .int .i64 f2, .int .i64 f3, .int .i64 f4, .int .i64 f5, .int .i64 f6, .int .i64 f7, .int .i64 f8, .int .i64 f9, .int .i64 f10, .int .u64 f11] TCf)).alloc (.cells #[.slice (some ⟨v, 0, none⟩) n cap, .int .i64 f1, .int .i64 f2, .int .i64 f3, .int .i64 f4, .int .i64 f5, .int .i64 f6, .int .i64 f7, .int .i64 f8, .int .i64 f9, .int .i64 f10, .int .u64 f11] TCf)).heap[w.heap.size]? = some (.cells #[.slice (some ⟨u, 0, none⟩) n cap, .int .i64 f1, .int .i64 f2, .int .i64 f3, .int .i64 f4, .int .i64 f5, .int .i64 f6, .int .i64 f7, .int .i64 f8, .int .i64 f9, .int .i64 f10, .int .u64 f11] TCf (0, 0)) := blk_alloc (heap_alloc_new w _)
  have hy : ((w.alloc (.cells #[.slice (some ⟨u, 0, none⟩) n cap, .int .i64 f1, .int .i64 f2, .int .i64 f3, .int .i64 f4, .int .i64 f5, .int .i64 f6, .int .i64 f7, .int .i64 f8, .int .i64 f9, .int .i64 f10, .int .u64 f11] TCf)).alloc (.cells #[.slice (some ⟨v, 0, none⟩) n cap, .int .i64 f1, .int .i64 f2, .int .i64 f3, .int .i64 f4, .int .i64 f5, .int .i64 f6, .int .i64 f7, .int .i64 f8, .int .i64 f9, .int .i64 f10, .int .u64 f11] TCf)).heap[w.heap.size + 1]? = some (.cells #[.slice (some ⟨v, 0, none⟩) n cap, .int .i64 f1, .int .i64 f2, .int .i64 f3, .int .i64 f4, .int .i64 f5, .int .i64 f6, .int .i64 f7, .int .i64 f8, .int .i64 f9, .int .i64 f10, .int .u64 f11] TCf (0, 0)) := heap_at _ _ _ (by simp)
  obtain ⟨w2, hw2⟩ : ∃ w2, w2 = ((w.alloc (.cells #[.slice (some ⟨u, 0, none⟩) n cap, .int .i64 f1, .int .i64 f2, .int .i64 f3, .int .i64 f4, .int .i64 f5, .int .i64 f6, .int .i64 f7, .int .i64 f8, .int .i64 f9, .int .i64 f10, .int .u64 f11] TCf)).alloc (.cells #[.slice (some ⟨v, 0, none⟩) n cap, .int .i64 f1, .int .i64 f2, .int .i64 f3, .int .i64 f4, .int .i64 f5, .int .i64 f6, .int .i64 f7, .int .i64 f8, .int .i64 f9, .int .i64 f10, .int .u64 f11] TCf)) := ⟨_, rfl⟩
  rw [← hw2] at hB2 hx hy
  have HU := Lib.hid (fun j hj => (hB2.cell (p := ⟨u, j, none⟩) (World.block_lt_of_cell? w _ (hu j hj))).trans (hu j hj))
  have HV := Lib.hid (fun j hj => (hB2.cell (p := ⟨v, j, none⟩) (World.block_lt_of_cell? w _ (hv j hj))).trans (hv j hj))
  have HX := Lib.hid (And.intro hx hy)
  have HB2 := Lib.hid hB2
  have xc0 := cell_of_row w2 w.heap.size 0 _ _ (0, 0) hx
  have xd0 := cell_of_row w2 (w.heap.size + 1) 0 _ _ (0, 0) hy
  have hn4 : (n : Int) ≤ 4 := by omega
  clear hu hv hx hy hB2
  go_enter Try.func8, Try.ntmps8
  go_upto_region 1 with fail
  rw [← hw2]
  clear hw2
  go_wp2
  go_loopw [5] (fun i wr => ∃ k : Nat, i = .int .i64 (k : Int) ∧ k ≤ n ∧ ∃ q, wr = w2.drewN q) (fun i _ => n - (intOf i).toNat)
  case atStart => exact ⟨0, rfl, Nat.zero_le _, 0, rfl⟩
  case round =>
    obtain ⟨k, rfl, hk, q, rfl⟩ := hrel
    by_cases hlt : k < n
    · have hck := HU.out k hlt
      have hck' := HV.out k hlt
      have hi0 : (0 : Int) ≤ (k : Int) := by omega
      have hi1 : (k : Int) < (n : Int) := by omega
      obtain ⟨x, hx⟩ : ∃ x, x = bs k := ⟨_, rfl⟩
      rw [← hx] at hck hck'
      clear hx
      cases x
      all_goals
        go_wp2
        go_quiet (fail)
        go_wp2
        exact ⟨⟨k + 1, by go_num, by omega, _, rfl⟩, by simp [intOf]; omega⟩
    · obtain rfl : k = n := by omega
      have HB := Lib.hid (below_drewN HB2.out q)
      have qx := fun i => cell_of_row w2 w.heap.size i _ _ (0, 0) HX.out.1
      have qy := fun i => cell_of_row w2 (w.heap.size + 1) i _ _ (0, 0) HX.out.2
      have x1 := qx 1; have y1 := qy 1; have x2 := qx 2; have y2 := qy 2; have x3 := qx 3; have y3 := qy 3; have x4 := qx 4; have y4 := qy 4; have x5 := qx 5; have y5 := qy 5; have x6 := qx 6; have y6 := qy 6; have x7 := qx 7; have y7 := qy 7; have x8 := qx 8; have y8 := qy 8; have x9 := qx 9; have y9 := qy 9; have x10 := qx 10; have y10 := qy 10; have x11 := qx 11; have y11 := qy 11
      clear qx qy
      go_wp2
      go_ret
      exact ⟨rfl, HB.out⟩
end Go.Proofs.Ytfojmjgnndlfnaa.DiceW
