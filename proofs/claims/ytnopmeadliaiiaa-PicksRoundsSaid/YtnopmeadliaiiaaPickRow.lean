/- A row of what is left: made, filled, deleted from; slices.Index. -/
import Derived.Test.YtnopmeadliaiiaaPickMath
namespace Go.Proofs.Ytnopmeadliaiiaa.Picks
open Go.RowKit

/-- Block u has what is left, in its first cells. -/
structure RB (W : World) (u n m : Nat) (xs : List Int) : Prop where
  blk : ∃ cur, W.heap[u]? = some (.cells cur 3 (0, 0)) ∧ cur.size = n ∧ cur.toList.take m = ints xs
  len : xs.length = m
  le : m ≤ n
theorem RB.same {W W1 : World} {u n m : Nat} {xs : List Int} (h : RB W u n m xs) (hb : W1.heap[u]? = W.heap[u]?) : RB W1 u n m xs := by
  obtain ⟨cur, h1, h2, h3⟩ := h.blk
  exact ⟨⟨cur, hb.trans h1, h2, h3⟩, h.len, h.le⟩
theorem RB.lt {W : World} {u n m : Nat} {xs : List Int} (h : RB W u n m xs) : u < W.heap.size := by
  obtain ⟨cur, h1, _⟩ := h.blk
  exact lt_blk h1
theorem RB.at {W : World} {u n m : Nat} {xs : List Int} (h : RB W u n m xs) (j : Nat) (hj : j < m) : W.cell? ⟨u, j, none⟩ = some (.int .i64 (xs.getD j 0)) := by
  obtain ⟨cur, h1, h2, h3⟩ := h.blk
  have hl := h.len
  have e : (cur.toList.take m)[j]? = cur.toList[j]? := List.getElem?_take_of_lt hj
  rw [cell_blk h1, ← Array.getElem?_toList, ← e, h3]
  exact ints_at xs j (by omega)
theorem RB.free {W : World} {u n m : Nat} {xs : List Int} (h : RB W u n m xs) (j : Nat) : W.frozen? ⟨u, j, none⟩ = false := by
  obtain ⟨cur, h1, _⟩ := h.blk
  exact free_blk h1 j
theorem RB.of {W : World} {base u n : Nat} {vs : List Value} {xs : List Int} (h : W.ownsRow base 3 1 (.slice (some ⟨u, 0, none⟩) n n) n vs) (hv : vs = ints xs) : RB W u n n xs := by
  have hl := h.1
  rcases h.2 with ⟨h0, _⟩ | ⟨g, cap, cur, hs, _, hh, _, _, hsz, htk⟩
  · simp at h0
  · injection hs with hA _ hcc
    injection hA with hA
    injection hA with hA
    subst hA hcc
    refine ⟨⟨cur, hh, by omega, ?_⟩, ?_, Nat.le_refl _⟩
    · rw [← hv, ← htk, Nat.mul_one]
    · rw [hv] at hl
      simpa [ints] using hl

theorem del_any {w : World} {u n m : Nat} {xs : List Int} (h : RB w u n m xs) (hn : n ≤ 12) (i : Nat) (hi : i < m) :
    Calls Try.prog 24 #[.slice (some ⟨u, 0, none⟩) m n, .int .i64 (i : Int), .int .i64 ((i + 1 : Nat) : Int)] w fun e w' => e = .returned (.slice (some ⟨u, 0, none⟩) (m - 1) n) ∧ RB w' u n (m - 1) (xs.eraseIdx i) ∧ ∃ q vs, w' = (w.drewN q).setCells u 0 vs := by
  have hl := h.len
  have hle := h.le
  have hd := Any.slices_Delete_int_cells laysDelete u 0 m n i (i + 1) xs w (by omega) hle (by omega) (by omega) (by omega) (fun j hj => by rw [Nat.zero_add]; exact h.at j (by omega)) (fun j hj => by rw [Nat.zero_add]; exact h.free j)
  rw [show i + 1 - i = 1 from by omega] at hd
  refine hd.mono ?_
  rintro e w' ⟨rfl, q, rfl⟩
  refine ⟨rfl, ⟨?_, by rw [List.length_eraseIdx_of_lt (by omega)]; omega, by omega⟩, q, _, rfl⟩
  obtain ⟨cur, h1, h2, h3⟩ := h.blk
  obtain ⟨cur', g1, g2, g3⟩ := heap_setCells u (List.map (Value.int .i64) ((xs.take m).take i ++ (xs.take m).drop (i + 1) ++ List.replicate 1 0)) 0 (w.drewN q) cur h1 (by simp; omega)
  refine ⟨cur', g1, g2.trans h2, ?_⟩
  have e : (xs.take m).take i ++ (xs.take m).drop (i + 1) = xs.eraseIdx i := by
    rw [List.take_of_length_le (by omega : xs.length ≤ m), List.eraseIdx_eq_take_drop_succ]
  rw [g3, e, List.take_zero, List.nil_append, List.take_append_of_le_length (by simp [List.length_eraseIdx_of_lt, hl, hi])]
  rw [List.map_append, List.take_append_of_le_length (by simp [List.length_eraseIdx_of_lt, hl, hi]), List.take_of_length_le (by simp [List.length_eraseIdx_of_lt, hl, hi])]
  rfl

/-- Of a row that reads as numbers: where one stands first. -/
def Ixs (xs : List Int) (x : Int) (r : Int) : Prop := (∃ k, ix xs x = some k ∧ r = (k : Int)) ∨ (ix xs x = none ∧ r = -1)
set_option maxHeartbeats 1000000 in
theorem index_any {w : World} {u n m : Nat} {xs : List Int} (h : RB w u n m xs) (hn : n ≤ 12) (x : Int) :
    Calls Try.prog 25 #[.slice (some ⟨u, 0, none⟩) m n, .int .i64 x] w fun e w' => (∃ r, e = .returned (.int .i64 r) ∧ Ixs xs x r) ∧ ∃ q, w' = w.drewN q := by
  have hle := h.le
  have HR := Lib.hid h
  have hm12 : m ≤ 12 := by omega
  clear h
  go_enter Try.func25, Try.ntmps25
  go_wp2
  go_loopw [8] (fun i wr => ∃ k : Nat, i = .int .i64 (k : Int) ∧ k ≤ m ∧ Hid (∀ j, j < k → xs.getD j 0 ≠ x) ∧ ∃ q, wr = w.drewN q) (fun i _ => m - (intOf i).toNat)
  case atStart => exact ⟨0, rfl, Nat.zero_le _, Lib.hid (fun j hj => absurd hj (by omega)), 0, rfl⟩
  case round =>
    obtain ⟨k, rfl, hk, hp, q, rfl⟩ := hrel
    by_cases hlt : k < m
    · have hc := HR.out.at k hlt
      have hi0 : (0 : Int) ≤ (k : Int) := by omega
      have hi1 : (k : Int) < (m : Int) := by omega
      obtain ⟨z, hz⟩ : ∃ z, xs.getD k 0 = z := ⟨_, rfl⟩
      rw [hz] at hc
      have HZ := Lib.hid hz
      clear hz
      by_cases hs : x = z
      · have hsb : (x == z) = true := by simpa using hs
        have HS := Lib.hid hs
        clear hs
        go_wp2
        go_ret
        refine ⟨⟨_, rfl, .inl ⟨k, ix_hit xs x k (by have := HR.out.len; omega) (HZ.out.trans HS.out.symm) hp.out, rfl⟩⟩, _, rfl⟩
      · have hsb : (x == z) = false := by simpa using hs
        have HS := Lib.hid hs
        clear hs
        go_wp2
        refine ⟨⟨k + 1, by go_num, by omega, Lib.hid (fun j hj => ?_), _, rfl⟩, by simp [intOf]; omega⟩
        by_cases hjk : j = k
        · rw [hjk, HZ.out]; exact fun e => HS.out e.symm
        · exact hp.out j (by omega)
    · obtain rfl : k = m := by omega
      go_wp2
      go_ret
      refine ⟨⟨_, rfl, .inr ⟨ix_none xs x fun hx => ?_, rfl⟩⟩, _, rfl⟩
      obtain ⟨i, hi, he⟩ := List.getElem_of_mem hx
      have hl := HR.out.len
      refine hp.out i (by omega) ?_
      rw [List.getD_eq_getElem?_getD, List.getElem?_eq_getElem hi]
      simpa using he
end Go.Proofs.Ytnopmeadliaiiaa.Picks
