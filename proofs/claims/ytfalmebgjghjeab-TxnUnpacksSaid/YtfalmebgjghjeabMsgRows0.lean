/- Rows of messages: of the call's own; the page's SameMsgs. -/
import Derived.Test.YtfalmebgjghjeabMsgBox
import Derived.Test.YtfalmebgjghjeabMsg0
import Derived.Maps.AppendAt
namespace Go.Proofs.Ytfalmebgjghjeab.Msg
open Go Go.RowKit

def m0 : M7 := ⟨0, 0, 0, 0, 0, .empty, .empty⟩

/-- Messages one behind the other. -/
def mevs (ms : List M7) : List Value := ms.flatMap fun m => m.cells.toList
theorem mevs_snoc (ms : List M7) (m : M7) : mevs (ms ++ [m]) = mevs ms ++ m.cells.toList := by simp [mevs]
theorem mevs_app (xs ys : List M7) : mevs (xs ++ ys) = mevs xs ++ mevs ys := by simp [mevs]
theorem mevs_len (ms : List M7) : (mevs ms).length = ms.length * 7 := by
  induction ms with
  | nil => rfl
  | cons m ms ih =>
    show (m.cells.toList ++ mevs ms).length = _
    rw [List.length_append, ih]
    simp [M7.cells]
    omega
theorem mevs_at : ∀ (ms : List M7) (i j : Nat), i < ms.length → j < 7 → (mevs ms)[i * 7 + j]? = ((ms.getD i m0).cells)[j]?
  | [], i, j, h, _ => absurd h (by simp)
  | m :: ms, 0, j, _, hj => by
    show (m.cells.toList ++ mevs ms)[0 * 7 + j]? = _
    rw [List.getElem?_append_left (by simp [M7.cells]; omega)]
    simp
  | m :: ms, i + 1, j, h, hj => by
    show (m.cells.toList ++ mevs ms)[(i + 1) * 7 + j]? = _
    rw [List.getElem?_append_right (by simp [M7.cells]; omega)]
    have := mevs_at ms i j (by simpa using h) hj
    rw [show (i + 1) * 7 + j - m.cells.toList.length = i * 7 + j from by simp [M7.cells]; omega, this]
    simp
theorem mevs_one (ms : List M7) : ∀ u ∈ mevs ms, u.oneCell' = true := by
  intro u hu
  simp only [mevs, List.mem_flatMap] at hu
  obtain ⟨m, _, hu⟩ := hu
  simp [M7.cells] at hu
  rcases hu with rfl | rfl | rfl | rfl | rfl | rfl | rfl <;> rfl
theorem cells7_one (m : M7) : ∀ u ∈ m.cells.toList, u.oneCell' = true := by
  intro u hu
  simp [M7.cells] at hu
  rcases hu with rfl | rfl | rfl | rfl | rfl | rfl | rfl <;> rfl
theorem cells7_new (w : World) (m : M7) (t : TypeId) : ∀ j u, (m.cells.toList)[j]? = some u → (w.alloc (.cells m.cells t)).cell? ((⟨w.heap.size, 0, none⟩ : Addr).add j) = some u := by
  intro j u hj
  have : (⟨w.heap.size, 0, none⟩ : Addr).add j = ⟨w.heap.size, j, none⟩ := by unfold Addr.add; by_cases h : j = 0 <;> simp [h]
  rw [this, cell_of_row _ _ _ _ _ (0, 0) (heap_alloc_new w _), ← Array.getElem?_toList]
  exact hj


theorem row_at {w : World} {base n c : Nat} {A : Option Addr} {ms : List M7} (h : w.ownsRow base 50 7 (.slice A n c) n (mevs ms)) (hn : ms.length = n) : Rd w A n ms := by
  refine ⟨hn, fun hl => ?_⟩
  rcases h.2 with ⟨_, h0⟩ | ⟨g, cap, cur, hv, _, hh, hc, _, hsz, htk⟩
  · omega
  · injection hv with hA _ hcc
    subst hA hcc
    refine ⟨g, 0, rfl, lt_blk hh, fun i hi j v hv => ?_⟩
    have hj : j < 7 := by
      have := (Array.getElem?_eq_some_iff.1 hv).1
      simpa [M7.cells] using this
    rw [cell_of_row w g _ cur _ (0, 0) hh, ← Array.getElem?_toList]
    have h1 : (cur.toList.take (n * 7))[0 + i * 7 + j]? = cur.toList[0 + i * 7 + j]? := List.getElem?_take_of_lt (by omega)
    rw [← h1, htk, Nat.zero_add, mevs_at ms i j (by omega) hj]
    exact hv
theorem new_rd {W : World} {b : Nat} {cs : Array Value} {ms : List M7} (h : W.heap[b]? = some (.cells cs 50 (0, 0))) (hc : cs.toList = mevs ms) : Rd W (some ⟨b, 0, none⟩) ms.length ms := by
  refine ⟨rfl, fun _ => ⟨b, 0, rfl, lt_blk h, fun i hi j v hv => ?_⟩⟩
  have hj : j < 7 := by
    have := (Array.getElem?_eq_some_iff.1 hv).1
    simpa [M7.cells] using this
  rw [cell_of_row W b _ cs _ (0, 0) h, ← Array.getElem?_toList, hc, Nat.zero_add, mevs_at ms i j hi hj]
  exact hv

theorem own_formN {w : World} {base e n size : Nat} {v : Value} {xs : List Value} (h : w.ownsRow base e size v n xs) : ∃ A c, v = .slice A n c := by
  rcases h.2 with ⟨rfl, rfl⟩ | ⟨g, cap, cur, rfl, _⟩
  · exact ⟨none, 0, rfl⟩
  · exact ⟨_, _, rfl⟩

/-- The i-th message stands there. -/
def At (W : World) (b o : Nat) (m : M7) : Prop :=
  W.cell? ⟨b, o, none⟩ = some (.int .i64 m.k) ∧ W.cell? ⟨b, o + 1, none⟩ = some (.int .i64 m.c) ∧ W.cell? ⟨b, o + 2, none⟩ = some (.int .i64 m.f) ∧
  W.cell? ⟨b, o + 3, none⟩ = some (.int .u64 m.s) ∧ W.cell? ⟨b, o + 4, none⟩ = some (.int .u64 m.t) ∧ W.cell? ⟨b, o + 5, none⟩ = some (.string m.d) ∧ W.cell? ⟨b, o + 6, none⟩ = some (.string m.a)
theorem Rd.at {w W : World} {A : Option Addr} {len : Nat} {ms : List M7} (h : Rd w A len ms) (hb : Below w.heap.size w W) (hl : 0 < len) :
    ∃ b off, A = some ⟨b, off, none⟩ ∧ b < w.heap.size ∧ ∀ i, i < len → At W b (off + i * 7) (ms.getD i m0) := by
  obtain ⟨b, off, rfl, hbl, hc⟩ := h.2 hl
  refine ⟨b, off, rfl, hbl, fun i hi => ?_⟩
  have h1 : ∀ j v, ((ms.getD i m0).cells)[j]? = some v → W.cell? ⟨b, off + i * 7 + j, none⟩ = some v := fun j v hv => (hb.cell (p := ⟨b, _, none⟩) hbl).trans (hc i hi j v hv)
  exact ⟨h1 0 _ rfl, h1 1 _ rfl, h1 2 _ rfl, h1 3 _ rfl, h1 4 _ rfl, h1 5 _ rfl, h1 6 _ rfl⟩

theorem infoM : (Try.prog.info? 50).map (fun i => (i.zero, i.size, i.bytes)) = some (some (.agg #[.int .i64 0, .int .i64 0, .int .i64 0, .int .u64 0, .int .u64 0, .string ⟨#[]⟩, .string ⟨#[]⟩]), 7, 72) := by kernel_rfl

theorem nilM (w : World) : (binOp .eql 32 (.slice none 0 0) (.slice none 0 0)).run Try.prog w = .ok (.bool true) w := by kernel_rfl
theorem someM (a : Addr) (n c : Nat) (w : World) : (binOp .eql 32 (.slice (some a) n c) (.slice none 0 0)).run Try.prog w = .ok (.bool false) w := by kernel_rfl
theorem nilMc (c : Nat) (w : World) : (binOp .eql 32 (.slice none 0 c) (.slice none 0 0)).run Try.prog w = .ok (.bool true) w := by kernel_rfl

theorem mneq_run (m : M7) (W : World) : (binOp .neq 50 (.agg #[.int .i64 m.k, .int .i64 m.c, .int .i64 m.f, .int .u64 m.s, .int .u64 m.t, .string m.d, .string m.a]) (.agg #[.int .i64 m.k, .int .i64 m.c, .int .i64 m.f, .int .u64 m.s, .int .u64 m.t, .string m.d, .string m.a])).run Try.prog W = .ok (.bool false) W := by
  go_simp

set_option maxHeartbeats 1000000 in
theorem same_msgs (A B : Option Addr) (n c d : Nat) (ms : List M7) (w : World) (hn : n ≤ 9223372036854775807) (ha : Rd w A n ms) (hb : Rd w B n ms) :
    Calls Try.prog 30 #[.slice A n c, .slice B n d] w fun e w' => e = .returned (.bool true) ∧ Below w.heap.size w w' := by
  go_enter Try.func30, Try.ntmps30
  go_wp2
  go_loopw [5] (fun i wr => ∃ k : Nat, i = .int .i64 (k : Int) ∧ k ≤ n ∧ ∃ q, wr = w.drewN q) (fun i _ => n - (intOf i).toNat)
  case atStart => exact ⟨0, rfl, Nat.zero_le _, 0, rfl⟩
  case round =>
    obtain ⟨k, rfl, hk, q, rfl⟩ := hrel
    by_cases hlt : k < n
    · obtain ⟨b, off, rfl, _, hc⟩ := ha.at (Below.refl _ w) (by omega)
      obtain ⟨b', off', rfl, _, hc'⟩ := hb.at (Below.refl _ w) (by omega)
      have hck := hc k hlt
      have hck' := hc' k hlt
      clear hc hc' ha hb
      generalize ms.getD k m0 = m at hck hck'
      obtain ⟨c0, c1, c2, c3, c4, c5, c6⟩ := hck
      obtain ⟨d0, d1, d2, d3, d4, d5, d6⟩ := hck'
      have hne := mneq_run m
      have hi0 : (0 : Int) ≤ (k : Int) := by omega
      have hi1 : (k : Int) < (n : Int) := by omega
      go_wp2
      go_quiet (fail)
      go_wp2
      exact ⟨⟨k + 1, by go_num, by omega, _, rfl⟩, by simp [intOf]; omega⟩
    · obtain rfl : k = n := by omega
      go_wp2
      go_ret
      exact ⟨rfl, below_drewN (Below.refl _ _) _⟩
end Go.Proofs.Ytfalmebgjghjeab.Msg
