/- 'EventFinds' holds for every input, with no condition: where an event stands first in a log, which ones are of a kind, a channel and a side, and whether heights rise. -/
import Derived.Test.YtnidafgjbocfcaaEventRise
namespace Go.Proofs.Ytnidafgjbocfcaa.eventFinds
open Go Go.RowKit Go.Shelf Ev

theorem new_rd {W : World} {b : Nat} {cs : Array Value} {ms : List E8} (h : W.heap[b]? = some (.cells cs 40 (0, 0))) (hc : cs.toList = evs ms) : Rd W (some ⟨b, 0, none⟩) ms.length ms := by
  refine ⟨rfl, fun _ => ⟨b, 0, rfl, lt_blk h, fun i hi j v hv => ?_⟩⟩
  have hj : j < 8 := by
    have := (Array.getElem?_eq_some_iff.1 hv).1
    simpa [E8.cells] using this
  rw [cell_of_row W b _ cs _ (0, 0) h, ← Array.getElem?_toList, hc, Nat.zero_add, evs_at ms i j hi hj, hv]

def hE (h : Int) : E8 := ⟨0, h, 0, 0, 0, 0, ⟨#[]⟩, ⟨#[]⟩⟩

set_option maxRecDepth 100000 in
set_option maxHeartbeats 2000000 in
theorem awake_any (w : World) : Calls Try.prog 13 #[] w fun e w' => e = .returned (.bool true) ∧ Below w.heap.size w w' := by
  go_enter Try.func13, Try.ntmps13
  go_wp2_with fail
  refine (rising_any _ 3 3 [hE 1, hE 1, hE 3] _ (new_rd (heap_alloc_new w _) rfl) (by decide)).mono ?_
  rintro e w1 ⟨rfl, hb1⟩
  rw [show up [hE 1, hE 1, hE 3] 3 = true from by decide]
  go_wp2_with fail
  refine (rising_any _ 2 2 [hE 2, hE 1] _ (new_rd (heap_alloc_new w1 _) rfl) (by decide)).mono ?_
  rintro e w2 ⟨rfl, hb2⟩
  rw [show up [hE 2, hE 1] 2 = false from by decide]
  go_wp2_with (go_at_call 49; ((refine (word_ack _).mono ?_); rintro e w3 ⟨rfl, rfl⟩))
  go_ret
  have h1 : w.heap.size ≤ w1.heap.size := by have := hb1.size; simp at this; omega
  have hA : Below w.heap.size w w1 := ((Below.refl _ w).alloc (Nat.le_refl _) _).trans (hb1.mono (by simp))
  exact ⟨rfl, hA.trans (((Below.refl _ w1).alloc (Nat.le_refl _) _).trans (hb2.mono (by simp)) |>.mono h1)⟩

theorem sel_small (es : List E8) (kind ch fr : Int) {len : Nat} (h : len ≤ 60) : (selp ch fr (comes es kind len)).length ≤ 9223372036854775807 := by
  have h1 := selp_len ch fr (comes es kind len)
  have h2 := comes_len es kind len
  omega
theorem same_b (A B : Option Addr) (n c d : Nat) (ms : List E8) (w : World) (hn : n ≤ 9223372036854775807) (ha : Rd w A n ms) (hb : Rd w B n ms) :
    Calls Try.prog 16 #[.slice A n c, .slice B n d] w fun e w' => e = .returned (.bool true) ∧ Below w.heap.size w w' :=
  (same_evs A B n c d ms w hn ha hb).mono fun _ _ ⟨he, _, hq⟩ => ⟨he, hq ▸ below_drewN (Below.refl _ _) _⟩

section
variable {w W1 W2 : World} {c f s : Int}
theorem SE.call (h : Below w.heap.size w W1 ∧ w.heap.size < W1.heap.size ∧ W1.cell? ⟨w.heap.size, 0, none⟩ = some (.int .i64 c) ∧ W1.cell? ⟨w.heap.size, 1, none⟩ = some (.int .i64 f) ∧ W1.cell? ⟨w.heap.size, 2, none⟩ = some (.int .u64 s)) (hc : Below W1.heap.size W1 W2) : Below w.heap.size w W2 ∧ w.heap.size < W2.heap.size ∧ W2.cell? ⟨w.heap.size, 0, none⟩ = some (.int .i64 c) ∧ W2.cell? ⟨w.heap.size, 1, none⟩ = some (.int .i64 f) ∧ W2.cell? ⟨w.heap.size, 2, none⟩ = some (.int .u64 s) := by
  obtain ⟨h0, h1, h2, h3, h4⟩ := h
  exact ⟨h0.trans (hc.mono h0.size), Nat.lt_of_lt_of_le h1 hc.size, (hc.cell h1).trans h2, (hc.cell h1).trans h3, (hc.cell h1).trans h4⟩
theorem SE.drew (h : Below w.heap.size w W1 ∧ w.heap.size < W1.heap.size ∧ W1.cell? ⟨w.heap.size, 0, none⟩ = some (.int .i64 c) ∧ W1.cell? ⟨w.heap.size, 1, none⟩ = some (.int .i64 f) ∧ W1.cell? ⟨w.heap.size, 2, none⟩ = some (.int .u64 s)) : Below w.heap.size w W1.drew ∧ w.heap.size < W1.drew.heap.size ∧ W1.drew.cell? ⟨w.heap.size, 0, none⟩ = some (.int .i64 c) ∧ W1.drew.cell? ⟨w.heap.size, 1, none⟩ = some (.int .i64 f) ∧ W1.drew.cell? ⟨w.heap.size, 2, none⟩ = some (.int .u64 s) := ⟨h.1.drew, h.2⟩
theorem SE.drewN (h : Below w.heap.size w W1 ∧ w.heap.size < W1.heap.size ∧ W1.cell? ⟨w.heap.size, 0, none⟩ = some (.int .i64 c) ∧ W1.cell? ⟨w.heap.size, 1, none⟩ = some (.int .i64 f) ∧ W1.cell? ⟨w.heap.size, 2, none⟩ = some (.int .u64 s)) (n : Nat) : Below w.heap.size w (W1.drewN n) ∧ w.heap.size < (W1.drewN n).heap.size ∧ (W1.drewN n).cell? ⟨w.heap.size, 0, none⟩ = some (.int .i64 c) ∧ (W1.drewN n).cell? ⟨w.heap.size, 1, none⟩ = some (.int .i64 f) ∧ (W1.drewN n).cell? ⟨w.heap.size, 2, none⟩ = some (.int .u64 s) := ⟨below_drewN h.1 n, h.2⟩
end

set_option maxHeartbeats 1000000 in
theorem walk_long (A : Option Addr) (len cap : Nat) (kind c f s : Int) (w : World) (h : 60 < len) (hm : len ≤ 9223372036854775807) :
    Calls Try.prog 4 #[.slice A len cap, .int .i64 kind, .agg #[.int .i64 c, .int .i64 f, .int .u64 s]] w fun e w' => e = .returned (.bool true) ∧ Below w.heap.size w w' := by
  have hp : (60 : Int) < (len : Int) := by omega
  go_enter Try.func4, Try.ntmps4
  go_wp2_with (go_at_call 13; ((with_reducible refine (awake_any _).mono ?_); rintro e w1 ⟨rfl, hb⟩))
  go_ret
  exact ⟨rfl, ((Below.refl _ _).alloc (Nat.le_refl _) _).trans (hb.mono (by simp))⟩

set_option maxRecDepth 100000 in
set_option maxHeartbeats 4000000 in
theorem walk_short (A : Option Addr) (len cap : Nat) (es : List E8) (kind c f s : Int) (w : World) (hr : Rd w A len es) (h : len ≤ 60) :
    Calls Try.prog 4 #[.slice A len cap, .int .i64 kind, .agg #[.int .i64 c, .int .i64 f, .int .u64 s]] w fun e w' => e = .returned (.bool true) ∧ Below w.heap.size w w' := by
  have hp : ¬ (60 : Int) < (len : Int) := by omega
  go_enter Try.func4, Try.ntmps4
  go_wp2
  go_loopw [7, 8] (fun r i wr => ∃ k : Nat, i = .int .i64 (k : Int) ∧ 1 ≤ k ∧ (k = 1 ∨ k ≤ len) ∧ r = .bool (up es k) ∧ ∃ q, wr = (w.alloc (.cells #[.int .i64 c, .int .i64 f, .int .u64 s] 30)).drewN q) (fun _ i _ => len - (intOf i).toNat)
  case atStart => exact ⟨1, rfl, Nat.le_refl _, .inl rfl, rfl, 0, rfl⟩
  case round =>
    obtain ⟨k, rfl, hk1, hk2, rfl, q, rfl⟩ := hrel
    by_cases hlt : k < len
    · obtain ⟨p, rfl⟩ : ∃ p, k = p + 1 := ⟨k - 1, by omega⟩
      obtain ⟨b, off, rfl, _, hc⟩ := hr.at (W := w.alloc (.cells #[.int .i64 c, .int .i64 f, .int .u64 s] 30)) ((Below.refl _ w).alloc (Nat.le_refl _) _) (by omega)
      have ha := hc (p + 1) hlt
      have hb := hc p (by omega)
      clear hc hr
      have HU := Lib.hid (up_step es (p + 1) p rfl _ _ rfl rfl)
      generalize hgi : p + 1 = i at *
      have e1 : (i : Int) - 1 = (p : Int) := by omega
      generalize es.getD i e0 = x at ha HU
      generalize es.getD p e0 = y at hb HU
      have a1 := ha.2.1
      have b1 := hb.2.1
      clear ha hb
      have hi0 : (0 : Int) ≤ (i : Int) := by omega
      have hi1 : (i : Int) < (len : Int) := by omega
      have hp0 : (0 : Int) ≤ (p : Int) := by omega
      have hp1 : (p : Int) < (len : Int) := by omega
      have HG := Lib.hid hgi
      clear hgi
      generalize up es i = u at HU ⊢
      cases u with
      | false =>
        go_wp2
        go_quiet (fail)
        go_wp2
        exact ⟨⟨i + 1, by go_num, by omega, .inr (by omega), by rw [HU.out]; rfl, _, rfl⟩, by simp [intOf]; omega⟩
      | true =>
        by_cases hx : y.h ≤ x.h
        · go_wp2
          go_quiet (fail)
          go_wp2
          exact ⟨⟨i + 1, by go_num, by omega, .inr (by omega), by rw [HU.out]; simp [hx], _, rfl⟩, by simp [intOf]; omega⟩
        · have hx' : x.h < y.h := by omega
          go_wp2
          go_quiet (fail)
          go_wp2
          exact ⟨⟨i + 1, by go_num, by omega, .inr (by omega), by rw [HU.out]; simp, _, rfl⟩, by simp [intOf]; omega⟩
    · have hup : up es k = up es len := by
        rcases hk2 with rfl | hk2
        · by_cases h0 : len = 0
          · subst h0; rfl
          · rw [show len = 1 from by omega]
        · rw [show k = len from by omega]
      rw [hup]
      generalize hu : up es len = u
      have HU := Lib.hid hu
      clear hu hup
      have hS : Below w.heap.size w ((w.alloc (.cells #[.int .i64 c, .int .i64 f, .int .u64 s] 30)).drewN q) ∧ w.heap.size < ((w.alloc (.cells #[.int .i64 c, .int .i64 f, .int .u64 s] 30)).drewN q).heap.size ∧ ((w.alloc (.cells #[.int .i64 c, .int .i64 f, .int .u64 s] 30)).drewN q).cell? ⟨w.heap.size, 0, none⟩ = some (.int .i64 c) ∧ ((w.alloc (.cells #[.int .i64 c, .int .i64 f, .int .u64 s] 30)).drewN q).cell? ⟨w.heap.size, 1, none⟩ = some (.int .i64 f) ∧ ((w.alloc (.cells #[.int .i64 c, .int .i64 f, .int .u64 s] 30)).drewN q).cell? ⟨w.heap.size, 2, none⟩ = some (.int .u64 s) := SE.drewN ⟨(Below.refl _ w).alloc (Nat.le_refl _) _, by simp, cell_of_row _ _ 0 _ _ _ (heap_alloc_new w _), cell_of_row _ _ 1 _ _ _ (heap_alloc_new w _), cell_of_row _ _ 2 _ _ _ (heap_alloc_new w _)⟩ q
      generalize (w.alloc (.cells #[.int .i64 c, .int .i64 f, .int .u64 s] 30)).drewN q = w0 at hS ⊢
      go_wp2
      go_region_held3 (fun W => Below w.heap.size w W ∧ w.heap.size < W.heap.size ∧ W.cell? ⟨w.heap.size, 0, none⟩ = some (.int .i64 c) ∧ W.cell? ⟨w.heap.size, 1, none⟩ = some (.int .i64 f) ∧ W.cell? ⟨w.heap.size, 2, none⟩ = some (.int .u64 s))
        (first | assumption | exact SE.drew (by assumption) | exact SE.call (by assumption) hb1 | exact SE.call (by assumption) hb2 | exact SE.call (by assumption) hb3 | exact SE.call (by assumption) hb4 | exact SE.call (by assumption) hb5 | exact SE.call (by assumption) hb6 | exact SE.call (by assumption) hb7 | exact SE.call (SE.drew (by assumption)) hb1)
        (first
          | (go_at_call 13; ((with_reducible refine (awake_any _).mono ?_); rintro e w1 ⟨rfl, hb1⟩))
          | (go_at_call 14; ((with_reducible refine (find_any _ _ _ es _ _ _ _ _ (hr.below (And.left (by assumption))) (by omega)).mono ?_); rintro e w2 ⟨rfl, hb2⟩))
          | (go_at_call 15; ((with_reducible refine (ref_find_any _ _ _ es _ _ _ _ _ (hr.below (And.left (by assumption))) (by omega)).mono ?_); rintro e w3 ⟨rfl, hb3⟩))
          | (go_at_call 17; ((with_reducible refine (only_any _ _ _ es _ _ _ _ (hr.below (And.left (by assumption))) (by omega)).mono ?_); rintro e w4 ⟨⟨v4, rfl, ho4⟩, hb4⟩; obtain ⟨A4, c4, rfl⟩ := own_form8 ho4))
          | (go_at_call 18; ((with_reducible refine (ref_only_any _ _ _ es _ _ _ _ (hr.below (And.left (by assumption))) (by omega)).mono ?_); rintro e w5 ⟨⟨v5, rfl, ho5⟩, hb5⟩; obtain ⟨A5, c5, rfl⟩ := own_form8 ho5))
          | (go_at_call 16; ((with_reducible refine (same_b _ _ _ _ _ _ _ (sel_small _ _ _ _ h) ((row_at ho4 rfl).below hb5) (row_at ho5 rfl)).mono ?_); rintro e w6 ⟨rfl, hb6⟩))
          | (go_at_call 19; ((with_reducible refine (rising_any _ _ _ es _ (hr.below (And.left (by assumption))) (by omega)).mono ?_); rintro e w7 ⟨rfl, hb7⟩)))
      go_wp2
      go_ret
      obtain ⟨hB, _⟩ : Below w.heap.size w w7 ∧ w.heap.size < w7.heap.size ∧ _ := by assumption
      refine ⟨?_, hB⟩
      show Ending.returned (.bool (up es len == u)) = _
      rw [HU.out]
      simp
end Go.Proofs.Ytnidafgjbocfcaa.eventFinds
