/- 'GapAll': what holds between two numbers. -/
import Derived.Test.YtlgbendncgboiaaGap23
import Derived.Test.YtlgbendncgboiaaGap14
import Derived.Test.YtlgbendncgboiaaGapAllMath
namespace Go.Proofs.Ytlgbendncgboiaa.Gp
open Go Go.RowKit Gm

abbrev TSeen : Nat := 46
def seenC (S : Nat → Bool) : Array Value := ((List.range 41).map fun j => Value.int .i64 (if 0 < j ∧ S (j - 1) = true then 1 else 0)).toArray
theorem seenC_size (S : Nat → Bool) : (seenC S).size = 41 := by simp [seenC]
theorem seenC_get (S : Nat → Bool) (j : Nat) (h : j < 41) : (seenC S)[j]? = some (.int .i64 (if 0 < j ∧ S (j - 1) = true then 1 else 0)) := by simp [seenC, h]
theorem seenC_set (S : Nat → Bool) (k : Nat) (h : k < 40) : (seenC S).setIfInBounds (k + 1) (.int .i64 1) = seenC (fun j => S j || decide (j = k)) := by
  apply Array.ext_getElem?
  intro i
  by_cases hi : i < 41
  · rw [seenC_get _ i hi, Array.getElem?_setIfInBounds]
    by_cases e : k + 1 = i
    · subst e
      simp [seenC_size, h]
    · rw [if_neg e, seenC_get S i hi]
      congr 2
      have : ¬ (0 < i ∧ i - 1 = k) := by omega
      by_cases h0 : 0 < i
      · have h1 : ¬ i - 1 = k := fun e => this ⟨h0, e⟩
        simp [h0, h1]
      · simp [h0]
  · rw [Array.getElem?_eq_none (by simp [seenC_size]; omega), Array.getElem?_eq_none (by simp [seenC_size]; omega)]
theorem GH.setOff {B HH n i : Nat} {W : World} {v u : Value} {L : List Int} (h : GH B W HH v L) (h1 : n ≠ HH) (h2 : some n ≠ v.ownBlock) : GH B (W.setCell ⟨n, i, none⟩ u) HH v L := by
  obtain ⟨l, a, b, c⟩ := h.ex
  exact ⟨⟨l, a.setOff h1 h2, b, c⟩, h.few⟩
/-- the heap in block w.heap.size, what was seen behind it -/
structure GA (w : World) (f : Int) (S : Nat → Bool) (v : Value) (L : List Int) (W : World) : Prop where
  gh : GH w.heap.size W w.heap.size v L
  bel : Below w.heap.size w W
  seen : W.heap[w.heap.size + 1]? = some (.cells (seenC S) TSeen (0, 0))
  ns : some (w.heap.size + 1) ≠ v.ownBlock
  mem : ∀ m, m ∈ L ↔ ∃ j, j < 40 ∧ S j = true ∧ m = f + (j : Int)
theorem GA.drewN {w W : World} {f : Int} {S : Nat → Bool} {v : Value} {L : List Int} (h : GA w f S v L W) {V : World} (hb : Below W.heap.size W V) : GA w f S v L V :=
  ⟨h.gh.below hb, h.bel.trans (hb.mono h.bel.size), (hb.block _ (Array.getElem?_eq_some_iff.1 h.seen).1).trans h.seen, h.ns, h.mem⟩
theorem GA.cell {w W : World} {f : Int} {S : Nat → Bool} {v : Value} {L : List Int} (h : GA w f S v L W) (j : Nat) (hj : j < 41) : W.cell? ⟨w.heap.size + 1, j, none⟩ = some (.int .i64 (if 0 < j ∧ S (j - 1) = true then 1 else 0)) := by
  have := cell_of_row W (w.heap.size + 1) j _ _ (0, 0) h.seen
  rw [this, seenC_get S j hj]
theorem GA.frozen {w W : World} {f : Int} {S : Nat → Bool} {v : Value} {L : List Int} (h : GA w f S v L W) : ∀ j, W.frozen? ⟨w.heap.size + 1, j, none⟩ = false := fun j => by simp [World.frozen?, h.seen]
/-- a number is marked, and put -/
theorem GA.step {w W V : World} {f : Int} {S : Nat → Bool} {v v' : Value} {L : List Int} {k : Nat} (h : GA w f S v L W) (hk : k < 40) (hf : f + (k : Int) ≠ 18446744073709551615)
    (hg : GH w.heap.size V w.heap.size v' (putS (f + (k : Int)) L)) (hb : Below w.heap.size (W.setCell ⟨w.heap.size + 1, k + 1, none⟩ (.int .i64 1)) V) (hfr : Fr w.heap.size v v' (W.setCell ⟨w.heap.size + 1, k + 1, none⟩ (.int .i64 1)) V) :
    GA w f (fun j => S j || decide (j = k)) v' (putS (f + (k : Int)) L) V := by
  have hs := setCell_at (i := k + 1) (.int .i64 1) h.seen
  rw [seenC_set S k hk] at hs
  have hlt : w.heap.size + 1 < (W.setCell ⟨w.heap.size + 1, k + 1, none⟩ (.int .i64 1)).heap.size := (Array.getElem?_eq_some_iff.1 hs).1
  refine ⟨hg, (h.bel.setCell (by show w.heap.size ≤ w.heap.size + 1; omega) _).trans hb, hfr.lies hs (by omega) h.ns, hfr.not hlt h.ns, fun m => ?_⟩
  rw [mem_putS hf, h.mem]
  constructor
  · rintro (rfl | ⟨j, h1, h2, h3⟩)
    · exact ⟨k, hk, by simp, rfl⟩
    · exact ⟨j, h1, by simp [h2], h3⟩
  · rintro ⟨j, h1, h2, h3⟩
    by_cases e : j = k
    · subst e; exact Or.inl h3
    · exact Or.inr ⟨j, h1, by simpa [e] using h2, h3⟩
theorem GA.code {w W : World} {f : Int} {S : Nat → Bool} {v : Value} {L : List Int} (h : GA w f S v L W) (k : Nat) (hk : k < 40) (hf : f + (k : Int) ≠ 18446744073709551615) : putC (f + (k : Int)) L = if S k = true then 7 else 0 := by
  unfold putC
  rw [if_neg hf]
  have e : f + (k : Int) ∈ L ↔ S k = true := by
    rw [h.mem]
    constructor
    · rintro ⟨j, h1, h2, h3⟩
      have : j = k := by omega
      rw [← this]; exact h2
    · intro h2; exact ⟨k, hk, h2, rfl⟩
  by_cases hS : S k = true
  · rw [if_pos (e.2 hS), if_pos hS]
  · rw [if_neg (fun h2 => hS (e.1 h2)), if_neg hS]
theorem GA.few {w W : World} {f : Int} {S : Nat → Bool} {v : Value} {L : List Int} (h : GA w f S v L W) : L.length ≤ 40 := by
  rw [all_len h.gh.rise h.mem]; exact cnt_le _ _
end Go.Proofs.Ytlgbendncgboiaa.Gp
