import Derived.Test.YtlgbendncgboiaaGapC
import Derived.Test.YtlgbendncgboiaaGap14
import Derived.Test.YtlgbendncgboiaaGapM
import Derived.Test.YtlgbendncgboiaaNumsRb
/- 'GapOrder': two heaps beside each other, and rows of runs. -/
namespace Go.Proofs.Ytlgbendncgboiaa.Gp
open Go Go.RowKit Gm

theorem own_still {W V : World} {B n : Nat} {v : Value} {xs : List Value} (h : W.ownsRow B TRn 2 v n xs) (hb : ∀ k, v.ownBlock = some k → V.heap[k]? = W.heap[k]?) : V.ownsRow B TRn 2 v n xs := by
  refine ⟨h.1, ?_⟩
  rcases h.2 with h2 | ⟨g, cap, cur, hv, hg, hh, r⟩
  · exact Or.inl h2
  · exact Or.inr ⟨g, cap, cur, hv, hg, (hb g (by rw [hv]; rfl)).trans hh, r⟩
theorem own_lower {W : World} {B B' n : Nat} {v : Value} {xs : List Value} (h : W.ownsRow B TRn 2 v n xs) (hb : B' ≤ B) : W.ownsRow B' TRn 2 v n xs := by
  refine ⟨h.1, ?_⟩
  rcases h.2 with h2 | ⟨g, cap, cur, hv, hg, hh, r⟩
  · exact Or.inl h2
  · exact Or.inr ⟨g, cap, cur, hv, by omega, hh, r⟩
theorem GH.lower {B B' HH : Nat} {W : World} {v : Value} {L : List Int} (h : GH B W HH v L) (hb : B' ≤ B) : GH B' W HH v L := by
  obtain ⟨l, a, b, c⟩ := h.ex
  exact ⟨⟨l, ⟨a.box, Nat.le_trans hb a.low, own_lower a.row hb, a.few⟩, b, c⟩, h.few⟩
/-- a heap that another one's acts leave alone -/
theorem GH.aside {B H K : Nat} {W V : World} {v v1 v1' : Value} {L : List Int} (h : GH B W K v L) (f : Fr H v1 v1' W V) (h1 : K ≠ H) (h2 : some K ≠ v1.ownBlock) (h3 : ∀ k, v.ownBlock = some k → k ≠ H ∧ some k ≠ v1.ownBlock) : GH B V K v L := by
  obtain ⟨l, a, b, c⟩ := h.ex
  exact ⟨⟨l, ⟨(f.block K a.lt h1 h2).trans a.box, a.low, own_still a.row fun k hk => f.block k (a.ownLt k hk) (h3 k hk).1 (h3 k hk).2, a.few⟩, b, c⟩, h.few⟩
/-- two heaps -/
structure Tw (B H K : Nat) (v1 v2 : Value) (L M : List Int) (W : World) : Prop where
  a : GH B W H v1 L
  b : GH B W K v2 M
  ne : H ≠ K
  h1 : some K ≠ v1.ownBlock
  h2 : some H ≠ v2.ownBlock
  ap : ∀ k, v1.ownBlock = some k → v2.ownBlock ≠ some k
theorem Tw.symm {B H K : Nat} {v1 v2 : Value} {L M : List Int} {W : World} (h : Tw B H K v1 v2 L M W) : Tw B K H v2 v1 M L W := ⟨h.b, h.a, h.ne.symm, h.h2, h.h1, fun k h3 h4 => h.ap k h4 h3⟩
theorem Tw.below {B H K : Nat} {v1 v2 : Value} {L M : List Int} {W V : World} (h : Tw B H K v1 v2 L M W) (hb : Below W.heap.size W V) : Tw B H K v1 v2 L M V := ⟨h.a.below hb, h.b.below hb, h.ne, h.h1, h.h2, h.ap⟩
theorem Tw.act {B H K : Nat} {v1 v2 v1' : Value} {L L' M : List Int} {W V : World} (h : Tw B H K v1 v2 L M W) (hg : GH B V H v1' L') (f : Fr H v1 v1' W V) : Tw B H K v1' v2 L' M V := by
  refine ⟨hg, h.b.aside f h.ne.symm h.h1 (fun k hk => ⟨fun e => h.h2 (by rw [hk, e]), fun e => h.ap k e.symm hk⟩), h.ne, f.not h.b.lt h.h1, h.h2, fun k h3 h4 => ?_⟩
  have := f.not (h.b.ownLt k h4) (fun e => h.ap k e.symm h4)
  exact this h3.symm
/-- a row of runs beside the first heap -/
def RB (H : Nat) (v1 vb : Value) (ls : List (Int × Int)) (W : World) : Prop :=
  (vb = .slice none 0 0 ∧ ls = []) ∨ ∃ g c, vb = .slice (some ⟨g, 0, none⟩) ls.length c ∧ RowIs W g ls ∧ g ≠ H ∧ some g ≠ v1.ownBlock
theorem RB.frame {H : Nat} {v1 v1' vb : Value} {ls : List (Int × Int)} {W V : World} (h : RB H v1 vb ls W) (f : Fr H v1 v1' W V) : RB H v1' vb ls V := by
  rcases h with h | ⟨g, c, hv, hr, h1, h2⟩
  · exact Or.inl h
  · have hb := f.block g hr.1 h1 h2
    refine Or.inr ⟨g, c, hv, ⟨Nat.lt_of_lt_of_le hr.1 f.size, fun i x hx => ?_⟩, h1, f.not hr.1 h2⟩
    have := hr.2 i x hx
    exact ⟨(World.cell?_of_block (w := W) (a := ⟨g, 0 + i * 2, none⟩) hb).trans this.1, (World.cell?_of_block (w := W) (a := ⟨g, 0 + i * 2 + 1, none⟩) hb).trans this.2⟩
theorem RB.below {H : Nat} {v1 vb : Value} {ls : List (Int × Int)} {W V : World} (h : RB H v1 vb ls W) (hb : Below W.heap.size W V) : RB H v1 vb ls V := h.frame (Fr.of_below hb)
theorem RB.of {B H : Nat} {v1 vb : Value} {L : List Int} {ls : List (Int × Int)} {W V : World} (hg : GH B W H v1 L) (h : RunsV W.heap.size vb ls V) : RB H v1 vb ls V := by
  rcases h with h | ⟨g, c, hv, h1, h2, _⟩
  · exact Or.inl h
  · exact Or.inr ⟨g, c, hv, h2, by have := hg.lt; omega, fun e => by have := hg.ownLt g e.symm; omega⟩
theorem RB.form {H : Nat} {v1 vb : Value} {ls : List (Int × Int)} {W : World} (h : RB H v1 vb ls W) : ∃ A c, vb = .slice A ls.length c := by
  rcases h with ⟨rfl, rfl⟩ | ⟨g, c, rfl, _⟩
  · exact ⟨_, _, rfl⟩
  · exact ⟨_, _, rfl⟩
theorem RB.row {H cap : Nat} {A : Option Addr} {v1 : Value} {ls : List (Int × Int)} {W : World} (h : RB H v1 (.slice A ls.length cap) ls W) (h0 : 0 < ls.length) : ∃ g, A = some ⟨g, 0, none⟩ ∧ RowIs W g ls := by
  rcases h with ⟨_, rfl⟩ | ⟨g, c, hv, hr, _⟩
  · cases h0
  · injection hv with hv
    exact ⟨g, hv, hr⟩
end Go.Proofs.Ytlgbendncgboiaa.Gp
