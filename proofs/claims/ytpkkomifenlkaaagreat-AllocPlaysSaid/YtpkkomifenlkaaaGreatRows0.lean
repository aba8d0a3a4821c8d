/- Rows of the call's own, of whatever element: what leaves them as they are. -/
import Derived.Test.YtpkkomifenlkaaaGreatCommon
import Derived.Deep.AppendLies
namespace Go.Proofs.YtpkkomifenlkaaaGreat.Msg
open Go Go.RowKit

theorem lt_blk {W : World} {g : Nat} {o : Obj} (h : W.heap[g]? = some o) : g < W.heap.size := (Array.getElem?_eq_some_iff.1 h).1
theorem own_formN {w : World} {base e n size : Nat} {v : Value} {xs : List Value} (h : w.ownsRow base e size v n xs) : ∃ A c, v = .slice A n c := by
  rcases h.2 with ⟨rfl, rfl⟩ | ⟨g, cap, cur, rfl, _⟩
  · exact ⟨none, 0, rfl⟩
  · exact ⟨_, _, rfl⟩

theorem own_blk_type {w : World} {base e n size k : Nat} {v : Value} {o : Obj} {zs : List Value} (h : w.ownsRow base e size v n zs) (hk : v.ownBlock = some k) (hb : w.heap[k]? = some o) : ∃ cs fr, o = .cells cs e fr := by
  rcases h.2 with ⟨rfl, _⟩ | ⟨g', cap, cur, rfl, _, hh, _⟩
  · cases hk
  · injection hk with hk
    subst hk
    rw [hh] at hb
    injection hb with hb
    exact ⟨_, _, hb.symm⟩
/-- A row behind a store or an append in a block of another type. -/
theorem own_other {w w' : World} {base e n size e' n' size' base' : Nat} {v v' : Value} {xs xs' : List Value} (h : w.ownsRow base e size v n xs) (h' : w.ownsRow base' e' size' v' n' xs') (hne : e ≠ e') (hg : w.grownBy w' v'.ownBlock) : w'.ownsRow base e size v n xs := by
  refine ⟨h.1, ?_⟩
  rcases h.2 with h2 | ⟨k, cap, cur, hv, hgb, hh, r⟩
  · exact .inl h2
  · refine .inr ⟨k, cap, cur, hv, hgb, (hg.block k (lt_blk hh) fun heq => ?_).trans hh, r⟩
    obtain ⟨cs, fr, ho⟩ := own_blk_type h' heq.symm hh
    injection ho with _ ht
    exact hne ht
theorem own_apart {w w' : World} {base e n size : Nat} {v : Value} {row : Option Nat} {xs : List Value} (h : w.ownsRow base e size v n xs) (hne : v.ownBlock = none ∨ v.ownBlock ≠ row) (hg : w.grownBy w' row) : w'.ownsRow base e size v n xs := by
  refine ⟨h.1, ?_⟩
  rcases h.2 with h2 | ⟨k, cap, cur, rfl, hgb, hh, r⟩
  · exact .inl h2
  · refine .inr ⟨k, cap, cur, rfl, hgb, (hg.block k (lt_blk hh) fun heq => ?_).trans hh, r⟩
    rcases hne with h1 | h1
    · cases h1
    · exact h1 heq
theorem own_setblk {w : World} {base e n size g i T : Nat} {v u : Value} {cs : Array Value} {fr : Nat × Nat} {xs : List Value} (h : w.ownsRow base e size v n xs) (hb : w.heap[g]? = some (.cells cs T fr)) (hT : T ≠ e) :
    (w.setCell ⟨g, i, none⟩ u).ownsRow base e size v n xs := by
  refine ⟨h.1, ?_⟩
  rcases h.2 with h2 | ⟨k, cap, cur, hv, hg, hh, r⟩
  · exact Or.inl h2
  · refine Or.inr ⟨k, cap, cur, hv, hg, (Below.heap_setCell _ _ _ _ fun e => ?_).trans hh, r⟩
    subst e
    rw [hh] at hb
    injection hb with hb
    injection hb with _ ht
    exact hT ht.symm
theorem own_belowN {w w' : World} {B base e size n : Nat} {v : Value} {xs : List Value} (h : w.ownsRow base e size v n xs) (hb : Below B w w') (hB : w.heap.size ≤ B) : w'.ownsRow base e size v n xs := own_below h (hb.mono hB)
theorem own_base {w : World} {base base' e size n : Nat} {v : Value} {xs : List Value} (h : w.ownsRow base' e size v n xs) (hB : base ≤ base') : w.ownsRow base e size v n xs := by
  refine ⟨h.1, ?_⟩
  rcases h.2 with h2 | ⟨k, cap, cur, hv, hg, r⟩
  · exact .inl h2
  · exact .inr ⟨k, cap, cur, hv, Nat.le_trans hB hg, r⟩
end Go.Proofs.YtpkkomifenlkaaaGreat.Msg
