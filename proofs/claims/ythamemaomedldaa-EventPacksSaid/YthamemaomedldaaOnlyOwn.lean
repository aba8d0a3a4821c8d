/- Rows of the call's own beside a reader: what stays. -/
import Derived.Test.YthamemaomedldaaReadNum
import Derived.Test.YthamemaomedldaaRows0
namespace Go.Proofs.Ythamemaomedldaa.Rd
open Go Go.RowKit

theorem own_ge {w : World} {base e n size k : Nat} {v : Value} {xs : List Value} (h : w.ownsRow base e size v n xs) (hk : v.ownBlock = some k) : base ≤ k := by
  rcases h.2 with ⟨hv, _⟩ | ⟨g, cap, cur, hv, hg, _⟩
  · rw [hv] at hk; simp [Value.ownBlock] at hk
  · rw [hv] at hk; simp [Value.ownBlock] at hk; omega
theorem Only.grown {R : Nat} {w w' : World} (h : Only R w w') : w.grownBy w' (some R) := ⟨h.os, h.tape, h.output, h.size, fun k hk hne => h.block k hk (fun e => hne (by rw [e]))⟩
theorem own_only {R : Nat} {w w' : World} {base e n size : Nat} {v : Value} {xs : List Value} (h : w.ownsRow base e size v n xs) (hO : Only R w w') (hR : R < base) : w'.ownsRow base e size v n xs :=
  Msg.own_apart h (.inr (fun hv => by have := own_ge h hv; omega)) hO.grown
theorem Only.push {R : Nat} {a wr w1 : World} {base e n size : Nat} {v : Value} {xs : List Value} (h : Only R a wr) (hown : wr.ownsRow base e size v n xs) (hb : a.heap.size ≤ base) (hg : wr.grownBy w1 v.ownBlock) : Only R a w1 :=
  ⟨hg.os.trans h.os, hg.tape.trans h.tape, hg.output.trans h.output, Nat.le_trans h.size hg.size, fun k hk hne => (hg.block k (Nat.lt_of_lt_of_le hk h.size) (fun hv => by have := own_ge hown hv.symm; omega)).trans (h.block k hk hne)⟩
theorem grown_off {w w1 : World} {g base e T n size : Nat} {v : Value} {cs : Array Value} {xs : List Value} (hb : w.heap[g]? = some (.cells cs T (0, 0))) (hg : w.grownBy w1 v.ownBlock) (hown : w.ownsRow base e size v n xs) (hT : T ≠ e) : w1.heap[g]? = some (.cells cs T (0, 0)) := by
  refine (hg.block g (Array.getElem?_eq_some_iff.1 hb).1 (fun hv => ?_)).trans hb
  obtain ⟨cs', fr, ho⟩ := Msg.own_blk_type hown hv.symm hb
  injection ho with _ h2 _
  exact hT h2
end Go.Proofs.Ythamemaomedldaa.Rd
