/- 'ShardPlays': the law's world. -/
import Derived.Test.YtmdjhcpafjgigaaPgMath
import Derived.Test.YtmdjhcpafjgigaaShardLen
import Derived.Test.YtmdjhcpafjgigaaShardGet
namespace Go.Proofs.Ytmdjhcpafjgigaa.Mk
open Go Go.RowKit Go.MuLone

structure PW (W V : World) (S B Q : Nat) (room : Int) (l : List Ms) (clock : Nat) (v : Value) (ls : List En) : Prop where
  sh : ShIs V S B room l clock 0
  q : QI V Q room v ls
  bel : Below W.heap.size W V
  lo : W.heap.size ≤ S ∧ W.heap.size ≤ B ∧ S < Q ∧ B < Q
section
variable {W V V' : World} {S B Q : Nat} {room : Int} {l l' : List Ms} {clock clock' : Nat} {v v' : Value} {ls ls' : List En}
theorem PW.shard (h : PW W V S B Q room l clock v ls) (hs : ShIs V' S B room l' clock' 0) (hO : Only2 S B V V') : PW W V' S B Q room l' clock' v ls :=
  ⟨hs, h.q.keep fun k h1 h2 => hO.block k h2 (by have := h.lo; omega) (by have := h.lo; omega), Only2.below h.bel hO h.lo.1 h.lo.2.1 h.bel.size, h.lo⟩
theorem PW.page (h : PW W V S B Q room l clock v ls) (hq : QI V' Q room v' ls') (hb : Below Q V V') : PW W V' S B Q room l clock v' ls' :=
  ⟨⟨(hb.block S h.lo.2.2.1).trans h.sh.box, (hb.block B h.lo.2.2.2).trans h.sh.map⟩, hq, h.bel.trans (hb.mono (by have := h.lo; omega)), h.lo⟩
theorem PW.below (h : PW W V S B Q room l clock v ls) (hb : Below V.heap.size V V') : PW W V' S B Q room l clock v ls :=
  ⟨h.sh.below hb, h.q.below hb, h.bel.trans (hb.mono h.bel.size), h.lo⟩
theorem PW.drew (h : PW W V S B Q room l clock v ls) : PW W V.drew S B Q room l clock v ls := ⟨⟨h.sh.box, h.sh.map⟩, h.q.drew, h.bel.drew, h.lo⟩
theorem PW.drewN (h : PW W V S B Q room l clock v ls) (n : Nat) : PW W (V.drewN n) S B Q room l clock v ls := ⟨⟨h.sh.box, h.sh.map⟩, h.q.drewN n, below_drewN h.bel n, h.lo⟩
theorem PW.alloc (h : PW W V S B Q room l clock v ls) (o : Obj) : PW W (V.alloc o) S B Q room l clock v ls := h.below ((Below.refl _ _).alloc (Nat.le_refl _) o)
end
/-- what Get and Find say of a key -/
theorem QM.look {ls : List En} {l : List Ms} {clock : Nat} (h : QM ls l) (hok : MOk l clock) (k : K3) :
    (entM k l = none ∧ qf k ls = -1) ∨ ∃ (i : Nat) (hi : i < ls.length), qf k ls = (i : Int) ∧ entM k l = some ls[i] := by
  rcases qf_cases k ls with ⟨hq, hall⟩ | ⟨i, hi, hq, hk, hb⟩
  · exact Or.inl ⟨by rw [← h.ent hok k, qE_none hall], hq⟩
  · exact Or.inr ⟨i, hi, hq, by rw [← h.ent hok k, qE_some hi hk hb]⟩
end Go.Proofs.Ytmdjhcpafjgigaa.Mk
