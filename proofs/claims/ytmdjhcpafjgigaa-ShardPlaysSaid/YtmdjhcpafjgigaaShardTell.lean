/- What the laws of layer 21 ask: kinds, keys, entries in order; the law's world. -/
import Derived.Test.YtmdjhcpafjgigaaShardDoes
import Derived.Test.YtmdjhcpafjgigaaSnapSort
import Derived.Test.YtmdjhcpafjgigaaActsOpen
namespace Go.Proofs.Ytmdjhcpafjgigaa.Mk
open Go Go.RowKit Go.MuLone

theorem eql_key (a b : K3) (W : World) : (binOp .eql 35 a.val b.val).run Try.prog W = .ok (.bool (decide (a = b))) W := by
  have h := eq_key a b W
  unfold K3.val at h ⊢
  simp only [binOp, Sem.run_bind, h, Result.andThen_ok]
  rfl
/-- an act's kind, as an operation -/
def kindOf (m : Int) : Int := if m = 0 then 5 else m
set_option maxRecDepth 20000 in
theorem kind_any (kd who : Int) (k : K3) (h0 : 0 ≤ kd) (W : World) : Calls Try.prog 9 #[actV kd who k] W fun e w' => e = .returned (.int .i64 (kindOf (kd.tmod 5))) ∧ Below W.heap.size W w' := by
  have bA := (Below.refl W.heap.size W).alloc (Nat.le_refl _) (.cells #[.int .u8 kd, .int .i64 who, .int .i64 k.c, .int .i64 k.f, .int .u64 k.s] 37)
  have hm : kd.tmod 5 = 0 ∨ kd.tmod 5 = 1 ∨ kd.tmod 5 = 2 ∨ kd.tmod 5 = 3 ∨ kd.tmod 5 = 4 := by
    rw [Int.tmod_eq_emod_of_nonneg h0]; omega
  have hw : (IntKind.u8).wrap (kd.tmod 5) = kd.tmod 5 := by rcases hm with h | h | h | h | h <;> rw [h] <;> rfl
  have h50 : ¬ (5 : Int) = 0 := by decide
  generalize hmm : kd.tmod 5 = m at hm hw
  unfold actV
  rcases hm with h | h | h | h | h <;> subst h
  all_goals
    go_enter Try.func9, Try.ntmps9
    go_wp2
    go_ret
    exact ⟨rfl, bA⟩
theorem key_eq {a b : K3} (h1 : ltK a b = false) (h2 : ltK b a = false) : a = b := by
  obtain ⟨c, f, s⟩ := a
  obtain ⟨c', f', s'⟩ := b
  simp only [ltK, decide_eq_false_iff_not] at h1 h2
  simp only [K3.mk.injEq]
  omega
/-- two that are sorted and have the same entries -/
theorem sorted_eq {l : List Ms} {clock : Nat} (hok : MOk l clock) {a b : List En} (ha : a.Perm (ens l)) (hb : b.Perm (ens l)) (pa : a.Pairwise fun x y => ltE y x = false) (pb : b.Pairwise fun x y => ltE y x = false) : a = b := by
  refine List.Perm.eq_of_pairwise (le := fun x y => ltE y x = false) (fun x y hx hy h1 h2 => ?_) pa pb (ha.trans hb.symm)
  obtain ⟨p, hp, rfl⟩ := List.mem_map.1 (ha.subset hx)
  obtain ⟨q, hq, rfl⟩ := List.mem_map.1 (hb.subset hy)
  have hk : p.2.1.k = q.2.1.k := key_eq h2 h1
  have h3 := ent_of_mem hok.keys p hp
  have h4 := ent_of_mem hok.keys q hq
  rw [← hok.own p hp] at h3
  rw [← hok.own q hq, ← hk, h3] at h4
  injection h4
theorem ent_of_en {l : List Ms} {clock : Nat} (hok : MOk l clock) {e : En} (he : e ∈ ens l) : entM e.k l = some e := by
  obtain ⟨p, hp, rfl⟩ := List.mem_map.1 he
  have h3 := ent_of_mem hok.keys p hp
  rwa [← hok.own p hp] at h3
/-- the law's world -/
structure OW (W V : World) (S B : Nat) (most : Int) (l : List Ms) (clock : Nat) : Prop where
  sh : ShIs V S B most l clock 0
  ok : MOk l clock
  few : (l.length : Int) ≤ most
  bel : Below W.heap.size W V
  lo : W.heap.size ≤ S ∧ W.heap.size ≤ B
theorem OW.call {W V V' : World} {S B : Nat} {most : Int} {l l' : List Ms} {clock clock' : Nat} (h : OW W V S B most l clock) (hs : ShIs V' S B most l' clock' 0) (hO : Only2 S B V V') (hok : MOk l' clock') (hf : (l'.length : Int) ≤ most) : OW W V' S B most l' clock' :=
  ⟨hs, hok, hf, Only2.below h.bel hO h.lo.1 h.lo.2 h.bel.size, h.lo⟩
theorem OW.below {W V V' : World} {S B : Nat} {most : Int} {l : List Ms} {clock : Nat} (h : OW W V S B most l clock) (hb : Below V.heap.size V V') : OW W V' S B most l clock :=
  ⟨h.sh.below hb, h.ok, h.few, h.bel.trans (hb.mono h.bel.size), h.lo⟩
end Go.Proofs.Ytmdjhcpafjgigaa.Mk
