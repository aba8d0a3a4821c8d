import Derived.Test.YtlpnecmcncekcaaGreatSm
import Derived.Test.YtlpnecmcncekcaaGreatSnapSort
/- Keys that are equal; entries in order. -/
namespace Go.Proofs.YtlpnecmcncekcaaGreat.Mk
open Go Go.RowKit Go.MuLone

theorem eql_key (a b : K3) (W : World) : (binOp .eql 41 a.val b.val).run Tryz.prog W = .ok (.bool (decide (a = b))) W := by
  have h := eq_key a b W
  unfold K3.val at h ⊢
  simp only [binOp, Sem.run_bind, h, Result.andThen_ok]
  rfl
/-- an act's kind, as an operation -/
def kindOf (m : Int) : Int := if m = 0 then 5 else m
theorem key_eq {a b : K3} (h1 : ltK a b = false) (h2 : ltK b a = false) : a = b := by
  obtain ⟨c, f, s⟩ := a
  obtain ⟨c', f', s'⟩ := b
  simp only [ltK, decide_eq_false_iff_not] at h1 h2
  simp only [K3.mk.injEq]
  omega
/-- two that are sorted and have the same entries -/
theorem sorted_eq {l : List Ms} {clock : Nat} (hok : MOk l clock) {a b : List En} (ha : a.Perm (ens l)) (hb : b.Perm (ens l)) (pa : a.Pairwise fun x y => ltE y x = false) (pb : b.Pairwise fun x y => ltE y x = false) : a = b := by
  refine List.Perm.eq_of_pairwise (le := fun x y => ltE y x = false) (fun x y hx hy h1 h2 => ?_) pa pb (ha.trans hb.symm)
  obtain ⟨p, hp, rfl⟩ := List.mem_map.1 (ha.subset hx)
  obtain ⟨q, hq, rfl⟩ := List.mem_map.1 (hb.subset hy)
  have hk : p.2.1.k = q.2.1.k := key_eq h2 h1
  have h3 := ent_of_mem hok.keys p hp
  have h4 := ent_of_mem hok.keys q hq
  rw [← hok.own p hp] at h3
  rw [← hok.own q hq, ← hk, h3] at h4
  injection h4
theorem ent_of_en {l : List Ms} {clock : Nat} (hok : MOk l clock) {e : En} (he : e ∈ ens l) : entM e.k l = some e := by
  obtain ⟨p, hp, rfl⟩ := List.mem_map.1 he
  have h3 := ent_of_mem hok.keys p hp
  rwa [← hok.own p hp] at h3
end Go.Proofs.YtlpnecmcncekcaaGreat.Mk
