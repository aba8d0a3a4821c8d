/- TablePlays: both tables asked, side by side. -/
import Derived.Test.YtlpnecmcncekcaaGreatTpSame
import Derived.Test.YtlpnecmcncekcaaGreatTpNew
import Derived.Test.YtlpnecmcncekcaaGreatTpGet
namespace Go.Proofs.YtlpnecmcncekcaaGreat.Mk
open Go Go.RowKit Go.MuLone Conf
set_option linter.unusedVariables false

section
variable {W V X : World} {y : Lay} {M : Maps} {T g cap lo : Nat} {q : Nat → Nat} {v : Nat → Value} {ls : Nat → List En}
/-- the program's operation -/
theorem TPW.doo (h : TPW W V y M T g cap lo q v ls) (hy : y.ok) (o : Op9) (ho : o.ok) :
    Calls Tryz.prog 11 #[.pointer (some ⟨y.T, 0, none⟩), o.val] V fun e w' => e = .returned (retV (tAns o y.n y.room M)) ∧ WT w' y (tMaps o y.n y.room M) ∧ PT w' T g cap y.n lo y.room q v ls ∧ Below W.heap.size W w' := by
  refine (tdo o ho h.wt hy).mono ?_
  rintro e w' ⟨rfl, h1, h2⟩
  have hj := own_lt hy.n0 o.k
  have r := Rng.of_only h2 (hy.rs _ hj).1 (hy.rs _ hj).2
  exact ⟨rfl, h1, h.pt.keep fun k h1 h2 => r.block k h2 (Or.inr (Nat.le_trans h.hi h1)), Rng.below h.bel r h.lo0 h.bel.size⟩
/-- the page's -/
theorem tqdoo (h : TPW W X y M T g cap lo q v ls) (hy : y.ok) (o : Op9) (ho : o.ok) (hw : WT V y (tMaps o y.n y.room M)) (hp : PT V T g cap y.n lo y.room q v ls) (hb : Below W.heap.size W V) :
    Calls Tryz.prog 17 #[.pointer (some ⟨T, 0, none⟩), o.val] V fun e w' => e = .returned (retV (tAns o y.n y.room M)) ∧ ∃ v' ls', TPW W w' y (tMaps o y.n y.room M) T g cap lo q v' ls' := by
  have hlen := ls_len h.ok hy h.qm
  have hm' := tmaps_ok o h.ok hy
  by_cases hk : 1 ≤ o.kd ∧ o.kd ≤ 5
  · obtain ⟨ha, hq⟩ := act_alike o hk hy h.ok h.qm
    refine (pdo_ok o ho hk V hp fun i hi => Nat.le_trans (hlen i hi) (by decide)).mono ?_
    rintro e w' ⟨rfl, v', h1, h2⟩
    exact ⟨by rw [ha], _, _, ⟨hw.keep hy fun k h3 h4 h5 => h2.block k (Nat.lt_of_lt_of_le h4 h.hi), h1, h.hi, h.lo0, hq, hm', hb.trans (h2.mono (by have := h.lo0; have := h.hi; have := hy.rT; omega))⟩⟩
  · obtain ⟨ha, hM⟩ := bad_alike (y := y) (M := M) o hk
    refine (pdo_bad o hk V).mono ?_
    rintro e w' ⟨rfl, h2⟩
    refine ⟨by rw [ha], v, ls, ⟨hw.below hy h2, hp.below h2, h.hi, h.lo0, by rw [hM]; exact h.qm, hm', hb.trans (h2.mono hb.size)⟩⟩
/-- the program's Get -/
theorem TPW.get (h : TPW W V y M T g cap lo q v ls) (hy : y.ok) (k : K3) (hk : 0 ≤ k.s ∧ k.s < 18446744073709551616) :
    Calls Tryz.prog 18 #[.pointer (some ⟨y.T, 0, none⟩), k.val] V fun e w' => e = .returned (.tuple #[.agg ((entM k (M (own y.n k)).1).getD en0).cells, .bool (entM k (M (own y.n k)).1).isSome]) ∧ TPW W w' y M T g cap lo q v ls ∧ Rng y.lo y.hi V w' := by
  refine (tget k hk h.wt hy).mono ?_
  rintro e w' ⟨rfl, h1, h2⟩
  have hj := own_lt hy.n0 k
  exact ⟨rfl, h.only hy hj h1 h2, Rng.of_only h2 (hy.rs _ hj).1 (hy.rs _ hj).2⟩
theorem TPW.qget (h : TPW W V y M T g cap lo q v ls) (hy : y.ok) (k : K3) (hk : 0 ≤ k.s ∧ k.s < 18446744073709551616) :
    Calls Tryz.prog 19 #[.pointer (some ⟨T, 0, none⟩), k.val] V fun e w' => e = .returned (.tuple #[.agg ((entM k (M (own y.n k)).1).getD en0).cells, .bool (entM k (M (own y.n k)).1).isSome]) ∧ Below V.heap.size V w' := by
  have hlen := ls_len h.ok hy h.qm
  have hj := own_lt hy.n0 k
  have e := (h.qm _ hj).ent (h.ok.ok _ hj) k
  have := pget k hk V h.pt fun i hi => Nat.le_trans (hlen i hi) (by decide)
  rw [e] at this
  exact this
/-- all entries, in order -/
def srtL (ls : Nat → List En) (n : Nat) : List En := (allL ls n).mergeSort fun a b => !ltE b a
theorem srtL_perm (ls : Nat → List En) (n : Nat) : (srtL ls n).Perm (allL ls n) := List.mergeSort_perm _ _
theorem srtL_pw (ls : Nat → List En) (n : Nat) : (srtL ls n).Pairwise fun a b => ltE b a = false := by
  have := List.pairwise_mergeSort (le := fun a b : En => !ltE b a) (fun a b c h1 h2 => by simp [ltE, ltK] at *; omega) (fun a b => by simp [ltE, ltK]; omega) (allL ls n)
  exact this.imp fun h => by simpa using h
theorem TPW.permE (h : TPW W V y M T g cap lo q v ls) : (allL ls y.n).Perm (allE M y.n) := allL_perm y.n fun i hi => (h.qm i hi).perm
theorem TPW.srtE (h : TPW W V y M T g cap lo q v ls) (hy : y.ok) {L : List En} (hp : L.Perm (allE M y.n)) (hw : L.Pairwise fun a b => ltE b a = false) : L = srtL ls y.n :=
  all_sorted hy h.ok hp ((srtL_perm ls y.n).trans h.permE) hw (srtL_pw ls y.n)
theorem TPW.srt_len (h : TPW W V y M T g cap lo q v ls) (hy : y.ok) : (srtL ls y.n).length ≤ 1000 := by
  rw [(srtL_perm ls y.n).length_eq]
  have := allL_few (ls_len h.ok hy h.qm) y.n (Nat.le_refl _)
  have := hy.n8
  omega
theorem TPW.qall (h : TPW W V y M T g cap lo q v ls) (hy : y.ok) :
    Calls Tryz.prog 44 #[.pointer (some ⟨T, 0, none⟩)] V fun e w' => ∃ v, e = .returned v ∧ RowE V.heap.size w' v (srtL ls y.n) ∧ Below V.heap.size V w' := by
  refine (pall_any h.pt (ls_len h.ok hy h.qm)).mono ?_
  rintro e w' ⟨v', L, rfl, h1, h2, h3, h4⟩
  have := h.srtE hy (h2.trans h.permE) h3
  subst this
  exact ⟨v', rfl, h1, h4⟩
theorem TPW.all (h : TPW W V y M T g cap lo q v ls) (hy : y.ok) :
    Calls Tryz.prog 15 #[.pointer (some ⟨y.T, 0, none⟩)] V fun e w' => ∃ v1, e = .returned v1 ∧ RowE V.heap.size w' v1 (srtL ls y.n) ∧ TPW W w' y M T g cap lo q v ls := by
  refine (tall h.wt hy h.ok h.hiV).mono ?_
  rintro e w' ⟨v', L, rfl, h1, h2, h3, h4, h5⟩
  have := h.srtE hy h2 h3
  subst this
  exact ⟨v', rfl, h1, h.rng hy h4 h5⟩
theorem TPW.owned (h : TPW W V y M T g cap lo q v ls) (hy : y.ok) (who : Int) :
    Calls Tryz.prog 21 #[.pointer (some ⟨y.T, 0, none⟩), .int .i64 who] V fun e w' => ∃ v1, e = .returned v1 ∧ w'.ownsRow V.heap.size 41 3 v1 (keysOf who (srtL ls y.n)).length (kcs (keysOf who (srtL ls y.n))) ∧ TPW W w' y M T g cap lo q v ls ∧ Rng y.lo y.hi V w' := by
  refine (towned who h.wt hy h.ok h.hiV).mono ?_
  rintro e w' ⟨v', L, rfl, h1, h2, h3, h4, h5⟩
  have := h.srtE hy h1 h2
  subst this
  exact ⟨v', rfl, h3, h.rng hy h4 h5, h5⟩
theorem TPW.qowned (h : TPW W V y M T g cap lo q v ls) (hy : y.ok) (who : Int) :
    Calls Tryz.prog 22 #[.pointer (some ⟨T, 0, none⟩), .int .i64 who] V fun e w' => ∃ v1, e = .returned v1 ∧ w'.ownsRow V.heap.size 41 3 v1 (keysOf who (srtL ls y.n)).length (kcs (keysOf who (srtL ls y.n))) ∧ Below V.heap.size V w' :=
  powned T who (srtL ls y.n) (h.srt_len hy) V (h.qall hy)
theorem TPW.count (h : TPW W V y M T g cap lo q v ls) (hy : y.ok) (s : Int) :
    Calls Tryz.prog 24 #[.pointer (some ⟨y.T, 0, none⟩), .int .i64 s] V fun e w' => e = .returned (.int .i64 (cntS s (allE M y.n) : Int)) ∧ TPW W w' y M T g cap lo q v ls := by
  refine (tcount s h.wt hy h.ok h.hiV).mono ?_
  rintro e w' ⟨rfl, h1, h2⟩
  exact ⟨rfl, h.rng hy h1 h2⟩
theorem TPW.qcount (h : TPW W V y M T g cap lo q v ls) (hy : y.ok) (s : Int) :
    Calls Tryz.prog 25 #[.pointer (some ⟨T, 0, none⟩), .int .i64 s] V fun e w' => e = .returned (.int .i64 (cntS s (allE M y.n) : Int)) ∧ TPW W w' y M T g cap lo q v ls := by
  refine (pcount T s (srtL ls y.n) (h.srt_len hy) V (h.qall hy)).mono ?_
  rintro e w' ⟨rfl, h1⟩
  exact ⟨by rw [cntS_perm ((srtL_perm ls y.n).trans h.permE)], h.below hy h1⟩
end
end Go.Proofs.YtlpnecmcncekcaaGreat.Mk
