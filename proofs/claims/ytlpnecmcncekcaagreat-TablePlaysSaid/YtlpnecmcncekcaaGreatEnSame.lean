import Derived.Test.YtlpnecmcncekcaaGreatSnapA
import Derived.Deep.QuietTactic
import Derived.BigQuiet
/- Rows of entries: what is read of them; the page's Same of two that are alike. -/
namespace Go.Proofs.YtlpnecmcncekcaaGreat.Mk
open Go Go.RowKit

theorem eq_en (a b : En) (W : World) : (Op.equal TEn a.val b.val).run Tryz.prog W = .ok (decide (a = b)) W := by
  obtain ⟨⟨c, f, s⟩, st, ow⟩ := a
  obtain ⟨⟨c', f', s'⟩, st', ow'⟩ := b
  unfold En.val En.cells Op.equal Op.maxDepth
  have e : decide (En.mk (K3.mk c f s) st ow = En.mk (K3.mk c' f' s') st' ow') = ((c == c' && (f == f' && s == s')) && (st == st' && ow == ow')) := by
    simp only [En.mk.injEq, K3.mk.injEq]
    by_cases h1 : c = c' <;> by_cases h2 : f = f' <;> by_cases h3 : s = s' <;> by_cases h4 : st = st' <;> by_cases h5 : ow = ow' <;> simp [h1, h2, h3, h4, h5]
  rw [e]
  go_simp
  repeat' split
  all_goals simp_all
theorem neq_en (a b : En) (W : World) : (binOp .neq TEn (.agg a.cells) (.agg b.cells)).run Tryz.prog W = .ok (.bool (!decide (a = b))) W := by
  show (binOp .neq TEn a.val b.val).run Tryz.prog W = _
  have h := eq_en a b W
  unfold En.val at h ⊢
  simp only [binOp, Sem.run_bind, h, Result.andThen_ok]
  rfl
/-- the entry i of the row in block g is e -/
structure EAt (V : World) (g i : Nat) (e : En) : Prop where
  c : V.cell? ⟨g, i * 5, none⟩ = some (.int .i64 e.k.c)
  f : V.cell? ⟨g, i * 5 + 1, none⟩ = some (.int .i64 e.k.f)
  s : V.cell? ⟨g, i * 5 + 2, none⟩ = some (.int .u64 e.k.s)
  st : V.cell? ⟨g, i * 5 + 3, none⟩ = some (.int .i64 e.st)
  ow : V.cell? ⟨g, i * 5 + 4, none⟩ = some (.int .i64 e.ow)
theorem eAt_of {V : World} {g i : Nat} {d : Array En} (h : Sort.HoldsK encE 5 V g 0 d) (hi : i < d.size) : EAt V g i d[i]! := by
  have h0 := (h.cell (i := i) (c := 0) hi (by omega)).1
  have h1 := (h.cell (i := i) (c := 1) hi (by omega)).1
  have h2 := (h.cell (i := i) (c := 2) hi (by omega)).1
  have h3 := (h.cell (i := i) (c := 3) hi (by omega)).1
  have h4 := (h.cell (i := i) (c := 4) hi (by omega)).1
  rw [Nat.zero_add, Nat.add_zero] at h0
  rw [Nat.zero_add] at h1 h2 h3 h4
  exact ⟨h0, h1, h2, h3, h4⟩
section
variable {base : Nat} {V V' : World} {v : Value} {ls : List En}
theorem RowE.form (h : RowE base V v ls) : ∃ A c, v = .slice A ls.length c := by
  rcases h with ⟨h1, h2⟩ | ⟨g, c, h1, _⟩
  · exact ⟨none, 0, by rw [h1, h2]; rfl⟩
  · exact ⟨_, _, h1⟩
theorem RowE.at (h : RowE base V v ls) (i : Nat) (hi : i < ls.length) : ∃ g c, v = .slice (some ⟨g, 0, none⟩) ls.length c ∧ base ≤ g ∧ g < V.heap.size ∧ EAt V g i ls[i] := by
  rcases h with ⟨_, h2⟩ | ⟨g, c, h1, h2, h3, h4⟩
  · subst h2; cases hi
  · refine ⟨g, c, h1, h2, h3, ?_⟩
    have := eAt_of (i := i) h4 (by simpa using hi)
    rwa [getElem!_pos ls.toArray i (by simpa using hi), List.getElem_toArray] at this
theorem RowE.keep (h : RowE base V v ls) (hs : V.heap.size ≤ V'.heap.size) (hb : ∀ k, base ≤ k → k < V.heap.size → V'.heap[k]? = V.heap[k]?) : RowE base V' v ls := by
  rcases h with h | ⟨g, c, h1, h2, h3, h4⟩
  · exact Or.inl h
  · exact Or.inr ⟨g, c, h1, h2, Nat.lt_of_lt_of_le h3 hs, St.holdsK_of_block h4 (hb g h2 h3)⟩
theorem RowE.below (h : RowE base V v ls) (hb : Below V.heap.size V V') : RowE base V' v ls := h.keep hb.size fun k _ hk => hb.block k hk
theorem RowE.only {S B : Nat} (h : RowE base V v ls) (hO : Only2 S B V V') (hS : S < base) (hB : B < base) : RowE base V' v ls := h.keep hO.size fun k h1 hk => hO.block k hk (by omega) (by omega)
theorem EAt.below {g i : Nat} {e : En} (h : EAt V g i e) (hb : Below V.heap.size V V') : EAt V' g i e := by
  have hl : g < V.heap.size := World.block_lt_of_cell? _ _ h.c
  have k : ∀ o, V'.cell? ⟨g, o, none⟩ = V.cell? ⟨g, o, none⟩ := fun o => hb.cell (p := ⟨g, o, none⟩) hl
  exact ⟨(k _).trans h.c, (k _).trans h.f, (k _).trans h.s, (k _).trans h.st, (k _).trans h.ow⟩
end
theorem below_drewN {B : Nat} {a w : World} (h : Below B a w) (q : Nat) : Below B a (w.drewN q) := ⟨h.os, h.tape, h.output, h.size, h.block⟩
set_option maxRecDepth 20000 in
set_option maxHeartbeats 1000000 in
theorem same_en (b b' : Nat) (v v' : Value) (ls : List En) (w : World) (hn : ls.length ≤ 1000) (ha : RowE b w v ls) (hb : RowE b' w v' ls) :
    Calls Tryz.prog 13 #[v, v'] w fun e w' => e = .returned (.bool true) ∧ Below w.heap.size w w' := by
  obtain ⟨A, c, rfl⟩ := ha.form
  obtain ⟨A', c', rfl⟩ := hb.form
  have HA := Lib.hid ha
  have HB := Lib.hid hb
  clear ha hb
  obtain ⟨n, hnd⟩ : ∃ n, n = ls.length := ⟨_, rfl⟩
  have HN : Hid (n = ls.length) := hnd
  rw [← hnd] at hn ⊢
  clear hnd
  go_enter Tryz.func13, Tryz.ntmps13
  go_wp2
  go_loopw [5] (fun i wr => ∃ k : Nat, i = .int .i64 (k : Int) ∧ k ≤ n ∧ ∃ q, wr = w.drewN q) (fun i _ => n - (intOf i).toNat)
  case atStart => exact ⟨0, rfl, Nat.zero_le _, 0, rfl⟩
  case round =>
    obtain ⟨k, rfl, hk, q, rfl⟩ := hrel
    by_cases hlt : k < n
    · obtain ⟨g, c1, hv, _, _, he⟩ := HA.out.at k (by have := HN.out; omega)
      obtain ⟨g', c1', hv', _, _, he'⟩ := HB.out.at k (by have := HN.out; omega)
      injection hv with hv _ hv2
      injection hv' with hv' _ hv2'
      subst hv hv' hv2 hv2'
      generalize ls[k]'(by have := HN.out; omega) = m at he he'
      have hne := fun W => neq_en m m W
      simp only [decide_true, Bool.not_true] at hne
      obtain ⟨⟨kc, kf, ks⟩, st, ow⟩ := m
      unfold En.cells at hne
      obtain ⟨c0, c1, c2, c3, c4⟩ := he
      obtain ⟨d0, d1, d2, d3, d4⟩ := he'
      have hi0 : (0 : Int) ≤ (k : Int) := by omega
      have hi1 : (k : Int) < (n : Int) := by omega
      go_wp2
      go_quiet (fail)
      go_wp2
      go_roundw
      case rel => exact ⟨k + 1, by go_num, by omega, _, rfl⟩
      case measure => simp [intOf]; omega
    · obtain rfl : k = n := by omega
      go_wp2
      go_ret
      exact ⟨rfl, below_drewN (Below.refl _ _) _⟩
end Go.Proofs.YtlpnecmcncekcaaGreat.Mk
