/- The page's shard: where a new key's entry goes. -/
import Derived.Test.YtmdjhcpafjgigaaPgShard2
import Derived.Test.YtmdjhcpafjgigaaKeyRLessM
import Derived.Test.YtmdjhcpafjgigaaAppendAny
import Derived.Test.YtmdjhcpafjgigaaLastHeld
namespace Go.Proofs.Ytmdjhcpafjgigaa.Mk
open Go Go.RowKit Go.MuLone

/-- how many are ahead of a key -/
def qAt (k : K3) (ls : List En) : Nat := (ls.takeWhile fun e => ltK e.k k).length
def qIns (k : K3) (ls : List En) : List En := ls.take (qAt k ls) ++ ⟨k, 1, 0⟩ :: ls.drop (qAt k ls)
theorem tw_len {α : Type} (p : α → Bool) : ∀ (l : List α) (j : Nat) (hj : j ≤ l.length), (∀ q, (h : q < j) → p (l[q]'(by omega)) = true) → (∀ h : j < l.length, p l[j] = false) → (l.takeWhile p).length = j
  | [], j, hj, _, _ => by have : j = 0 := by simpa using hj
                          subst this; rfl
  | x :: l, 0, _, _, h2 => by
    have := h2 (by simp)
    simp only [List.getElem_cons_zero] at this
    rw [List.takeWhile_cons, this]
    rfl
  | x :: l, j + 1, hj, h1, h2 => by
    have h0 := h1 0 (by omega)
    simp only [List.getElem_cons_zero] at h0
    rw [List.takeWhile_cons, h0]
    simp only [if_true, List.length_cons]
    congr 1
    exact tw_len p l j (by simpa using hj) (fun q hq => h1 (q + 1) (by omega)) (fun h => h2 (by simpa using h))
/-- what the test of Insert's loop loads -/
def SI (Q g c n w0 o : Nat) (k : K3) (e : En) (W : World) : Prop :=
  W.cell? ⟨Q, 0, none⟩ = some (.slice (some ⟨g, 0, none⟩) n c) ∧ W.cell? ⟨g, o, none⟩ = some (.int .i64 e.k.c) ∧ W.cell? ⟨g, o + 1, none⟩ = some (.int .i64 e.k.f) ∧ W.cell? ⟨g, o + 2, none⟩ = some (.int .u64 e.k.s) ∧ W.cell? ⟨w0, 0, none⟩ = some (.int .i64 k.c) ∧ W.cell? ⟨w0, 1, none⟩ = some (.int .i64 k.f) ∧ W.cell? ⟨w0, 2, none⟩ = some (.int .u64 k.s)
theorem SI.drew {Q g c n w0 o : Nat} {k : K3} {e : En} {W : World} (h : SI Q g c n w0 o k e W) : SI Q g c n w0 o k e W.drew := h
theorem SI.call {Q g c n w0 o : Nat} {k : K3} {e : En} {W W' : World} (h : SI Q g c n w0 o k e W) (hb : Below W.heap.size W W') : SI Q g c n w0 o k e W' := by
  obtain ⟨h1, h2, h3, h4, h5, h6, h7⟩ := h
  have kk : ∀ p v, W.cell? p = some v → W'.cell? p = some v := fun p v hp => (hb.cell (World.block_lt_of_cell? _ _ hp)).trans hp
  exact ⟨kk _ _ h1, kk _ _ h2, kk _ _ h3, kk _ _ h4, kk _ _ h5, kk _ _ h6, kk _ _ h7⟩
theorem ecs_append (a b : List En) : ecs (a ++ b) = ecs a ++ ecs b := by simp [ecs]
theorem ecs_one (l : List En) : ∀ u ∈ ecs l, u.oneCell' = true := by
  intro u hu
  obtain ⟨e, _, hu⟩ := List.mem_flatMap.1 hu
  exact encE_one e u hu
/-- the page's row, parted -/
structure Pts (V : World) (A A2 : Option Addr) (n c j : Nat) (ls : List En) : Prop where
  nc : n ≤ c
  no1 : A = none → j = 0 ∧ c = 0
  no2 : A2 = none → n - j = 0 ∧ c - j = 0
  f1 : ∀ ad, A = some ad → ∀ q u, (ecs (ls.take j))[q]? = some u → V.cell? (ad.add q) = some u
  f2 : ∀ ad, A2 = some ad → ∀ q u, (ecs (ls.drop j))[q]? = some u → V.cell? (ad.add q) = some u
theorem QI.pts {V : World} {Q n c : Nat} {room : Int} {A : Option Addr} {ls : List En} (h : QI V Q room (.slice A n c) ls) (hn : n = ls.length) (j : Nat) (hj : j ≤ n) : Pts V A (if c = j then A else Option.map (fun x => x.add (j * 5)) A) n c j ls := by
  have hall := fun g hg => World.ownsRow.cells h.row (g := g) hg
  rcases h.row.2 with ⟨h3, h4⟩ | ⟨g, cap, cur, hv, hg, hh, hnc, hm, hs, ht⟩
  · injection h3 with h5 h6 h7
    subst h5 h6 h7
    obtain rfl : j = 0 := by omega
    have hl : ls = [] := List.eq_nil_of_length_eq_zero hn.symm
    subst hl
    exact ⟨Nat.le_refl _, fun _ => ⟨rfl, rfl⟩, fun _ => ⟨rfl, rfl⟩, fun _ h => (by cases h), fun _ h => (by cases h)⟩
  · injection hv with h5 h6 h7
    subst h5 h6 h7
    have hall2 := hall g rfl
    have e0 : ls = ls.take j ++ ls.drop j := (List.take_append_drop j ls).symm
    have e1 : ecs ls = ecs (ls.take j) ++ ecs (ls.drop j) := by rw [← ecs_append, ← e0]
    have l1 : (ecs (ls.take j)).length = j * 5 := by rw [ecs_len, List.length_take, Nat.min_eq_left (by omega)]
    refine ⟨by omega, fun h => by (cases h), fun h => ?_, fun ad h q u hu => ?_, fun ad h q u hu => ?_⟩
    · by_cases hc : c = j
      · rw [if_pos hc] at h; cases h
      · rw [if_neg hc] at h; cases h
    · injection h with h; subst h
      refine hall2 q u ?_
      rw [e1]
      have hq := (List.getElem?_eq_some_iff.1 hu).1
      rw [List.getElem?_append_left hq]; exact hu
    · by_cases hc : c = j
      · have : ls.drop j = [] := List.drop_eq_nil_of_le (by omega)
        rw [this] at hu
        cases hu
      · rw [if_neg hc] at h
        injection h with h; subst h
        have := hall2 (j * 5 + q) u (by rw [e1, List.getElem?_append_right (by omega), l1, Nat.add_sub_cancel_left]; exact hu)
        rw [show ((⟨g, 0, none⟩ : Addr).add (j * 5)).add q = (⟨g, 0, none⟩ : Addr).add (j * 5 + q) by unfold Addr.add; by_cases hj0 : j * 5 = 0 <;> by_cases hq0 : q = 0 <;> simp [hj0, hq0] <;> omega]
        exact this
theorem Pts.below {V V' : World} {A A2 : Option Addr} {n c j : Nat} {ls : List En} (h : Pts V A A2 n c j ls) (hb : Below V.heap.size V V') : Pts V' A A2 n c j ls :=
  ⟨h.nc, h.no1, h.no2, fun ad ha q u hu => (hb.cell (World.block_lt_of_cell? _ _ (h.f1 ad ha q u hu))).trans (h.f1 ad ha q u hu), fun ad ha q u hu => (hb.cell (World.block_lt_of_cell? _ _ (h.f2 ad ha q u hu))).trans (h.f2 ad ha q u hu)⟩
theorem own_form5 {V : World} {b n : Nat} {v : Value} {xs : List Value} (h : V.ownsRow b TEn 5 v n xs) : ∃ A m c, v = .slice A m c := by
  rcases h.2 with ⟨h1, _⟩ | ⟨g, cap, cur, h1, _⟩
  · exact ⟨_, _, _, h1⟩
  · exact ⟨_, _, _, h1⟩
end Go.Proofs.Ytmdjhcpafjgigaa.Mk
