/- sort.Slice of a row of entries that the call owns, of whatever length. -/
import Derived.Test.YtlpnecmcncekcaaGreatSnapW
namespace Go.Proofs.YtlpnecmcncekcaaGreat.Mk
open Go Go.RowKit Go.MuLone

/-- A row of entries, in memory from block 'base' on. -/
def RowE (base : Nat) (V : World) (v : Value) (ls : List En) : Prop :=
  (v = .slice none 0 0 ∧ ls = []) ∨ ∃ g c, v = .slice (some ⟨g, 0, none⟩) ls.length c ∧ base ≤ g ∧ g < V.heap.size ∧ Sort.HoldsK encE 5 V g 0 ls.toArray
theorem rowE_of_own {base : Nat} {V : World} {v : Value} {ls : List En} (h : V.ownsRow base TEn 5 v ls.length (ecs ls)) : RowE base V v ls := by
  rcases h.2 with ⟨h1, h2⟩ | ⟨g, cap, cur, hv, hg, hh, r⟩
  · exact Or.inl ⟨h1, List.length_eq_zero_iff.1 h2⟩
  · subst hv
    exact Or.inr ⟨g, cap, rfl, hg, (Array.getElem?_eq_some_iff.1 hh).1, holds_of_own h⟩
theorem pw_small {α : Type} {R : α → α → Prop} : ∀ {l : List α}, l.length ≤ 1 → l.Pairwise R
  | [], _ => List.Pairwise.nil
  | [_], _ => List.pairwise_singleton _ _
  | _ :: _ :: _, h => by simp at h
theorem grown_of_grow (w : World) (os : Array Obj) (r : Option Nat) : w.grownBy (Sort.grow w os) r :=
  ⟨(grow_below w os).os, (grow_below w os).tape, (grow_below w os).output, (grow_below w os).size, fun k hk _ => (grow_below w os).block k hk⟩
theorem sort_any (X base : Nat) (v : Value) (acc : List En) (V : World) (hrow : V.ownsRow base TEn 5 v acc.length (ecs acc)) (hX : V.heap[X]? = some (.cells #[v] TLn (0, 0))) (hXb : X < base) (hlen : acc.length ≤ 1000) :
    Calls Tryz.prog 38 #[.iface TLn v, .func (.func 48) #[] #[.pointer (some ⟨X, 0, none⟩)]] V fun e w' => e = .returned (.tuple #[]) ∧ ∃ ls, ls.Perm acc ∧ ls.Pairwise (fun a b => ltE b a = false) ∧ RowE base w' v ls ∧ w'.heap[X]? = some (.cells #[v] TLn (0, 0)) ∧ V.grownBy w' v.ownBlock := by
  rcases hrow.2 with ⟨hv, hn⟩ | ⟨g, cap, cur, hv, hg, hh, hnc, hcm, r⟩
  · subst hv
    have ha := List.length_eq_zero_iff.1 hn
    subst ha
    refine (sort_none (.func 48) #[] #[.pointer (some ⟨X, 0, none⟩)] V).mono ?_
    rintro e w' ⟨rfl, hb⟩
    exact ⟨rfl, [], List.Perm.refl _, List.Pairwise.nil, Or.inl ⟨rfl, rfl⟩, (hb.block _ (Array.getElem?_eq_some_iff.1 hX).1).trans hX, ⟨hb.os, hb.tape, hb.output, hb.size, fun k hk _ => hb.block k hk⟩⟩
  · subst hv
    have hgl : g < V.heap.size := (Array.getElem?_eq_some_iff.1 hh).1
    have hH := holds_of_own hrow
    by_cases h2 : 2 ≤ acc.length
    · have hs := sort_two X g cap acc.toArray V (by simpa using h2) (by simp; omega) hH hgl (by simpa using hX) (by omega)
      simp only [List.size_toArray] at hs
      refine hs.mono ?_
      rintro e w' ⟨rfl, d', hp, hso, hR⟩
      have hsz : d'.size = acc.length := hR.sz
      refine ⟨rfl, d'.toList, ?_, ?_, Or.inr ⟨g, cap, by simp [hsz], hg, Nat.lt_of_lt_of_le hgl hR.base, by simpa using hR.holds⟩, (hR.rest X (by omega) (by omega)).trans hX,
        ⟨hR.os, hR.tape, hR.output, hR.base, fun k hk hne => hR.rest k hk (fun e => hne (by rw [e]; rfl))⟩⟩
      · have h3 := hp.2.2
        rw [← hsz] at h3
        simp only [Array.extract_size] at h3
        have h4 : (acc.toArray.extract 0 d'.size).toList = acc := by rw [hsz]; simp
        rw [h4] at h3
        exact h3
      · rw [List.pairwise_iff_getElem]
        intro i j hi hj hij
        have := hso i j (Nat.zero_le _) hij (by rw [← hsz]; simpa using hj)
        rw [getElem!_pos d' i (by simpa using hi), getElem!_pos d' j (by simpa using hj)] at this
        simpa using this
    · have h1 : acc.length ≤ 1 := by omega
      have hk : Lib.swapperK acc.length slE 25 = 1 ∨ Lib.swapperK acc.length slE 25 = 2 := by
        rcases Nat.lt_or_ge acc.length 1 with h | h
        · left; have : acc.length = 0 := by omega
          rw [this]; simp [Lib.swapperK]
        · right; have : acc.length = 1 := by omega
          rw [this]; simp [Lib.swapperK]
      have ht : Calls Tryz.prog 38 #[.iface TLn (.slice (some ⟨g, 0, none⟩) acc.length cap), .func (.func 48) #[] #[.pointer (some ⟨X, 0, none⟩)]] V fun e w' => e = .returned (.tuple #[]) ∧ ∃ os, w' = Sort.grow V os := by
        rcases hk with hk | hk
        · exact Any.sort_Slice_tiny laysSl TLn TEn slT slE (by kernel_rfl) (by kernel_rfl) (by kernel_rfl) (by kernel_rfl) 25 (fun _ => by kernel_rfl) (some ⟨g, 0, none⟩) acc.length cap h1 84 (by rw [hk]; kernel_rfl) _ _ _ V
        · exact Any.sort_Slice_tiny laysSl TLn TEn slT slE (by kernel_rfl) (by kernel_rfl) (by kernel_rfl) (by kernel_rfl) 25 (fun _ => by kernel_rfl) (some ⟨g, 0, none⟩) acc.length cap h1 85 (by rw [hk]; kernel_rfl) _ _ _ V
      refine ht.mono ?_
      rintro e w' ⟨rfl, os, rfl⟩
      have hb := grow_below V os
      refine ⟨rfl, acc, List.Perm.refl _, ?_, rowE_of_own (own_keep5 hrow fun k _ hk => hb.block k hk), (hb.block _ (Array.getElem?_eq_some_iff.1 hX).1).trans hX, grown_of_grow V os _⟩
      exact pw_small h1
end Go.Proofs.YtlpnecmcncekcaaGreat.Mk
