/- 'TokenPlays' holds for every input, with no condition: the walk over what came in. -/
import Derived.Test.YticcobciafbleaaTokenPlaysFew
import Derived.OpenShut
import Derived.ProofKit
import Derived.Deep.Slices
import Derived.ChangeArms
namespace Go.Proofs.Yticcobciafbleaa.tokenPlays
open Go.RowKit Token Go.Deep Go.WideShapes

set_option maxRecDepth 20000 in
set_option maxHeartbeats 1000000 in
theorem walk_long (A : Option Addr) (len cap : Nat) (h : 60 < len) (w : World) :
    Calls Try.prog 5 #[.slice A len cap] w fun e w' => e = .returned (.bool true) ∧ Below w.heap.size w w' := by
  have hp : (60 : Int) < (len : Int) := by omega
  go_enter Try.func5, Try.ntmps5
  go_wp2_with fail
  refine (awake_any _).mono ?_
  rintro e w1 ⟨rfl, hb⟩
  go_wp2
  go_ret
  exact ⟨rfl, hb⟩

theorem add_addr (b off k : Nat) : (⟨b, off, none⟩ : Addr).add k = ⟨b, off + k, none⟩ := by unfold Addr.add; by_cases h : k = 0 <;> simp [h]
set_option maxRecDepth 100000 in
theorem cells_triple : Try.prog.cellsOf 50 = 3 := by kernel_rfl
set_option maxRecDepth 100000 in
theorem cells_int : Try.prog.cellsOf 3 = 1 := by kernel_rfl

section
variable {H : Type} {enc : TypeId × Value → H} {w : World} {base : Nat} {spare : Nat → Bool} {held : Bool}
set_option maxRecDepth 100000 in
theorem open_triple {fuel : Nat} {cs : List Value} {x : DataW H × List MemPlace} (h : DataW.trod enc Try.prog w base spare held fuel 50 cs = some x) :
    ∃ q : Int × Int × Int, cs = [.int .i64 q.1, .int .i64 q.2.1, .int .i64 q.2.2] := by
  obtain ⟨xs, m, _, _, hcl, hlen, hf⟩ := DataW.trod_array Try.underlying50 h
  rw [cells_triple] at hcl
  rw [cells_int] at hf
  have g0 := (hf 0 (by decide)).trans (List.getElem?_eq_getElem (by omega))
  have g1 := (hf 1 (by decide)).trans (List.getElem?_eq_getElem (by omega))
  have g2 := (hf 2 (by decide)).trans (List.getElem?_eq_getElem (by omega))
  obtain ⟨a0, e0, _, w0⟩ := DataW.trod_int Try.underlying3 g0
  obtain ⟨a1, e1, _, w1⟩ := DataW.trod_int Try.underlying3 g1
  obtain ⟨a2, e2, _, w2⟩ := DataW.trod_int Try.underlying3 g2
  refine ⟨(a0, a1, a2), ?_⟩
  match cs, hcl, e0, e1, e2 with
  | [b0, b1, b2], _, e0, e1, e2 => simp at e0 e1 e2; subst e0 e1 e2; rfl

set_option maxRecDepth 100000 in
theorem open_triples {r : Reach} {b0 : Nat} {v : Value} {d : DataW H} {p : List MemPlace} (ok : Value.okWide Try.prog w r b0 40 v) (h : DataW.Trod enc Try.prog w base spare held 40 v d p) :
    ∃ A len cap zs, v = .slice A len cap ∧ len ≤ maxLen ∧ Rt w A len zs := by
  obtain ⟨a0, len, cap, rfl⟩ := okWide_slice Try.underlying40 ok
  obtain ⟨fuel, hf⟩ := h
  rcases open_slice Try.underlying40 hf with ⟨hcs, _⟩ | ⟨a, len', cap', m, n, D, Pl, hcs, hb, hl, hm, hmm, hx, hi⟩
  · simp [Value.cells] at hcs
    obtain ⟨rfl, rfl, rfl⟩ := hcs
    exact ⟨none, 0, 0, [], rfl, by decide, fun h => absurd h (by omega)⟩
  · simp [Value.cells] at hcs
    obtain ⟨rfl, rfl, rfl⟩ := hcs
    have hml : len ≤ m := by rw [hmm]; split <;> omega
    have hex : ∀ i : Nat, ∃ q : Int × Int × Int, i < len → w.cells? base (a.add (i * 3)) 3 = some [.int .i64 q.1, .int .i64 q.2.1, .int .i64 q.2.2] := fun i => by
      by_cases hil : i < len
      · obtain ⟨cs', hc, ht⟩ := hi i (by omega)
        rw [cells_triple] at hc
        obtain ⟨q, hq⟩ := open_triple ht
        exact ⟨q, fun _ => hq ▸ hc⟩
      · exact ⟨(0, 0, 0), fun h => absurd h hil⟩
    obtain ⟨Q, hQ⟩ := Classical.axiomOfChoice hex
    refine ⟨some a, len, cap, (List.range len).map Q, rfl, by omega, fun hlen => ?_⟩
    obtain ⟨b, off, spot⟩ := a
    have hspot : spot = none := by
      have h1 := (World.cells?_some (hQ 0 hlen)).2.2 0 (by decide)
      simpa [Addr.add] using World.cell?_spot (h1.trans rfl)
    subst hspot
    have h0 := (World.cells?_some (hQ 0 hlen)).2.2 0 (by decide)
    refine ⟨b, off, rfl, ?_, fun i hil => ?_⟩
    · have := World.block_lt_of_cell? w _ (h0.trans rfl)
      simpa [Addr.add] using this
    · have h2 : ((List.range len).map Q).getD i (0, 0, 0) = Q i := by simp [hil]
      rw [h2]
      have h1 := (World.cells?_some (hQ i hil)).2.2 0 (by decide)
      have h3 := (World.cells?_some (hQ i hil)).2.2 1 (by decide)
      have h4 := (World.cells?_some (hQ i hil)).2.2 2 (by decide)
      rw [add_addr, add_addr] at h1 h3 h4
      exact ⟨h1, h3, h4⟩
end

set_option maxRecDepth 100000 in
theorem walk {H : Type} {enc : TypeId × Value → H} {spare : Nat → Bool} {held : Bool} {w : World} {base : Nat} {v : Value} {d : DataW H} {p : List MemPlace}
    (ok : Value.okWide Try.prog w .any base 40 v) (h : DataW.Trod enc Try.prog w 0 spare held 40 v d p) :
    Calls Try.prog 5 #[v] w fun e w' => e = .returned (.bool true) ∧ Below w.heap.size w w' := by
  obtain ⟨A, len, cap, zs, rfl, hl, hr⟩ := open_triples ok h
  by_cases hc : 60 < len
  · exact walk_long A len cap hc w
  · exact walk_few A len cap zs (by omega) w hr
end Go.Proofs.Yticcobciafbleaa.tokenPlays
