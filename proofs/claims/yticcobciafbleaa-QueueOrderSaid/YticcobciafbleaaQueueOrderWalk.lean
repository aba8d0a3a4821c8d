/- 'QueueOrder' holds for every input, with no condition: the walk over what came in. -/
import Derived.Test.YticcobciafbleaaQueueOrder
import Derived.Test.YticcobciafbleaaTextsOpen
import Derived.OpenShut
import Derived.ProofKit
import Derived.Deep.Slices
import Derived.ChangeArms
namespace Go.Proofs.Yticcobciafbleaa.queueOrder
open Go.RowKit Queue QueueS Go.Deep Go.WideShapes

set_option maxHeartbeats 1000000 in
theorem walk_long (r : Int) (A : Option Addr) (len cap : Nat) (h : 60 < len) (v : Value) (w : World) :
    Calls Try.prog 3 #[.int .u8 r, .slice A len cap, v] w fun e w' => e = .returned (.bool true) ∧ Below w.heap.size w w' := by
  have hp : (60 : Int) < (len : Int) := by omega
  go_enter Try.func3, Try.ntmps3
  go_wp2_with fail
  refine (awake_any _).mono ?_
  rintro e w1 ⟨rfl, hb⟩
  go_wp2
  go_ret
  exact ⟨rfl, hb⟩

set_option maxRecDepth 100000 in
theorem cells_bool : Try.prog.cellsOf 4 = 1 := by kernel_rfl

section
variable {H : Type} {enc : TypeId × Value → H} {w : World} {base : Nat} {spare : Nat → Bool} {held : Bool}
set_option maxRecDepth 100000 in
theorem open_bs {r : Reach} {b0 : Nat} {v : Value} {d : DataW H} {p : List MemPlace} (ok : Value.okWide Try.prog w r b0 23 v) (h : DataW.Trod enc Try.prog w base spare held 23 v d p) :
    ∃ A len cap zs, v = .slice A len cap ∧ len ≤ maxLen ∧ Rb w A len zs := by
  obtain ⟨a0, len, cap, rfl⟩ := okWide_slice Try.underlying23 ok
  obtain ⟨fuel, hf⟩ := h
  rcases open_slice Try.underlying23 hf with ⟨hcs, _⟩ | ⟨a, len', cap', m, n, D, Pl, hcs, hb, hl, hm, hmm, hx, hi⟩
  · simp [Value.cells] at hcs
    obtain ⟨rfl, rfl, rfl⟩ := hcs
    exact ⟨none, 0, 0, fun _ => false, rfl, by decide, fun h => absurd h (by omega)⟩
  · simp [Value.cells] at hcs
    obtain ⟨rfl, rfl, rfl⟩ := hcs
    have hml : len ≤ m := by rw [hmm]; split <;> omega
    have hex : ∀ i : Nat, ∃ q : Bool, i < len → w.cells? base (a.add (i * 1)) 1 = some [.bool q] := fun i => by
      by_cases hil : i < len
      · obtain ⟨cs', hc, ht⟩ := hi i (by omega)
        rw [cells_bool] at hc
        obtain ⟨q, hq, _⟩ := DataW.trod_bool Try.underlying4 ht
        exact ⟨q, fun _ => hq ▸ hc⟩
      · exact ⟨false, fun h => absurd h hil⟩
    obtain ⟨Q, hQ⟩ := Classical.axiomOfChoice hex
    refine ⟨some a, len, cap, Q, rfl, by omega, fun hlen => ?_⟩
    obtain ⟨b, off, spot⟩ := a
    have hspot : spot = none := by
      have h1 := (World.cells?_some (hQ 0 hlen)).2.2 0 (by decide)
      simpa [Addr.add] using World.cell?_spot (h1.trans rfl)
    subst hspot
    have h0 := (World.cells?_some (hQ 0 hlen)).2.2 0 (by decide)
    refine ⟨b, off, rfl, ?_, fun i hil => ?_⟩
    · have := World.block_lt_of_cell? w _ (h0.trans rfl)
      simpa [Addr.add] using this
    · have h1 := (World.cells?_some (hQ i hil)).2.2 0 (by decide)
      rw [Texts.add_addr, Texts.add_addr, Nat.mul_one] at h1
      exact h1
end

set_option maxRecDepth 100000 in
theorem walk {H : Type} {enc : TypeId × Value → H} {spare : Nat → Bool} {held : Bool} {w : World} {base : Nat} {v : Value} {d : DataW H} {p : List MemPlace} {base2 : Nat} {v2 : Value} {d2 : DataW H} {p2 : List MemPlace} {spare2 : Nat → Bool} {held2 : Bool} (r : Int) (wr : (Lit.int .u8 r).wf = true)
    (ok : Value.okWide Try.prog w .any base 22 v) (h : DataW.Trod enc Try.prog w 0 spare held 22 v d p)
    (ok2 : Value.okWide Try.prog w .any base2 23 v2) (h2 : DataW.Trod enc Try.prog w 0 spare2 held2 23 v2 d2 p2) :
    Calls Try.prog 3 #[.int .u8 r, v, v2] w fun e w' => e = .returned (.bool true) ∧ Below w.heap.size w w' := by
  obtain ⟨A, len, cap, zs, rfl, hl, hr, _⟩ := Texts.open_texts ok h
  obtain ⟨A2, len2, cap2, bs, rfl, hl2, hr2⟩ := open_bs ok2 h2
  have hb := bounds_u8 wr
  by_cases hc : 60 < len
  · exact walk_long r A len cap hc _ w
  · exact walk_few r hb.1 hb.2 A len cap zs (by omega) A2 len2 cap2 bs w hr.2 hr2
end Go.Proofs.Yticcobciafbleaa.queueOrder
