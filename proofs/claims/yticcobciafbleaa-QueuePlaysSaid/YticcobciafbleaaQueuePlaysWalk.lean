/- 'QueuePlays' holds for every input, with no condition: the walk over what came in. -/
import Derived.Test.YticcobciafbleaaQueuePlays
import Derived.OpenShut
import Derived.ProofKit
import Derived.Deep.Slices
import Derived.ChangeArms
namespace Go.Proofs.Yticcobciafbleaa.queuePlays
open Go.RowKit Queue Go.Deep Go.WideShapes

set_option maxHeartbeats 1000000 in
theorem walk_long (room : Int) (A : Option Addr) (len cap : Nat) (h : 100 < len) (w : World) :
    Calls Try.prog 12 #[.int .i64 room, .slice A len cap] w fun e w' => e = .returned (.bool true) ∧ Below w.heap.size w w' := by
  have hp : (100 : Int) < (len : Int) := by omega
  go_enter Try.func12, Try.ntmps12
  go_wp2_with fail
  refine (awake_any _).mono ?_
  rintro e w1 ⟨rfl, hb⟩
  go_wp2
  go_ret
  exact ⟨rfl, hb⟩

set_option maxHeartbeats 1000000 in
theorem walk_bad (room : Int) (hr : room < 1 ∨ 1024 < room) (A : Option Addr) (len cap : Nat) (h : len ≤ 100) (w : World) :
    Calls Try.prog 12 #[.int .i64 room, .slice A len cap] w fun e w' => e = .returned (.bool true) ∧ Below w.heap.size w w' := by
  have hp : (len : Int) ≤ 100 := by omega
  have HN := Lib.hid (new_bad room hr)
  by_cases h1 : room < 1
  · clear hr
    go_enter Try.func12, Try.ntmps12
    go_wp2_with fail
    refine (HN.out _).mono ?_
    rintro e w1 ⟨rfl, rfl⟩
    go_wp2_with fail
    refine (awake_any _).mono ?_
    rintro e w2 ⟨rfl, hb⟩
    go_wp2
    go_ret
    exact ⟨rfl, hb⟩
  · have h2 : 1024 < room := by omega
    clear hr
    go_enter Try.func12, Try.ntmps12
    go_wp2_with fail
    refine (HN.out _).mono ?_
    rintro e w1 ⟨rfl, rfl⟩
    go_wp2_with fail
    refine (awake_any _).mono ?_
    rintro e w2 ⟨rfl, hb⟩
    go_wp2
    go_ret
    exact ⟨rfl, hb⟩

theorem add_addr (b off k : Nat) : (⟨b, off, none⟩ : Addr).add k = ⟨b, off + k, none⟩ := by unfold Addr.add; by_cases h : k = 0 <;> simp [h]
set_option maxRecDepth 100000 in
theorem cells_pair : Try.prog.cellsOf 115 = 2 := by kernel_rfl
set_option maxRecDepth 100000 in
theorem cells_int : Try.prog.cellsOf 3 = 1 := by kernel_rfl

section
variable {H : Type} {enc : TypeId × Value → H} {w : World} {base : Nat} {spare : Nat → Bool} {held : Bool}
set_option maxRecDepth 100000 in
theorem open_pair {fuel : Nat} {cs : List Value} {x : DataW H × List MemPlace} (h : DataW.trod enc Try.prog w base spare held fuel 115 cs = some x) :
    ∃ q : Int × Int, cs = [.int .i64 q.1, .int .i64 q.2] := by
  obtain ⟨xs, m, _, _, hcl, hlen, hf⟩ := DataW.trod_array Try.underlying115 h
  rw [cells_pair] at hcl
  rw [cells_int] at hf
  have g0 := (hf 0 (by decide)).trans (List.getElem?_eq_getElem (by omega))
  have g1 := (hf 1 (by decide)).trans (List.getElem?_eq_getElem (by omega))
  obtain ⟨a0, e0, _, w0⟩ := DataW.trod_int Try.underlying3 g0
  obtain ⟨a1, e1, _, w1⟩ := DataW.trod_int Try.underlying3 g1
  refine ⟨(a0, a1), ?_⟩
  match cs, hcl, e0, e1 with
  | [b0, b1], _, e0, e1 => simp at e0 e1; subst e0 e1; rfl

set_option maxRecDepth 100000 in
theorem open_pairs {r : Reach} {b0 : Nat} {v : Value} {d : DataW H} {p : List MemPlace} (ok : Value.okWide Try.prog w r b0 108 v) (h : DataW.Trod enc Try.prog w base spare held 108 v d p) :
    ∃ A len cap zs, v = .slice A len cap ∧ len ≤ maxLen ∧ Rp w A len zs := by
  obtain ⟨a0, len, cap, rfl⟩ := okWide_slice Try.underlying108 ok
  obtain ⟨fuel, hf⟩ := h
  rcases open_slice Try.underlying108 hf with ⟨hcs, _⟩ | ⟨a, len', cap', m, n, D, Pl, hcs, hb, hl, hm, hmm, hx, hi⟩
  · simp [Value.cells] at hcs
    obtain ⟨rfl, rfl, rfl⟩ := hcs
    exact ⟨none, 0, 0, [], rfl, by decide, fun h => absurd h (by omega)⟩
  · simp [Value.cells] at hcs
    obtain ⟨rfl, rfl, rfl⟩ := hcs
    have hml : len ≤ m := by rw [hmm]; split <;> omega
    have hex : ∀ i : Nat, ∃ q : Int × Int, i < len → w.cells? base (a.add (i * 2)) 2 = some [.int .i64 q.1, .int .i64 q.2] := fun i => by
      by_cases hil : i < len
      · obtain ⟨cs', hc, ht⟩ := hi i (by omega)
        rw [cells_pair] at hc
        obtain ⟨q, hq⟩ := open_pair ht
        exact ⟨q, fun _ => hq ▸ hc⟩
      · exact ⟨(0, 0), fun h => absurd h hil⟩
    obtain ⟨Q, hQ⟩ := Classical.axiomOfChoice hex
    refine ⟨some a, len, cap, (List.range len).map Q, rfl, by omega, fun hlen => ?_⟩
    obtain ⟨b, off, spot⟩ := a
    have hspot : spot = none := by
      have h1 := (World.cells?_some (hQ 0 hlen)).2.2 0 (by decide)
      simpa [Addr.add] using World.cell?_spot (h1.trans rfl)
    subst hspot
    have h0 := (World.cells?_some (hQ 0 hlen)).2.2 0 (by decide)
    refine ⟨b, off, rfl, ?_, fun i hil => ?_⟩
    · have := World.block_lt_of_cell? w _ (h0.trans rfl)
      simpa [Addr.add] using this
    · have h2 : ((List.range len).map Q).getD i (0, 0) = Q i := by simp [hil]
      rw [h2]
      have h1 := (World.cells?_some (hQ i hil)).2.2 0 (by decide)
      have h3 := (World.cells?_some (hQ i hil)).2.2 1 (by decide)
      rw [add_addr, add_addr] at h1 h3
      exact ⟨h1, h3⟩
end

set_option maxRecDepth 100000 in
theorem walk {H : Type} {enc : TypeId × Value → H} {spare : Nat → Bool} {held : Bool} {w : World} {base : Nat} {v : Value} {d : DataW H} {p : List MemPlace} (room : Int) (_ : (Lit.int .i64 room).wf = true)
    (ok : Value.okWide Try.prog w .any base 108 v) (h : DataW.Trod enc Try.prog w 0 spare held 108 v d p) :
    Calls Try.prog 12 #[.int .i64 room, v] w fun e w' => e = .returned (.bool true) ∧ Below w.heap.size w w' := by
  obtain ⟨A, len, cap, zs, rfl, hl, hr⟩ := open_pairs ok h
  by_cases hc : 100 < len
  · exact walk_long room A len cap hc w
  · by_cases hb : room < 1 ∨ 1024 < room
    · exact walk_bad room hb A len cap (by omega) w
    · exact walk_few room (by omega) (by omega) A len cap zs (by omega) w hr
end Go.Proofs.Yticcobciafbleaa.queuePlays
