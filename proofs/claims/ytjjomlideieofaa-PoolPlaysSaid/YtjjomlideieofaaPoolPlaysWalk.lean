/- 'PoolPlays': its arguments opened. -/
import Derived.Test.YtjjomlideieofaaPoolPlays
import Derived.Test.YtjjomlideieofaaMsgOpen
namespace Go.Proofs.Ytjjomlideieofaa.Msg
open Go.RowKit Go.Deep Go.WideShapes

theorem cells_act10 : Try.prog.cellsOf 42 = 6 := by kernel_rfl
section
variable {H : Type} {enc : TypeId × Value → H} {w : World} {base : Nat} {spare : Nat → Bool} {held : Bool}

def A6.ok (a : A6) (w : World) : Prop := a.t.ok w ∧ 0 ≤ a.kd ∧ a.kd < 256

set_option maxRecDepth 100000 in
theorem open_act10 {fuel : Nat} {cs : List Value} {x : DataW H × List MemPlace} (h : DataW.trod enc Try.prog w base spare held fuel 42 cs = some x) : ∃ a : A6, cs = a.cells.toList ∧ a.ok w := by
  obtain ⟨xs, n, _, _, hcl, hlen, hf⟩ := DataW.trod_struct Try.underlying42 h
  rw [cells_act10] at hcl
  obtain ⟨y0, h0⟩ := field_at hlen hf 0 _ rfl rfl
  obtain ⟨y1, h1⟩ := field_at hlen hf 1 _ rfl rfl
  obtain ⟨y2, h2⟩ := field_at hlen hf 2 _ rfl rfl
  obtain ⟨a0, e0, _, w0⟩ := DataW.trod_int Try.underlying5 h0
  obtain ⟨t, e1, ht⟩ := open_tx h1
  obtain ⟨a2, e2, _, _⟩ := DataW.trod_int Try.underlying3 h2
  have w0' : 0 ≤ a0 ∧ a0 < 256 := by
    simp [Lit.wf, IntKind.min, IntKind.max, IntKind.bits, IntKind.signed] at w0
    omega
  refine ⟨⟨a0, t, a2⟩, ?_, ht, w0'.1, w0'.2⟩
  have e0' : (cs.drop 0).take 1 = [.int .u8 a0] := e0
  have e1' : (cs.drop 1).take 4 = t.cells.toList := e1
  have e2' : (cs.drop 5).take 1 = [.int .i64 a2] := e2
  match cs, hcl with
  | [b0, b1, b2, b3, b4, b5], _ =>
    simp [T4.cells] at e0' e1' e2'
    obtain ⟨rfl, rfl, rfl, rfl⟩ := e1'
    subst e0' e2'
    rfl

set_option maxRecDepth 100000 in
theorem open_acts10 {r : Reach} {b0 : Nat} {v : Value} {d : DataW H} {p : List MemPlace} (ok : Value.okWide Try.prog w r b0 22 v) (h : DataW.Trod enc Try.prog w base spare held 22 v d p) :
    ∃ A len cap qs, v = .slice A len cap ∧ len ≤ maxLen ∧ RdA w A len qs := by
  obtain ⟨a0, len, cap, rfl⟩ := okWide_slice Try.underlying22 ok
  obtain ⟨fuel, hf⟩ := h
  rcases open_slice Try.underlying22 hf with ⟨hcs, _⟩ | ⟨a, len', cap', m, n, D, Pl, hcs, hb, hl, hm, hmm, hx, hi⟩
  · simp [Value.cells] at hcs
    obtain ⟨rfl, rfl, rfl⟩ := hcs
    exact ⟨none, 0, 0, [], rfl, by decide, rfl, fun a ha => by simp at ha, fun h => absurd h (by omega)⟩
  · simp [Value.cells] at hcs
    obtain ⟨rfl, rfl, rfl⟩ := hcs
    have hml : len ≤ m := by rw [hmm]; split <;> omega
    have hex : ∀ i : Nat, ∃ q : A6, q.ok w ∧ (i < len → w.cells? base (a.add (i * 6)) 6 = some q.cells.toList) := fun i => by
      by_cases hil : i < len
      · obtain ⟨cs', hc, ht⟩ := hi i (by omega)
        rw [cells_act10] at hc
        obtain ⟨q, hq, hok⟩ := open_act10 ht
        exact ⟨q, hok, fun _ => hq ▸ hc⟩
      · exact ⟨⟨0, ⟨0, 0, 0, none, 0, 0, []⟩, 0⟩, ⟨⟨Nat.le_refl _, by decide, ⟨rfl, fun h => absurd h (Nat.lt_irrefl 0)⟩, by decide, by decide⟩, by decide, by decide⟩, fun h => absurd h hil⟩
    obtain ⟨Q, hQ⟩ := Classical.axiomOfChoice hex
    refine ⟨some a, len, cap, (List.range len).map Q, rfl, by omega, by simp, fun q hq => ?_, fun hlen => ?_⟩
    · obtain ⟨i, _, rfl⟩ := List.mem_map.1 hq
      exact (hQ i).1
    obtain ⟨b, off, spot⟩ := a
    have hspot : spot = none := by
      have h1 := (World.cells?_some ((hQ 0).2 hlen)).2.2 0 (by decide)
      simpa [Addr.add] using World.cell?_spot (h1.trans rfl)
    subst hspot
    have h0 := (World.cells?_some ((hQ 0).2 hlen)).2.2 0 (by decide)
    refine ⟨b, off, rfl, ?_, fun i hi' j v hv => ?_⟩
    · have := World.block_lt_of_cell? w _ (h0.trans rfl)
      simpa [Addr.add] using this
    · have hil : i < len := by simpa using hi'
      have hj : j < 6 := by
        have := (Array.getElem?_eq_some_iff.1 hv).1
        simpa [A6.cells] using this
      have h1 := (World.cells?_some ((hQ i).2 hil)).2.2 j hj
      have h2 : ((List.range len).map Q)[i] = Q i := by simp
      rw [h2] at hv
      rw [Array.getElem?_toList, hv] at h1
      rw [add_addr, add_addr] at h1
      exact h1
end
end Go.Proofs.Ytjjomlideieofaa.Msg
namespace Go.Proofs.Ytjjomlideieofaa.poolPlays
open Go Go.RowKit Msg

set_option maxRecDepth 100000 in
theorem walk {H : Type} {enc : TypeId × Value → H} {spare spare' : Nat → Bool} {held held' : Bool} {w : World} {base base' : Nat} {v v' : Value} {d d' : DataW H} {p p' : List MemPlace} (most : Int) (_ : (Lit.int .i64 most).wf = true)
    (ok : Value.okWide Try.prog w .any base 22 v) (h : DataW.Trod enc Try.prog w 0 spare held 22 v d p)
    (ok' : Value.okWide Try.prog w .any base' 27 v') (h' : DataW.Trod enc Try.prog w 0 spare' held' 27 v' d' p') :
    Calls Try.prog 3 #[.int .i64 most, v, v'] w fun e w' => e = .returned (.bool true) ∧ Below w.heap.size w w' := by
  obtain ⟨A, len, cap, qs, rfl, hl, hr⟩ := open_acts10 ok h
  obtain ⟨x, rfl⟩ := open_msg_val ok' h'
  unfold maxLen at hl
  by_cases h60 : 60 < len
  · exact law_long most A len cap x w h60 (by omega)
  · by_cases hm : most < 1 ∨ 32 < most
    · exact law_bad most A len cap x w (by omega) hm
    · exact law_main most A len cap qs x w hr (by omega) (by omega) (by omega)
end Go.Proofs.Ytjjomlideieofaa.poolPlays
