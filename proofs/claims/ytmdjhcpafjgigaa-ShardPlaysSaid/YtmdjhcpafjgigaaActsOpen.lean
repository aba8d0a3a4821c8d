/- Many acts that came in, opened. -/
import Derived.Test.YtmdjhcpafjgigaaActOpen
namespace Go.Proofs.Ytmdjhcpafjgigaa.Mk
open Go Go.ChangeShapes Go.WideShapes Go.RowKit Go.Deep

structure A5 where
  kd : Int
  who : Int
  k : K3
def A5.cells (a : A5) : Array Value := #[.int .u8 a.kd, .int .i64 a.who, .int .i64 a.k.c, .int .i64 a.k.f, .int .u64 a.k.s]
/-- the act in the place i of a row of them -/
structure ActAt (V : World) (b off i : Nat) (a : A5) : Prop where
  kd : V.cell? ⟨b, off + i * 5, none⟩ = some (.int .u8 a.kd)
  who : V.cell? ⟨b, off + i * 5 + 1, none⟩ = some (.int .i64 a.who)
  c : V.cell? ⟨b, off + i * 5 + 2, none⟩ = some (.int .i64 a.k.c)
  f : V.cell? ⟨b, off + i * 5 + 3, none⟩ = some (.int .i64 a.k.f)
  s : V.cell? ⟨b, off + i * 5 + 4, none⟩ = some (.int .u64 a.k.s)
/-- acts that are read -/
structure RdT (V : World) (A : Option Addr) (len : Nat) (qs : List A5) : Prop where
  many : qs.length = len
  kinds : ∀ a ∈ qs, 0 ≤ a.kd ∧ a.kd ≤ 255
  keys : ∀ a ∈ qs, K3.ok a.k
  cells : 0 < len → ∃ b off, A = some ⟨b, off, none⟩ ∧ b < V.heap.size ∧ ∀ i (h : i < qs.length), ActAt V b off i qs[i]
theorem add_addr (b o i : Nat) : (⟨b, o, none⟩ : Addr).add i = ⟨b, o + i, none⟩ := by simp [Addr.add]
section
variable {H : Type} {enc : TypeId × Value → H} {w : World} {base : Nat} {spare : Nat → Bool} {held : Bool}
set_option maxRecDepth 100000 in
theorem open_acts {r : Reach} {b0 : Nat} {v : Value} {d : DataW H} {p : List MemPlace} (ok : Value.okWide Try.prog w r b0 22 v) (h : DataW.Trod enc Try.prog w base spare held 22 v d p) :
    ∃ A len cap qs, v = .slice A len cap ∧ len ≤ maxLen ∧ RdT w A len qs := by
  obtain ⟨a0, len, cap, rfl⟩ := okWide_slice Try.underlying22 ok
  obtain ⟨fuel, hf⟩ := h
  rcases open_slice Try.underlying22 hf with ⟨hcs, _⟩ | ⟨a, len', cap', m, n, D, Pl, hcs, hb, hl, hm, hmm, hx, hi⟩
  · simp [Value.cells] at hcs
    obtain ⟨rfl, rfl, rfl⟩ := hcs
    exact ⟨none, 0, 0, [], rfl, by decide, rfl, fun a ha => by simp at ha, fun a ha => by simp at ha, fun h => absurd h (by omega)⟩
  · simp [Value.cells] at hcs
    obtain ⟨rfl, rfl, rfl⟩ := hcs
    have hml : len ≤ m := by rw [hmm]; split <;> omega
    have hex : ∀ i : Nat, ∃ q : A5, (0 ≤ q.kd ∧ q.kd ≤ 255) ∧ K3.ok q.k ∧ (i < len → w.cells? base (a.add (i * 5)) 5 = some q.cells.toList) := fun i => by
      by_cases hil : i < len
      · obtain ⟨cs', hc, ht⟩ := hi i (by omega)
        rw [cells_act] at hc
        obtain ⟨kd, who, k, h0, h1, h2, h3, hm⟩ := open_act ht
        exact ⟨⟨kd, who, k⟩, ⟨h0, h1⟩, h3, fun _ => by rw [hc, hm]; rfl⟩
      · exact ⟨⟨0, 0, ⟨0, 0, 0⟩⟩, ⟨by decide, by decide⟩, by simp [K3.ok], fun h => absurd h hil⟩
    obtain ⟨Q, hQ⟩ := Classical.axiomOfChoice hex
    refine ⟨some a, len, cap, (List.range len).map Q, rfl, by omega, by simp, fun q hq => ?_, fun q hq => ?_, fun hlen => ?_⟩
    · obtain ⟨i, _, rfl⟩ := List.mem_map.1 hq
      exact (hQ i).1
    · obtain ⟨i, _, rfl⟩ := List.mem_map.1 hq
      exact (hQ i).2.1
    obtain ⟨b, off, spot⟩ := a
    have hspot : spot = none := by
      have h1 := (World.cells?_some ((hQ 0).2.2 hlen)).2.2 0 (by decide)
      simpa [Addr.add] using World.cell?_spot (h1.trans rfl)
    subst hspot
    have h0 := (World.cells?_some ((hQ 0).2.2 hlen)).2.2 0 (by decide)
    refine ⟨b, off, rfl, ?_, fun i hi' => ?_⟩
    · have := World.block_lt_of_cell? w _ (h0.trans rfl)
      simpa [Addr.add] using this
    · have hil : i < len := by simpa using hi'
      have h1 := (World.cells?_some ((hQ i).2.2 hil)).2.2
      have h2 : ((List.range len).map Q)[i] = Q i := by simp
      rw [h2]
      have g : ∀ j, j < 5 → w.cell? ⟨b, off + i * 5 + j, none⟩ = (Q i).cells.toList[j]? := fun j hj => by
        have := h1 j hj
        rwa [add_addr, add_addr] at this
      exact ⟨g 0 (by decide), g 1 (by decide), g 2 (by decide), g 3 (by decide), g 4 (by decide)⟩
end
section
variable {V V' : World} {b off i : Nat} {a : A5}
theorem ActAt.keep (h : ActAt V b off i a) (hb : V'.heap[b]? = V.heap[b]?) : ActAt V' b off i a := by
  have k : ∀ o, V'.cell? ⟨b, o, none⟩ = V.cell? ⟨b, o, none⟩ := fun o => World.cell?_of_block (a := ⟨b, o, none⟩) hb
  exact ⟨(k _).trans h.kd, (k _).trans h.who, (k _).trans h.c, (k _).trans h.f, (k _).trans h.s⟩
end
end Go.Proofs.Ytmdjhcpafjgigaa.Mk
