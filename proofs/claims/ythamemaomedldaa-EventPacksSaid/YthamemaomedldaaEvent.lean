/- Events in memory: rows that came in. -/
import Derived.Test.YthamemaomedldaaCommon
import Derived.OpenShut
import Derived.ProofKit
namespace Go.Proofs.Ythamemaomedldaa.Ev
open Go.RowKit

/-- An event's fields. -/
structure E8 where
  k : Int
  h : Int
  c : Int
  f : Int
  s : Int
  t : Int
  d : ByteArray
  a : ByteArray

def E8.cells (m : E8) : Array Value := #[.int .i64 m.k, .int .u64 m.h, .int .i64 m.c, .int .i64 m.f, .int .u64 m.s, .int .u64 m.t, .string m.d, .string m.a]
def e0 : E8 := ⟨0, 0, 0, 0, 0, 0, .empty, .empty⟩

/-- A slice that reads as events. -/
def Rd (w : World) (A : Option Addr) (len : Nat) (ms : List E8) : Prop :=
  ms.length = len ∧ (0 < len → ∃ b off, A = some ⟨b, off, none⟩ ∧ b < w.heap.size ∧ ∀ i, i < len → ∀ j v, ((ms.getD i e0).cells)[j]? = some v → w.cell? ⟨b, off + i * 8 + j, none⟩ = some v)

theorem Rd.below {w w' : World} {A : Option Addr} {len : Nat} {ms : List E8} (h : Rd w A len ms) (hb : Below w.heap.size w w') : Rd w' A len ms :=
  ⟨h.1, fun hl => by
    obtain ⟨b, off, rfl, hbl, hc⟩ := h.2 hl
    exact ⟨b, off, rfl, Nat.lt_of_lt_of_le hbl hb.size, fun i hi j v hv => (hb.cell (p := ⟨b, _, none⟩) hbl).trans (hc i hi j v hv)⟩⟩

/-- The i-th event stands there, in the world W behind w. -/
def At (W : World) (b o : Nat) (m : E8) : Prop :=
  W.cell? ⟨b, o, none⟩ = some (.int .i64 m.k) ∧ W.cell? ⟨b, o + 1, none⟩ = some (.int .u64 m.h) ∧ W.cell? ⟨b, o + 2, none⟩ = some (.int .i64 m.c) ∧ W.cell? ⟨b, o + 3, none⟩ = some (.int .i64 m.f) ∧
  W.cell? ⟨b, o + 4, none⟩ = some (.int .u64 m.s) ∧ W.cell? ⟨b, o + 5, none⟩ = some (.int .u64 m.t) ∧ W.cell? ⟨b, o + 6, none⟩ = some (.string m.d) ∧ W.cell? ⟨b, o + 7, none⟩ = some (.string m.a)

theorem Rd.at {w W : World} {A : Option Addr} {len : Nat} {ms : List E8} (h : Rd w A len ms) (hb : Below w.heap.size w W) (hl : 0 < len) :
    ∃ b off, A = some ⟨b, off, none⟩ ∧ b < w.heap.size ∧ ∀ i, i < len → At W b (off + i * 8) (ms.getD i e0) := by
  obtain ⟨b, off, rfl, hbl, hc⟩ := h.2 hl
  refine ⟨b, off, rfl, hbl, fun i hi => ?_⟩
  have h1 : ∀ j v, ((ms.getD i e0).cells)[j]? = some v → W.cell? ⟨b, off + i * 8 + j, none⟩ = some v := fun j v hv => (hb.cell (p := ⟨b, _, none⟩) hbl).trans (hc i hi j v hv)
  exact ⟨h1 0 _ rfl, h1 1 _ rfl, h1 2 _ rfl, h1 3 _ rfl, h1 4 _ rfl, h1 5 _ rfl, h1 6 _ rfl, h1 7 _ rfl⟩

theorem At.alloc {W : World} {b o : Nat} {m : E8} (h : At W b o m) (hb : b < W.heap.size) (x : Obj) : At (W.alloc x) b o m := by
  obtain ⟨h0, h1, h2, h3, h4, h5, h6, h7⟩ := h
  have H : ∀ i v, W.cell? ⟨b, i, none⟩ = some v → (W.alloc x).cell? ⟨b, i, none⟩ = some v := fun i v hv => (World.cell?_alloc_lt W _ _ (by exact hb)).trans hv
  exact ⟨H _ _ h0, H _ _ h1, H _ _ h2, H _ _ h3, H _ _ h4, H _ _ h5, H _ _ h6, H _ _ h7⟩

/-- The events of a kind among the first n, with their places. -/
def comes (es : List E8) (kind : Int) : Nat → List (Nat × E8)
  | 0 => []
  | n + 1 => if (es.getD n e0).k = kind then comes es kind n ++ [(n, es.getD n e0)] else comes es kind n

theorem comes_yes {es : List E8} {kind : Int} {n : Nat} (h : (es.getD n e0).k = kind) : comes es kind (n + 1) = comes es kind n ++ [(n, es.getD n e0)] := by rw [comes, if_pos h]
theorem comes_no {es : List E8} {kind : Int} {n : Nat} (h : ¬ (es.getD n e0).k = kind) : comes es kind (n + 1) = comes es kind n := by rw [comes, if_neg h]
theorem comes_len (es : List E8) (kind : Int) : ∀ n, (comes es kind n).length ≤ n
  | 0 => Nat.le_refl _
  | n + 1 => by
    have := comes_len es kind n
    unfold comes
    split
    · rw [List.length_append, List.length_singleton]; omega
    · omega

end Go.Proofs.Ythamemaomedldaa.Ev
