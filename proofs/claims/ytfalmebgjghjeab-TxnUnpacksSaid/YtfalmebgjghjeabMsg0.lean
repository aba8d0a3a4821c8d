/- Messages in memory. -/
import Derived.Test.YtfalmebgjghjeabCommon
import Derived.OpenShut
import Derived.ProofKit
namespace Go.Proofs.Ytfalmebgjghjeab.Msg
open Go.RowKit

/-- A message's fields. -/
structure M7 where
  k : Int
  c : Int
  f : Int
  s : Int
  t : Int
  d : ByteArray
  a : ByteArray

def M7.cells (m : M7) : Array Value := #[.int .i64 m.k, .int .i64 m.c, .int .i64 m.f, .int .u64 m.s, .int .u64 m.t, .string m.d, .string m.a]

def same (x y : M7) : Bool := x.k == y.k && (x.c == y.c && (x.f == y.f && (x.s == y.s && (x.t == y.t && (x.d.toList == y.d.toList && x.a.toList == y.a.toList)))))

theorem eq_run (x y : M7) (w : World) : (binOp .eql 50 (.agg x.cells) (.agg y.cells)).run Try.prog w = .ok (.bool (same x y)) w := by
  unfold M7.cells same
  go_simp
  repeat' split
  all_goals simp_all

/-- A slice that reads as messages. -/
def Rd (w : World) (A : Option Addr) (len : Nat) (ms : List M7) : Prop :=
  ms.length = len ∧ (0 < len → ∃ b off, A = some ⟨b, off, none⟩ ∧ b < w.heap.size ∧ ∀ i, i < len → ∀ j v, ((ms.getD i ⟨0, 0, 0, 0, 0, .empty, .empty⟩).cells)[j]? = some v → w.cell? ⟨b, off + i * 7 + j, none⟩ = some v)

theorem Rd.below {w w' : World} {A : Option Addr} {len : Nat} {ms : List M7} (h : Rd w A len ms) (hb : Below w.heap.size w w') : Rd w' A len ms :=
  ⟨h.1, fun hl => by
    obtain ⟨b, off, rfl, hbl, hc⟩ := h.2 hl
    exact ⟨b, off, rfl, Nat.lt_of_lt_of_le hbl hb.size, fun i hi j v hv => (hb.cell (p := ⟨b, _, none⟩) hbl).trans (hc i hi j v hv)⟩⟩

/-- The place of the first one from i on that is x, of n. -/
def place (ms : List M7) (x : M7) : Nat → Nat → Int
  | 0, _ => -1
  | n + 1, i => if same (ms.getD i ⟨0, 0, 0, 0, 0, .empty, .empty⟩) x then (i : Int) else place ms x n (i + 1)

end Go.Proofs.Ytfalmebgjghjeab.Msg
