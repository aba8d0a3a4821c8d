/- Operations and what they told, as values; their words by the document. -/
import Derived.Test.YtpakefgbjncdiadDoorRepEntry
import Derived.Test.YtpakefgbjncdiadDoorWords
namespace Go.Proofs.YtpakefgbjncdiadDoor.Rep
open Go Go.RowKit Num Dec packetKeys

structure O9 where
  k : Int
  who : Int
  key : K3
  sd : Int
  ac : Int
  ep : Nat
  n : Nat
def O9.ok (o : O9) : Prop := (-9223372036854775808 ≤ o.who ∧ o.who ≤ 9223372036854775807) ∧ o.key.ok ∧ (-9223372036854775808 ≤ o.ac ∧ o.ac ≤ 9223372036854775807) ∧ o.ep < 18446744073709551616 ∧ o.n < 18446744073709551616
def O9.cells (o : O9) : Array Value := #[.int .i64 o.k, .int .i64 o.who, .int .i64 o.key.c, .int .i64 o.key.f, .int .u64 (o.key.s : Int), .int .i64 o.sd, .int .i64 o.ac, .int .u64 (o.ep : Int), .int .u64 (o.n : Int)]
def headB (o : O9) : ByteArray := opW o.k ++ ⟨#[32, 98, 121, 32]⟩ ++ intW o.who ++ ⟨#[32]⟩
def acB (o : O9) : ByteArray := headB o ++ sideW o.sd ++ ⟨#[32]⟩ ++ intW o.ac
def nB (o : O9) : ByteArray := acB o ++ ⟨#[32]⟩ ++ decW o.n
def opB (o : O9) : ByteArray := if 1 ≤ o.k ∧ o.k ≤ 5 then headB o ++ nameB o.key else if o.k = 10 then acB o else if o.k = 7 ∨ o.k = 8 then nB o ++ ⟨#[32, 105, 110, 32]⟩ ++ decW o.ep else nB o
structure R4 where
  e : Int
  ep : Nat
  n : Nat
  many : Nat
def R4.ok (r : R4) : Prop := r.ep < 18446744073709551616 ∧ r.n < 18446744073709551616 ∧ r.many < 18446744073709551616
def R4.cells (r : R4) : Array Value := #[.int .i64 r.e, .int .u64 (r.ep : Int), .int .u64 (r.n : Int), .int .u64 (r.many : Int)]
def retB (k : Int) (r : R4) : ByteArray := if r.e ≠ 0 then wordC r.e else if k = 6 then wordC r.e ++ ⟨#[32]⟩ ++ decW r.n ++ ⟨#[32]⟩ ++ decW r.many ++ ⟨#[32, 105, 110, 32]⟩ ++ decW r.ep else if k = 9 then wordC r.e ++ ⟨#[32, 105, 110, 32]⟩ ++ decW r.ep else if k = 10 then wordC r.e ++ ⟨#[32]⟩ ++ decW r.n else wordC r.e

def opwords : Array ByteArray := #[⟨#[110, 111, 110, 101]⟩, ⟨#[105, 110, 115, 101, 114, 116]⟩, ⟨#[99, 108, 97, 105, 109]⟩, ⟨#[114, 101, 108, 101, 97, 115, 101]⟩, ⟨#[99, 111, 109, 112, 108, 101, 116, 101]⟩, ⟨#[101, 120, 112, 105, 114, 101]⟩, ⟨#[114, 101, 115, 101, 114, 118, 101]⟩, ⟨#[99, 111, 109, 109, 105, 116]⟩, ⟨#[114, 101, 116, 117, 114, 110]⟩, ⟨#[114, 101, 115, 121, 110, 99]⟩, ⟨#[100, 114, 111, 112]⟩]
theorem opwords_at (j : Nat) (h : 1 ≤ j) (h2 : j ≤ 10) : (opwords.map Value.string)[j]? = some (.string (opW (j : Int))) := by
  have : j = 1 ∨ j = 2 ∨ j = 3 ∨ j = 4 ∨ j = 5 ∨ j = 6 ∨ j = 7 ∨ j = 8 ∨ j = 9 ∨ j = 10 := by omega
  rcases this with rfl | rfl | rfl | rfl | rfl | rfl | rfl | rfl | rfl | rfl <;> simp [opwords, opW]
/-- what is kept: a box, the table of powers -/
abbrev BX (w : World) (t : TypeId) (cs : Array Value) (W : World) : Prop := (Below w.heap.size w W ∧ Tab W) ∧ W.heap[w.heap.size]? = some (.cells cs t (0, 0))
theorem BX.call {w W W1 : World} {t : TypeId} {cs : Array Value} (h : BX w t cs W) (hb : Below W.heap.size W W1) : BX w t cs W1 :=
  ⟨⟨h.1.1.trans (hb.mono h.1.1.size), tab_below h.1.2 hb⟩, (hb.block _ (Array.getElem?_eq_some_iff.1 h.2).1).trans h.2⟩
theorem BX.drew {w W : World} {t : TypeId} {cs : Array Value} (h : BX w t cs W) : BX w t cs W.drew := h.call (Below.refl _ _).drew
theorem BX.new (w : World) (t : TypeId) (cs : Array Value) (ht : Tab w) : BX w t cs (w.alloc (.cells cs t)) :=
  ⟨⟨(Below.refl _ _).alloc (Nat.le_refl _) _, Lib.tabIs_alloc ht _⟩, heap_alloc_new w _⟩
theorem add_eq (a b : ByteArray) (h : a.size + b.size ≤ 9223372036854775807) : ∀ W : World, (Op.stringOp .add a b).run Tryd.prog W = .ok (.string (a ++ b)) W := fun W => run_string_add_sum W _ _ h
end Go.Proofs.YtpakefgbjncdiadDoor.Rep
