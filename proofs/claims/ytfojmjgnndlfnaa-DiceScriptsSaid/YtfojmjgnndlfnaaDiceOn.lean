/- Dice: what a throw leaves alone: all blocks but the dice's own. -/
import Derived.Test.YtfojmjgnndlfnaaDice0
namespace Go.Proofs.Ytfojmjgnndlfnaa.Dice
open Go Go.RowKit

/-- All that stood stands as it was, but block g. -/
structure On (g : Nat) (w w' : World) : Prop where
  os : w'.os = w.os
  tape : w'.tape = w.tape
  output : w'.output = w.output
  size : w.heap.size ≤ w'.heap.size
  block : ∀ k, k < w.heap.size → k ≠ g → w'.heap[k]? = w.heap[k]?
theorem On.refl (g : Nat) (w : World) : On g w w := ⟨rfl, rfl, rfl, Nat.le_refl _, fun _ _ _ => rfl⟩
theorem On.trans {g : Nat} {a b c : World} (h : On g a b) (k : On g b c) : On g a c :=
  ⟨k.os.trans h.os, k.tape.trans h.tape, k.output.trans h.output, Nat.le_trans h.size k.size, fun i hi h1 => (k.block i (Nat.lt_of_lt_of_le hi h.size) h1).trans (h.block i hi h1)⟩
theorem On.of_below {g : Nat} {w w' : World} (h : Below w.heap.size w w') : On g w w' := ⟨h.os, h.tape, h.output, h.size, fun k hk _ => h.block k hk⟩
theorem On.set {g n : Nat} {a b : World} (h : On g a b) (hn : a.heap.size ≤ n) (i : Nat) (v : Value) : On g a (b.setCell ⟨n, i, none⟩ v) :=
  ⟨h.os, h.tape, h.output, by simpa using h.size, fun k hk h1 => (Below.heap_setCell _ _ _ _ (fun e => by have : k = n := e; omega)).trans (h.block k hk h1)⟩
theorem On.setRow {g n : Nat} {a b : World} (h : On g a b) (hn : a.heap.size ≤ n) (cs : Array Value) : On g a (b.setRow n cs) :=
  ⟨h.os, h.tape, h.output, Nat.le_trans h.size (by simp [World.setRow]), fun k hk h1 => (setRow_other b n k cs (by omega)).trans (h.block k hk h1)⟩
theorem On.alloc {g : Nat} {a b : World} (h : On g a b) (o : Obj) : On g a (b.alloc o) :=
  ⟨h.os, h.tape, h.output, Nat.le_trans h.size (by simp), fun k hk h1 => (Below.heap_alloc _ _ _ (Nat.lt_of_lt_of_le hk h.size)).trans (h.block k hk h1)⟩
theorem On.drew {g : Nat} {a b : World} (h : On g a b) : On g a b.drew := ⟨h.os, h.tape, h.output, h.size, h.block⟩
theorem On.grown {g : Nat} {a b c : World} {row : Option Nat} (h : On g a b) (k : b.grownBy c row) (hr : ∀ i, row = some i → a.heap.size ≤ i) : On g a c :=
  ⟨k.os.trans h.os, k.tape.trans h.tape, k.output.trans h.output, Nat.le_trans h.size k.size, fun i hi h1 => (k.block i (Nat.lt_of_lt_of_le hi h.size) (fun e => by have := hr i e.symm; omega)).trans (h.block i hi h1)⟩
theorem below_on {w : World} {g : Nat} {st n : Int} (h : D TD w g st) (h1 : n ≤ 9223372036854775807) : Calls Try.prog 19 #[.pointer (some ⟨g, 0, none⟩), .int .i64 n] w fun e w' => e = .returned (.int .i64 (belZ st n)) ∧ D TD w' g (nxZ st n) ∧ On g w w' :=
  (below_z h h1).mono fun _ _ h => ⟨h.1, h.2.1, h.2.2.2.os, h.2.2.2.tape, h.2.2.2.output, h.2.2.2.size, fun k _ hk => h.2.2.1 k hk⟩
/-- the state behind k throws below 3 -/
def it : Nat → Int → Int
  | 0, s => s
  | k + 1, s => nxZ (it k s) 3
end Go.Proofs.Ytfojmjgnndlfnaa.Dice
