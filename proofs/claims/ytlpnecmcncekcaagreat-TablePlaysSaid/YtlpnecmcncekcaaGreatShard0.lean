/- A shard in memory. -/
import Derived.Test.YtlpnecmcncekcaaGreatMapK
import Derived.Test.YtlpnecmcncekcaaGreatLocks
import Derived.Conc.MuLone
import Derived.Below
namespace Go.Proofs.YtlpnecmcncekcaaGreat.Mk
open Go Go.RowKit

/-- As Q, and there is no panic. -/
def NoP (Q : Exit → Act → World → Prop) : Exit → Act → World → Prop
  | .panic _, _, _ => False
  | e, a, w => Q e a w
theorem noP_le (Q : Exit → Act → World → Prop) : ∀ e a w, NoP Q e a w → Q e a w := fun e a w h => by
  cases e <;> first | exact h | exact h.elim
abbrev TS : Nat := 103
/-- All that stood stands as it was, but blocks S and B. -/
structure Only2 (S B : Nat) (w w' : World) : Prop where
  os : w'.os = w.os
  tape : w'.tape = w.tape
  output : w'.output = w.output
  size : w.heap.size ≤ w'.heap.size
  block : ∀ k, k < w.heap.size → k ≠ S → k ≠ B → w'.heap[k]? = w.heap[k]?
theorem Only2.refl (S B : Nat) (w : World) : Only2 S B w w := ⟨rfl, rfl, rfl, Nat.le_refl _, fun _ _ _ _ => rfl⟩
theorem Only2.trans {S B : Nat} {a b c : World} (h : Only2 S B a b) (g : Only2 S B b c) : Only2 S B a c :=
  ⟨g.os.trans h.os, g.tape.trans h.tape, g.output.trans h.output, Nat.le_trans h.size g.size, fun k hk h1 h2 => (g.block k (Nat.lt_of_lt_of_le hk h.size) h1 h2).trans (h.block k hk h1 h2)⟩
theorem Only2.of_below {S B : Nat} {w w' : World} (h : Below w.heap.size w w') : Only2 S B w w' := ⟨h.os, h.tape, h.output, h.size, fun k hk _ _ => h.block k hk⟩
theorem Only2.setS {S B : Nat} {a b : World} (h : Only2 S B a b) (i : Nat) (v : Value) : Only2 S B a (b.setCell ⟨S, i, none⟩ v) :=
  ⟨h.os, h.tape, h.output, by simpa using h.size, fun k hk h1 h2 => (Below.heap_setCell _ _ _ _ (fun e => h1 e)).trans (h.block k hk h1 h2)⟩
theorem Only2.setNew {S B n : Nat} {a b : World} (h : Only2 S B a b) (hn : a.heap.size ≤ n) (i : Nat) (v : Value) : Only2 S B a (b.setCell ⟨n, i, none⟩ v) :=
  ⟨h.os, h.tape, h.output, by simpa using h.size, fun k hk h1 h2 => (Below.heap_setCell _ _ _ _ (fun e => by have : k = n := e; omega)).trans (h.block k hk h1 h2)⟩
theorem Only2.setRow {S B n : Nat} {a b : World} (h : Only2 S B a b) (hn : a.heap.size ≤ n) (cs : Array Value) : Only2 S B a (b.setRow n cs) :=
  ⟨h.os, h.tape, h.output, by simpa using h.size, fun k hk h1 h2 => (setRow_other b n k cs (by omega)).trans (h.block k hk h1 h2)⟩
theorem Only2.alloc {S B : Nat} {a b : World} (h : Only2 S B a b) (o : Obj) : Only2 S B a (b.alloc o) :=
  ⟨h.os, h.tape, h.output, Nat.le_trans h.size (by simp), fun k hk h1 h2 => (Below.heap_alloc _ _ _ (Nat.lt_of_lt_of_le hk h.size)).trans (h.block k hk h1 h2)⟩
theorem Only2.drew {S B : Nat} {a b : World} (h : Only2 S B a b) : Only2 S B a b.drew := ⟨h.os, h.tape, h.output, h.size, h.block⟩
theorem Only2.drewN {S B : Nat} {a b : World} (h : Only2 S B a b) (n : Nat) : Only2 S B a (b.drewN n) := ⟨h.os, h.tape, h.output, h.size, h.block⟩
theorem Only2.below {M S B : Nat} {a b c : World} (h : Below M a b) (g : Only2 S B b c) (hS : M ≤ S) (hB : M ≤ B) (hM : M ≤ b.heap.size) : Below M a c :=
  ⟨g.os.trans h.os, g.tape.trans h.tape, g.output.trans h.output, Nat.le_trans h.size g.size, fun k hk => (g.block k (Nat.lt_of_lt_of_le hk hM) (by omega) (by omega)).trans (h.block k hk)⟩
/-- the world in which block B is that map -/
def setM (W : World) (B : Nat) (l : List Ms) (clock : Nat) : World := { W with heap := W.heap.setIfInBounds B (.map (l.map toM).toArray clock) }
theorem setM_size (W : World) (B : Nat) (l : List Ms) (clock : Nat) : (setM W B l clock).heap.size = W.heap.size := by simp [setM]
theorem setM_at {W : World} {B : Nat} {l0 : List Ms} {c0 : Nat} (h : MapIs W B l0 c0) (l : List Ms) (clock : Nat) : MapIs (setM W B l clock) B l clock := by
  have hlt : B < W.heap.size := (Array.getElem?_eq_some_iff.1 h).1
  simp [MapIs, setM, hlt]
theorem setM_off (W : World) (B : Nat) (l : List Ms) (clock : Nat) (k : Nat) (hk : k ≠ B) : (setM W B l clock).heap[k]? = W.heap[k]? := by
  simp [setM, Ne.symm hk]
theorem Only2.setM {S B : Nat} {a b : World} (h : Only2 S B a b) (l : List Ms) (clock : Nat) : Only2 S B a (Mk.setM b B l clock) :=
  ⟨h.os, h.tape, h.output, by rw [setM_size]; exact h.size, fun k hk h1 h2 => (setM_off b B l clock k h2).trans (h.block k hk h1 h2)⟩

/-- A shard lies in block S, its map in block B; lk is the lock's word. -/
structure ShIs (W : World) (S B : Nat) (room : Int) (l : List Ms) (clock : Nat) (lk : Int) : Prop where
  box : W.heap[S]? = some (.cells #[.int .i32 lk, .int .u32 0, .int .i64 room, .map (some B)] TS (0, 0))
  map : MapIs W B l clock
theorem ShIs.ne {W : World} {S B : Nat} {room : Int} {l : List Ms} {clock : Nat} {lk : Int} (h : ShIs W S B room l clock lk) : S ≠ B := by
  intro e
  have h1 := h.box
  have h2 : W.heap[B]? = some (.map (l.map toM).toArray clock) := h.map
  rw [e, h2] at h1
  injection h1 with h1
  cases h1
theorem ShIs.ltS {W : World} {S B : Nat} {room : Int} {l : List Ms} {clock : Nat} {lk : Int} (h : ShIs W S B room l clock lk) : S < W.heap.size := (Array.getElem?_eq_some_iff.1 h.box).1
theorem ShIs.ltB {W : World} {S B : Nat} {room : Int} {l : List Ms} {clock : Nat} {lk : Int} (h : ShIs W S B room l clock lk) : B < W.heap.size := (Array.getElem?_eq_some_iff.1 h.map).1
theorem ShIs.below {W W' : World} {S B : Nat} {room : Int} {l : List Ms} {clock : Nat} {lk : Int} (h : ShIs W S B room l clock lk) (hb : Below W.heap.size W W') : ShIs W' S B room l clock lk :=
  ⟨(hb.block S h.ltS).trans h.box, (hb.block B h.ltB).trans h.map⟩
theorem ShIs.new {W : World} {S B : Nat} {room : Int} {l : List Ms} {clock : Nat} {lk : Int} (h : ShIs W S B room l clock lk) (o : Obj) : ShIs (W.alloc o) S B room l clock lk :=
  h.below ((Below.refl _ _).alloc (Nat.le_refl _) o)
theorem ShIs.lock {W : World} {S B : Nat} {room : Int} {l : List Ms} {clock : Nat} {lk : Int} (h : ShIs W S B room l clock lk) (v : Int) : ShIs (W.setCell ⟨S, 0, none⟩ (.int .i32 v)) S B room l clock v :=
  ⟨by simp [World.setCell, Array.getElem?_modify, h.box], (Below.heap_setCell _ _ _ _ (fun e => h.ne (show S = B from e.symm))).trans h.map⟩
theorem ShIs.setOff {W : World} {S B n : Nat} {room : Int} {l : List Ms} {clock : Nat} {lk : Int} (h : ShIs W S B room l clock lk) (hS : n ≠ S) (hB : n ≠ B) (i : Nat) (v : Value) : ShIs (W.setCell ⟨n, i, none⟩ v) S B room l clock lk :=
  ⟨(Below.heap_setCell _ _ _ _ (fun e => hS (show n = S from e.symm))).trans h.box, (Below.heap_setCell _ _ _ _ (fun e => hB (show n = B from e.symm))).trans h.map⟩
theorem ShIs.turn {W : World} {S B : Nat} {room : Int} {l : List Ms} {clock : Nat} {lk : Int} (h : ShIs W S B room l clock lk) (l' : List Ms) (c' : Nat) : ShIs (setM W B l' c') S B room l' c' lk :=
  ⟨(setM_off W B l' c' S h.ne).trans h.box, setM_at h.map l' c'⟩
theorem ShIs.cells {W : World} {S B : Nat} {room : Int} {l : List Ms} {clock : Nat} {lk : Int} (h : ShIs W S B room l clock lk) : W.cell? ⟨S, 0, none⟩ = some (.int .i32 lk) ∧ W.cell? ⟨S, 2, none⟩ = some (.int .i64 room) ∧ W.cell? ⟨S, 3, none⟩ = some (.map (some B)) ∧ W.frozen? ⟨S, 0, none⟩ = false :=
  ⟨cell_of_row W S 0 _ _ (0, 0) h.box, cell_of_row W S 2 _ _ (0, 0) h.box, cell_of_row W S 3 _ _ (0, 0) h.box, by simp [World.frozen?, h.box]⟩

theorem look_any (k : K3) (B : Nat) (l : List Ms) (clock : Nat) : ∃ (e : En) (b : Bool), b = (at? k l 0).isSome ∧ ∀ V, MapIs V B l clock → (Instr.lookup 94 (.map (some B)) k.val true).run Tryz.prog V = .ok (.tuple #[.agg e.cells, .bool b]) V := by
  cases hf : at? k l 0 with
  | none => exact ⟨en0, false, rfl, fun V h => by rw [look_run k B l clock V h, hf]; rfl⟩
  | some x =>
    obtain ⟨i, v⟩ := x
    obtain ⟨m, h1, y, h2, h3, h4⟩ := at?_some hf
    exact ⟨y.2.1, true, rfl, fun V h => by rw [look_run k B l clock V h, hf]; rw [show v = .agg y.2.1.cells from h4.symm]; rfl⟩
set_option maxRecDepth 20000 in
theorem snew_ok (room : Int) (W : World) (h1 : 1 ≤ room) (h2 : room ≤ 64) :
    Calls Tryz.prog 28 #[.int .i64 room] W fun e w' => (∃ S B, e = .returned (.tuple #[.pointer (some ⟨S, 0, none⟩), .int .i64 0]) ∧ ShIs w' S B room [] 0 0 ∧ W.heap.size ≤ S ∧ W.heap.size ≤ B) ∧ Below W.heap.size W w' := by
  have hmm := @run_makeMap Tryz.prog
  go_enter Tryz.func28, Tryz.ntmps28
  go_wp2
  go_ret2
  refine ⟨⟨W.heap.size + 1, W.heap.size, rfl, ⟨?_, ?_⟩, by omega, Nat.le_refl _⟩, ((Below.refl _ _).alloc (Nat.le_refl _) _).alloc (by simp) _⟩
  · have := heap_alloc_new (W.alloc (.map #[] 0)) (.cells #[.int .i32 0, .int .u32 0, .int .i64 room, .map (some W.heap.size)] TS)
    simpa using this
  · show (World.heap _)[_]? = _
    rw [Below.heap_alloc _ _ _ (by simp)]
    exact heap_alloc_new W (.map #[] 0)
theorem snew_no (room : Int) (W : World) (h : room < 1 ∨ 64 < room) :
    Calls Tryz.prog 28 #[.int .i64 room] W fun e w' => e = .returned (.tuple #[.pointer none, .int .i64 1]) ∧ w' = W := by
  by_cases h1 : room < 1
  · clear h
    go_enter Tryz.func28, Tryz.ntmps28
    go_wp2
    go_ret2
    exact ⟨rfl, rfl⟩
  · have h2 : 64 < room := by omega
    have h3 : decide (room < 1) = false := by simpa using h1
    clear h
    go_enter Tryz.func28, Tryz.ntmps28
    go_wp2
    go_ret2
    exact ⟨rfl, rfl⟩
end Go.Proofs.YtlpnecmcncekcaaGreat.Mk
