/- Messages in memory. -/
import Derived.Test.YtjjomlideieofaaCommon
import Derived.OpenShut
import Derived.ProofKit
namespace Go.Proofs.Ytjjomlideieofaa.Msg
open Go.RowKit

/-- A message's fields. -/
structure M7 where
  k : Int
  c : Int
  f : Int
  s : Int
  t : Int
  d : ByteArray
  a : ByteArray

def M7.cells (m : M7) : Array Value := #[.int .i64 m.k, .int .i64 m.c, .int .i64 m.f, .int .u64 m.s, .int .u64 m.t, .string m.d, .string m.a]

def same (x y : M7) : Bool := x.k == y.k && (x.c == y.c && (x.f == y.f && (x.s == y.s && (x.t == y.t && (x.d.toList == y.d.toList && x.a.toList == y.a.toList)))))

theorem eq_run (x y : M7) (w : World) : (binOp .eql 27 (.agg x.cells) (.agg y.cells)).run Try.prog w = .ok (.bool (same x y)) w := by
  unfold M7.cells same
  go_simp
  repeat' split
  all_goals simp_all

/-- A slice that reads as messages. -/
def Rd (w : World) (A : Option Addr) (len : Nat) (ms : List M7) : Prop :=
  ms.length = len ∧ (0 < len → ∃ b off, A = some ⟨b, off, none⟩ ∧ b < w.heap.size ∧ ∀ i, i < len → ∀ j v, ((ms.getD i ⟨0, 0, 0, 0, 0, .empty, .empty⟩).cells)[j]? = some v → w.cell? ⟨b, off + i * 7 + j, none⟩ = some v)

theorem Rd.below {w w' : World} {A : Option Addr} {len : Nat} {ms : List M7} (h : Rd w A len ms) (hb : Below w.heap.size w w') : Rd w' A len ms :=
  ⟨h.1, fun hl => by
    obtain ⟨b, off, rfl, hbl, hc⟩ := h.2 hl
    exact ⟨b, off, rfl, Nat.lt_of_lt_of_le hbl hb.size, fun i hi j v hv => (hb.cell (p := ⟨b, _, none⟩) hbl).trans (hc i hi j v hv)⟩⟩

/-- The place of the first one from i on that is x, of n. -/
def place (ms : List M7) (x : M7) : Nat → Nat → Int
  | 0, _ => -1
  | n + 1, i => if same (ms.getD i ⟨0, 0, 0, 0, 0, .empty, .empty⟩) x then (i : Int) else place ms x n (i + 1)

set_option maxHeartbeats 1000000 in
theorem find_any (A : Option Addr) (len cap : Nat) (ms : List M7) (x : M7) (w : World) (h : Rd w A len ms) (hlen : len ≤ 9223372036854775807) :
    Calls Try.prog 56 #[.slice A len cap, .agg x.cells] w fun e w' => e = .returned (.int .i64 (place ms x len 0)) ∧ Below w.heap.size w w' := by
  unfold M7.cells
  go_enter Try.func56, Try.ntmps56
  go_wp2
  go_loopw [9] (fun i wr => ∃ k : Nat, i = .int .i64 (k : Int) ∧ k ≤ len ∧ Hid (place ms x len 0 = place ms x (len - k) k) ∧ w.heap.size < wr.heap.size ∧ wr.heap[w.heap.size]? = some (.cells x.cells 27 (0, 0)) ∧ Below w.heap.size w wr)
    (fun i _ => len - (intOf i).toNat)
  case atStart => exact ⟨0, rfl, Nat.zero_le _, Lib.hid rfl, by simp, heap_alloc_new w _, (Below.refl _ _).alloc (Nat.le_refl _) _⟩
  case round =>
    obtain ⟨k, rfl, hk, hp, hz, hbx, hb⟩ := hrel
    by_cases hlt : k < len
    · obtain ⟨b, off, rfl, hbl, hc⟩ := h.2 (by omega)
      have hc := hc k hlt
      generalize hm : ms.getD k ⟨0, 0, 0, 0, 0, .empty, .empty⟩ = m at hc
      have c0 : wr.cell? ⟨b, off + k * 7, none⟩ = some (.int .i64 m.k) := (hb.cell (p := ⟨b, off + k * 7, none⟩) hbl).trans (hc 0 _ rfl)
      have c1 : wr.cell? ⟨b, off + k * 7 + 1, none⟩ = some (.int .i64 m.c) := (hb.cell (p := ⟨b, off + k * 7 + 1, none⟩) hbl).trans (hc 1 _ rfl)
      have c2 : wr.cell? ⟨b, off + k * 7 + 2, none⟩ = some (.int .i64 m.f) := (hb.cell (p := ⟨b, off + k * 7 + 2, none⟩) hbl).trans (hc 2 _ rfl)
      have c3 : wr.cell? ⟨b, off + k * 7 + 3, none⟩ = some (.int .u64 m.s) := (hb.cell (p := ⟨b, off + k * 7 + 3, none⟩) hbl).trans (hc 3 _ rfl)
      have c4 : wr.cell? ⟨b, off + k * 7 + 4, none⟩ = some (.int .u64 m.t) := (hb.cell (p := ⟨b, off + k * 7 + 4, none⟩) hbl).trans (hc 4 _ rfl)
      have c5 : wr.cell? ⟨b, off + k * 7 + 5, none⟩ = some (.string m.d) := (hb.cell (p := ⟨b, off + k * 7 + 5, none⟩) hbl).trans (hc 5 _ rfl)
      have c6 : wr.cell? ⟨b, off + k * 7 + 6, none⟩ = some (.string m.a) := (hb.cell (p := ⟨b, off + k * 7 + 6, none⟩) hbl).trans (hc 6 _ rfl)
      have x0 : wr.cell? ⟨w.heap.size, 0, none⟩ = some (.int .i64 x.k) := cell_of_row wr _ 0 _ _ (0, 0) hbx
      have x1 : wr.cell? ⟨w.heap.size, 1, none⟩ = some (.int .i64 x.c) := cell_of_row wr _ 1 _ _ (0, 0) hbx
      have x2 : wr.cell? ⟨w.heap.size, 2, none⟩ = some (.int .i64 x.f) := cell_of_row wr _ 2 _ _ (0, 0) hbx
      have x3 : wr.cell? ⟨w.heap.size, 3, none⟩ = some (.int .u64 x.s) := cell_of_row wr _ 3 _ _ (0, 0) hbx
      have x4 : wr.cell? ⟨w.heap.size, 4, none⟩ = some (.int .u64 x.t) := cell_of_row wr _ 4 _ _ (0, 0) hbx
      have x5 : wr.cell? ⟨w.heap.size, 5, none⟩ = some (.string x.d) := cell_of_row wr _ 5 _ _ (0, 0) hbx
      have x6 : wr.cell? ⟨w.heap.size, 6, none⟩ = some (.string x.a) := cell_of_row wr _ 6 _ _ (0, 0) hbx
      have heq : ∀ W, (binOp .eql 27 (.agg #[.int .i64 m.k, .int .i64 m.c, .int .i64 m.f, .int .u64 m.s, .int .u64 m.t, .string m.d, .string m.a]) (.agg #[.int .i64 x.k, .int .i64 x.c, .int .i64 x.f, .int .u64 x.s, .int .u64 x.t, .string x.d, .string x.a])).run Try.prog W = .ok (.bool (same m x)) W := eq_run m x
      have HM := Lib.hid hm
      clear hc hm
      have HB := Lib.hid hbx; clear hbx
      by_cases hs : same m x = true
      · rw [hs] at heq
        go_wp2
        go_ret
        refine ⟨?_, hb.alloc (Nat.le_of_lt hz) _⟩
        rw [hp.out, show len - k = len - k - 1 + 1 from by omega, place, HM.out, if_pos hs]
        rfl
      · have hs' : same m x = false := by simpa using hs
        rw [hs'] at heq
        go_wp2
        refine ⟨⟨k + 1, by go_num, by omega, Lib.hid ?_, ?_, ?_, hb.alloc (Nat.le_of_lt hz) _⟩, by simp [intOf]; omega⟩
        · rw [hp.out, show len - k = len - (k + 1) + 1 from by omega, place, HM.out, if_neg hs]
        · simp; omega
        · rw [Below.heap_alloc _ _ _ hz]; exact HB.out
    · have hk2 : k = len := by omega
      subst hk2
      go_wp2
      go_ret
      refine ⟨?_, hb⟩
      rw [hp.out, Nat.sub_self]
      rfl

end Go.Proofs.Ytjjomlideieofaa.Msg
