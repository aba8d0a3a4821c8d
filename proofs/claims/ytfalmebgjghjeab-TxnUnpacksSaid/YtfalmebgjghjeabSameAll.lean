/- The page's Same and SameAll of transactions. -/
import Derived.Test.YtfalmebgjghjeabTxRows
import Derived.Deep.RegionHeld3
import Derived.IntWalk
namespace Go.Proofs.Ytfalmebgjghjeab.Msg
open Go Go.RowKit

/-- Two transactions of the same words. -/
def Sim (a b : T4) : Prop := a.side = b.side ∧ a.acc = b.acc ∧ a.n = b.n ∧ a.len = b.len ∧ a.ms = b.ms

set_option maxRecDepth 100000 in
set_option maxHeartbeats 2000000 in
theorem same_tx (side acc n : Int) (A A' : Option Addr) (len c c' : Nat) (ms : List M7) (w : World) (hr : Rd w A len ms) (hr' : Rd w A' len ms) (hl : len ≤ 9223372036854775807) :
    Calls Try.prog 14 #[.agg #[.int .i64 side, .int .i64 acc, .int .u64 n, .slice A len c], .agg #[.int .i64 side, .int .i64 acc, .int .u64 n, .slice A' len c']] w fun e w' => e = .returned (.bool true) ∧ Below w.heap.size w w' := by
  have hB : ∀ o o', Below w.heap.size w ((w.alloc o).alloc o') := fun o o' => ((Below.refl _ _).alloc (Nat.le_refl _) _).alloc (by simp) _
  have H1 := Lib.hid fun o o' => hr.below (hB o o')
  have H2 := Lib.hid fun o o' => hr'.below (hB o o')
  go_enter Try.func14, Try.ntmps14
  go_wp2_with fail
  refine (same_msgs A A' len c c' ms _ hl (H1.out _ _) (H2.out _ _)).mono ?_
  rintro e w1 ⟨rfl, hb⟩
  have HB := Lib.hid ((hB _ _).trans (hb.mono (by simp; omega)))
  clear hb hB
  go_wp2
  go_ret
  exact ⟨rfl, HB.out⟩

/-- A slice that reads as transactions. -/
def RdX (w : World) (A : Option Addr) (n : Nat) (qs : List T4) : Prop :=
  qs.length = n ∧ (0 < n → ∃ b off, A = some ⟨b, off, none⟩ ∧ b < w.heap.size ∧ ∀ i (h : i < qs.length) j v, (qs[i].cells)[j]? = some v → w.cell? ⟨b, off + i * 4 + j, none⟩ = some v)
theorem RdX.below {w w' : World} {A : Option Addr} {n : Nat} {qs : List T4} (h : RdX w A n qs) (hb : Below w.heap.size w w') : RdX w' A n qs :=
  ⟨h.1, fun hl => by
    obtain ⟨b, off, rfl, hbl, hc⟩ := h.2 hl
    exact ⟨b, off, rfl, Nat.lt_of_lt_of_le hbl hb.size, fun i hi j v hv => (hb.cell (p := ⟨b, _, none⟩) hbl).trans (hc i hi j v hv)⟩⟩
theorem rowX {w : World} {base n c : Nat} {A : Option Addr} {qs : List T4} (h : w.ownsRow base TT 4 (.slice A n c) n (tcells qs)) (hn : qs.length = n) : RdX w A n qs := by
  refine ⟨hn, fun hl => ?_⟩
  rcases h.2 with ⟨_, h0⟩ | ⟨g, cap, cur, hv, _, hh, hc, _, hsz, htk⟩
  · omega
  · injection hv with hA _ hcc
    subst hA hcc
    refine ⟨g, 0, rfl, lt_blk hh, fun i hi j v hv => ?_⟩
    have hj : j < 4 := by
      have := (Array.getElem?_eq_some_iff.1 hv).1
      simpa [T4.cells] using this
    rw [cell_of_row w g _ cur _ (0, 0) hh, ← Array.getElem?_toList]
    have h1 : (cur.toList.take (n * 4))[0 + i * 4 + j]? = cur.toList[0 + i * 4 + j]? := List.getElem?_take_of_lt (by omega)
    rw [← h1, htk, Nat.zero_add, tcells_at qs i j hi hj]
    exact hv
theorem RdX.at {w : World} {A : Option Addr} {n k : Nat} {qs : List T4} (h : RdX w A n qs) (hk : k < qs.length) : ∃ b off, A = some ⟨b, off, none⟩ ∧ b < w.heap.size ∧ w.cell? ⟨b, off + k * 4, none⟩ = some (.int .i64 qs[k].side) ∧ w.cell? ⟨b, off + k * 4 + 1, none⟩ = some (.int .i64 qs[k].acc) ∧ w.cell? ⟨b, off + k * 4 + 2, none⟩ = some (.int .u64 qs[k].n) ∧ w.cell? ⟨b, off + k * 4 + 3, none⟩ = some (.slice qs[k].A qs[k].len qs[k].cap) := by
  obtain ⟨b, off, rfl, hbl, hc⟩ := h.2 (by have := h.1; omega)
  exact ⟨b, off, rfl, hbl, hc k hk 0 _ rfl, hc k hk 1 _ rfl, hc k hk 2 _ rfl, hc k hk 3 _ rfl⟩

/-- What SameAll's test reads. -/
abbrev SX (w : World) (a b : Nat) (A B : T4) (oa ob : Nat) (W : World) : Prop :=
  (Below w.heap.size w W ∧ a < w.heap.size ∧ b < w.heap.size) ∧ W.cell? ⟨a, oa, none⟩ = some (.int .i64 A.side) ∧ W.cell? ⟨a, oa + 1, none⟩ = some (.int .i64 A.acc) ∧ W.cell? ⟨a, oa + 2, none⟩ = some (.int .u64 A.n) ∧ W.cell? ⟨a, oa + 3, none⟩ = some (.slice A.A A.len A.cap) ∧
  W.cell? ⟨b, ob, none⟩ = some (.int .i64 B.side) ∧ W.cell? ⟨b, ob + 1, none⟩ = some (.int .i64 B.acc) ∧ W.cell? ⟨b, ob + 2, none⟩ = some (.int .u64 B.n) ∧ W.cell? ⟨b, ob + 3, none⟩ = some (.slice B.A B.len B.cap)
theorem SX.drew {w W : World} {a b oa ob : Nat} {A B : T4} (h : SX w a b A B oa ob W) : SX w a b A B oa ob W.drew := ⟨⟨h.1.1.drew, h.1.2⟩, h.2⟩
theorem SX.call {w W W1 : World} {a b oa ob : Nat} {A B : T4} (h : SX w a b A B oa ob W) (hb : Below W.heap.size W W1) : SX w a b A B oa ob W1 := by
  obtain ⟨⟨h0, h1, h2⟩, h3⟩ := h
  have hc : ∀ i, W1.cell? ⟨a, i, none⟩ = W.cell? ⟨a, i, none⟩ := fun i => hb.cell (p := ⟨a, i, none⟩) (Nat.lt_of_lt_of_le h1 h0.size)
  have hc2 : ∀ i, W1.cell? ⟨b, i, none⟩ = W.cell? ⟨b, i, none⟩ := fun i => hb.cell (p := ⟨b, i, none⟩) (Nat.lt_of_lt_of_le h2 h0.size)
  refine ⟨⟨h0.trans (hb.mono h0.size), h1, h2⟩, ?_⟩
  simp only [hc, hc2]
  exact h3

set_option maxRecDepth 100000 in
set_option maxHeartbeats 4000000 in
theorem sameall_any (A B : Option Addr) (n c d : Nat) (ps qs : List T4) (w : World) (ha : RdX w A n ps) (hb : RdX w B n qs) (hn : n ≤ 9223372036854775807) (hs : ∀ i (h : i < ps.length) (h' : i < qs.length), Sim ps[i] qs[i]) (hp : ∀ p ∈ ps, Rd w p.A p.len p.ms ∧ p.len ≤ 1000000) (hq : ∀ q ∈ qs, Rd w q.A q.len q.ms) :
    Calls Try.prog 7 #[.slice A n c, .slice B n d] w fun e w' => e = .returned (.bool true) ∧ Below w.heap.size w w' := by
  have HA := Lib.hid ha
  have HB := Lib.hid hb
  have HS := Lib.hid hs
  have HP := Lib.hid (And.intro hp hq)
  clear ha hb hs hp hq
  go_enter Try.func7, Try.ntmps7
  go_wp2
  go_loopw [5] (fun i wr => ∃ k : Nat, i = .int .i64 (k : Int) ∧ k ≤ n ∧ Below w.heap.size w wr) (fun i _ => n - (intOf i).toNat)
  case atStart => exact ⟨0, rfl, Nat.zero_le _, Below.refl _ _⟩
  case round =>
    obtain ⟨k, rfl, hk, hbel⟩ := hrel
    by_cases hlt : k < n
    · have hkp : k < ps.length := by have := HA.out.1; omega
      have hkq : k < qs.length := by have := HB.out.1; omega
      obtain ⟨a, oa, hAe, hal, a0, a1, a2, a3⟩ := HA.out.at hkp
      obtain ⟨b, ob, hBe, hbl, b0, b1, b2, b3⟩ := HB.out.at hkq
      have hsim := HS.out k hkp hkq
      have hrp := HP.out.1 _ (List.getElem_mem hkp)
      have hrq := HP.out.2 _ (List.getElem_mem hkq)
      generalize ps[k] = p at a0 a1 a2 a3 hsim hrp
      generalize qs[k] = q at b0 b1 b2 b3 hsim hrq
      obtain ⟨ps1, pa1, pn1, pA, pl1, pc, pm1⟩ := p
      obtain ⟨qs1, qa1, qn1, qA, ql1, qc, qm1⟩ := q
      obtain ⟨rfl, rfl, rfl, rfl, rfl⟩ := hsim
      subst hAe hBe
      have hSX : SX w a b ⟨ps1, pa1, pn1, pA, pl1, pc, pm1⟩ ⟨ps1, pa1, pn1, qA, pl1, qc, pm1⟩ (oa + k * 4) (ob + k * 4) wr := by
        have e1 : ∀ i, wr.cell? ⟨a, i, none⟩ = w.cell? ⟨a, i, none⟩ := fun i => hbel.cell (p := ⟨a, i, none⟩) hal
        have e2 : ∀ i, wr.cell? ⟨b, i, none⟩ = w.cell? ⟨b, i, none⟩ := fun i => hbel.cell (p := ⟨b, i, none⟩) hbl
        exact ⟨⟨hbel, hal, hbl⟩, (e1 _).trans a0, (e1 _).trans a1, (e1 _).trans a2, (e1 _).trans a3, (e2 _).trans b0, (e2 _).trans b1, (e2 _).trans b2, (e2 _).trans b3⟩
      have HRR := Lib.hid (And.intro hrp hrq)
      have hi0 : (0 : Int) ≤ (k : Int) := by omega
      have hi1 : (k : Int) < (n : Int) := by omega
      clear a0 a1 a2 a3 b0 b1 b2 b3 hrp hrq hbel
      go_wp2
      go_region_held3 (fun W => (Below w.heap.size w W ∧ a < w.heap.size ∧ b < w.heap.size) ∧ W.cell? ⟨a, oa + k * 4, none⟩ = some (.int .i64 ps1) ∧ W.cell? ⟨a, oa + k * 4 + 1, none⟩ = some (.int .i64 pa1) ∧ W.cell? ⟨a, oa + k * 4 + 2, none⟩ = some (.int .u64 pn1) ∧ W.cell? ⟨a, oa + k * 4 + 3, none⟩ = some (.slice pA pl1 pc) ∧
          W.cell? ⟨b, ob + k * 4, none⟩ = some (.int .i64 ps1) ∧ W.cell? ⟨b, ob + k * 4 + 1, none⟩ = some (.int .i64 pa1) ∧ W.cell? ⟨b, ob + k * 4 + 2, none⟩ = some (.int .u64 pn1) ∧ W.cell? ⟨b, ob + k * 4 + 3, none⟩ = some (.slice qA pl1 qc))
        (first | assumption | exact hSX | exact SX.drew hSX | exact SX.call (SX.drew hSX) hb9 | exact SX.call hSX hb9)
        (first | (go_at_call 14; ((with_reducible refine (same_tx ps1 pa1 pn1 pA qA pl1 pc qc pm1 _ (HRR.out.1.1.below (And.left (And.left (by assumption)))) (HRR.out.2.below (And.left (And.left (by assumption)))) (by have := HRR.out.1.2; omega)).mono ?_); rintro e w9 ⟨rfl, hb9⟩)))
      go_wp2
      obtain ⟨⟨hBF, _⟩, _⟩ : (Below w.heap.size w w9 ∧ a < w.heap.size ∧ b < w.heap.size) ∧ _ := by assumption
      exact ⟨⟨k + 1, by go_num, by omega, hBF⟩, by simp [intOf]; omega⟩
    · obtain rfl : k = n := by omega
      go_wp2
      go_ret
      exact ⟨rfl, hbel⟩
end Go.Proofs.Ytfalmebgjghjeab.Msg
