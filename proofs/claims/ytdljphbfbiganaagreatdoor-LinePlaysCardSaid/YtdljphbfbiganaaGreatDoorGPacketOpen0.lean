import Derived.Test.YtdljphbfbiganaaGreatDoorGPacket
import Derived.OpenShut
import Derived.ProofKit
import Derived.Deep.Slices
import Derived.ChangeArms
import Derived.Test.YtdljphbfbiganaaGreatDoorGLgBase
/- Packets that came in: opened to their fields. -/
namespace Go.Proofs.YtdljphbfbiganaaGreatDoor.Packet
open Go.RowKit Go.Deep Go.WideShapes

theorem cells_int : Tryz.prog.cellsOf 3 = 1 := by kernel_rfl
theorem cells_u64 : Tryz.prog.cellsOf 31 = 1 := by kernel_rfl
theorem cells_string : Tryz.prog.cellsOf 9 = 1 := by kernel_rfl
theorem cells_packet : Tryz.prog.cellsOf 33 = 5 := by kernel_rfl

section
variable {H : Type} {enc : TypeId × Value → H} {w : World} {base : Nat} {spare : Nat → Bool} {held : Bool}

/-- What a struct's reading says of one field. -/
theorem field_at {t : TypeId} {fs : Array Field} {n : Nat} {cs : List Value} {xs : List (DataW H × List MemPlace)} (hlen : xs.length = fs.size)
    (h : ∀ (i : Nat) (f : Field), fs[i]? = some f → DataW.trod enc Tryz.prog w base spare held n f.type ((cs.drop f.offset).take (Tryz.prog.cellsOf f.type)) = xs[i]?)
    (i : Nat) (f : Field) (hf : fs[i]? = some f) (_ht : f.type = t) : ∃ y, DataW.trod enc Tryz.prog w base spare held n f.type ((cs.drop f.offset).take (Tryz.prog.cellsOf f.type)) = some y := by
  have hi : i < fs.size := (Array.getElem?_eq_some_iff.1 hf).1
  exact ⟨xs[i]'(by omega), (h i f hf).trans (List.getElem?_eq_getElem (by omega))⟩

set_option maxRecDepth 100000 in
theorem open_packet {fuel : Nat} {cs : List Value} {x : DataW H × List MemPlace} (h : DataW.trod enc Tryz.prog w base spare held fuel 33 cs = some x) :
    ∃ q : P5, q.ok ∧ cs = [.int .i64 q.c, .int .i64 q.f, .int .u64 q.s, .int .u64 q.t, .string q.d] := by
  obtain ⟨xs, n, _, _, hcl, hlen, hf⟩ := DataW.trod_struct Tryz.underlying33 h
  rw [cells_packet] at hcl
  obtain ⟨y0, h0⟩ := field_at hlen hf 0 _ rfl rfl
  obtain ⟨y1, h1⟩ := field_at hlen hf 1 _ rfl rfl
  obtain ⟨y2, h2⟩ := field_at hlen hf 2 _ rfl rfl
  obtain ⟨y3, h3⟩ := field_at hlen hf 3 _ rfl rfl
  obtain ⟨y4, h4⟩ := field_at hlen hf 4 _ rfl rfl
  obtain ⟨a0, e0, _, w0⟩ := DataW.trod_int Tryz.underlying3 h0
  obtain ⟨a1, e1, _, w1⟩ := DataW.trod_int Tryz.underlying3 h1
  obtain ⟨a2, e2, _, w2⟩ := DataW.trod_int Tryz.underlying31 h2
  obtain ⟨a3, e3, _, w3⟩ := DataW.trod_int Tryz.underlying31 h3
  obtain ⟨a4, e4, _, w4⟩ := DataW.trod_string Tryz.underlying9 h4
  have b2 := bounds_u64 w2
  have b3 := bounds_u64 w3
  refine ⟨⟨a0, a1, a2, a3, a4⟩, ⟨b2.1, by have := b2.2; simp only; omega, b3.1, by have := b3.2; simp only; omega, w4⟩, ?_⟩
  have e0' : (cs.drop 0).take 1 = [.int .i64 a0] := e0
  have e1' : (cs.drop 1).take 1 = [.int .i64 a1] := e1
  have e2' : (cs.drop 2).take 1 = [.int .u64 a2] := e2
  have e3' : (cs.drop 3).take 1 = [.int .u64 a3] := e3
  have e4' : (cs.drop 4).take 1 = [.string a4] := e4
  match cs, hcl with
  | [b0, b1, b2, b3, b4], _ => simp at e0' e1' e2' e3' e4'; subst e0' e1' e2' e3' e4'; rfl

set_option maxRecDepth 100000 in
theorem open_packet_val {r : Reach} {b0 : Nat} {v : Value} {d : DataW H} {p : List MemPlace} (ok : Value.okWide Tryz.prog w r b0 33 v) (h : DataW.Trod enc Tryz.prog w base spare held 33 v d p) : ∃ q : P5, q.ok ∧ v = packetApart.arg q := by
  obtain ⟨cs, rfl, _⟩ := okWide_struct Tryz.underlying33 ok
  obtain ⟨fuel, hf⟩ := h
  obtain ⟨q, ho, hm⟩ := open_packet (cs := cs.toList) hf
  exact ⟨q, ho, congrArg Value.agg (Array.toList_inj.1 hm)⟩
end
end Go.Proofs.YtdljphbfbiganaaGreatDoor.Packet
/- Acts of law 11 that came in. -/
namespace Go.Proofs.YtdljphbfbiganaaGreatDoor.Lo
open Go Go.RowKit Go.Deep Go.WideShapes Packet
set_option linter.unusedVariables false

/-- an act: kind, side, packet, height, text -/
structure Ac where
  kd : Int
  sd : Int
  p : P5
  h : Int
  a : ByteArray
def Ac.cells (q : Ac) : Array Value := #[.int .u8 q.kd, .int .u8 q.sd, .int .i64 q.p.c, .int .i64 q.p.f, .int .u64 q.p.s, .int .u64 q.p.t, .string q.p.d, .int .u64 q.h, .string q.a]
structure Ac.ok (q : Ac) : Prop where
  kd : 0 ≤ q.kd ∧ q.kd ≤ 255
  sd : 0 ≤ q.sd ∧ q.sd ≤ 255
  p : q.p.ok
  h : 0 ≤ q.h ∧ q.h ≤ 18446744073709551615
  a : q.a.size ≤ maxLen
theorem cells_act : Tryz.prog.cellsOf 35 = 9 := by kernel_rfl
theorem cells_u8 : Tryz.prog.cellsOf 5 = 1 := by kernel_rfl
/-- the act in the place i of a row of them -/
def AcAt (V : World) (b off i : Nat) (o : Ac) : Prop := ∀ j : Nat, j < 9 → V.cell? ⟨b, off + i * 9 + j, none⟩ = o.cells[j]?
/-- acts that are read -/
structure RdA (V : World) (A : Option Addr) (len : Nat) (qs : List Ac) : Prop where
  many : qs.length = len
  ok : ∀ o ∈ qs, o.ok
  cells : 0 < len → ∃ b off, A = some ⟨b, off, none⟩ ∧ b < V.heap.size ∧ ∀ i (h : i < qs.length), AcAt V b off i qs[i]
theorem add_addrA (b o i : Nat) : (⟨b, o, none⟩ : Addr).add i = ⟨b, o + i, none⟩ := by simp [Addr.add]
theorem AcAt.keep {V V' : World} {b off i : Nat} {o : Ac} (h : AcAt V b off i o) (hb : V'.heap[b]? = V.heap[b]?) : AcAt V' b off i o := fun j hj =>
  (World.cell?_of_block (a := ⟨b, off + i * 9 + j, none⟩) hb).trans (h j hj)
theorem RdA.below {V V' : World} {A : Option Addr} {len : Nat} {qs : List Ac} (h : RdA V A len qs) (hb : Below V.heap.size V V') : RdA V' A len qs :=
  ⟨h.many, h.ok, fun hl => by
    obtain ⟨b, off, e1, e2, e3⟩ := h.cells hl
    exact ⟨b, off, e1, Nat.lt_of_lt_of_le e2 hb.size, fun i hi => (e3 i hi).keep (hb.block b e2)⟩⟩
section
variable {H : Type} {enc : TypeId × Value → H} {w : World} {base : Nat} {spare : Nat → Bool} {held : Bool}
set_option maxRecDepth 100000 in
theorem open_ac {fuel : Nat} {cs : List Value} {x : DataW H × List MemPlace} (h : DataW.trod enc Tryz.prog w base spare held fuel 35 cs = some x) :
    ∃ o : Ac, o.ok ∧ cs = o.cells.toList := by
  obtain ⟨xs, n, _, _, hcl, hlen, hf⟩ := DataW.trod_struct Tryz.underlying35 h
  rw [cells_act] at hcl
  obtain ⟨y0, h0⟩ := field_at hlen hf 0 _ rfl rfl
  obtain ⟨y1, h1⟩ := field_at hlen hf 1 _ rfl rfl
  obtain ⟨y2, h2⟩ := field_at hlen hf 2 _ rfl rfl
  obtain ⟨y3, h3⟩ := field_at hlen hf 3 _ rfl rfl
  obtain ⟨y4, h4⟩ := field_at hlen hf 4 _ rfl rfl
  obtain ⟨a0, e0, _, w0⟩ := DataW.trod_int Tryz.underlying5 h0
  obtain ⟨a1, e1, _, w1⟩ := DataW.trod_int Tryz.underlying5 h1
  obtain ⟨p, hp, e2⟩ := open_packet h2
  obtain ⟨a3, e3, _, w3⟩ := DataW.trod_int Tryz.underlying31 h3
  obtain ⟨a4, e4, _, w4⟩ := DataW.trod_string Tryz.underlying9 h4
  simp [Lit.wf, IntKind.min, IntKind.max, IntKind.bits, IntKind.signed] at w0 w1 w3
  refine ⟨⟨a0, a1, p, a3, a4⟩, ⟨⟨by simp only; omega, by simp only; omega⟩, ⟨by simp only; omega, by simp only; omega⟩, hp, ⟨by simp only; omega, by simp only; omega⟩, w4⟩, ?_⟩
  have e0' : (cs.drop 0).take 1 = [.int .u8 a0] := e0
  have e1' : (cs.drop 1).take 1 = [.int .u8 a1] := e1
  have e2' : (cs.drop 2).take 5 = [.int .i64 p.c, .int .i64 p.f, .int .u64 p.s, .int .u64 p.t, .string p.d] := e2
  have e3' : (cs.drop 7).take 1 = [.int .u64 a3] := e3
  have e4' : (cs.drop 8).take 1 = [.string a4] := e4
  match cs, hcl with
  | [b0, b1, b2, b3, b4, b5, b6, b7, b8], _ =>
    simp at e0' e1' e2' e3' e4'
    obtain ⟨z0, z1, z2, z3, z4⟩ := e2'
    subst e0' e1' z0 z1 z2 z3 z4 e3' e4'; rfl
set_option maxRecDepth 100000 in
theorem open_acs {r : Reach} {b0 : Nat} {v : Value} {d : DataW H} {p : List MemPlace} (ok : Value.okWide Tryz.prog w r b0 22 v) (h : DataW.Trod enc Tryz.prog w base spare held 22 v d p) :
    ∃ A len cap qs, v = .slice A len cap ∧ len ≤ maxLen ∧ RdA w A len qs := by
  obtain ⟨a0, len, cap, rfl⟩ := okWide_slice Tryz.underlying22 ok
  obtain ⟨fuel, hf⟩ := h
  rcases open_slice Tryz.underlying22 hf with ⟨hcs, _⟩ | ⟨a, len', cap', m, n, D, Pl, hcs, hb, hl, hm, hmm, hx, hi⟩
  · simp [Value.cells] at hcs
    obtain ⟨rfl, rfl, rfl⟩ := hcs
    exact ⟨none, 0, 0, [], rfl, by decide, rfl, fun a ha => by simp at ha, fun h => absurd h (by omega)⟩
  · simp [Value.cells] at hcs
    obtain ⟨rfl, rfl, rfl⟩ := hcs
    have hml : len ≤ m := by rw [hmm]; split <;> omega
    have hex : ∀ i : Nat, ∃ q : Ac, q.ok ∧ (i < len → w.cells? base (a.add (i * 9)) 9 = some q.cells.toList) := fun i => by
      by_cases hil : i < len
      · obtain ⟨cs', hc, ht⟩ := hi i (by omega)
        rw [cells_act] at hc
        obtain ⟨o, h3, hm⟩ := open_ac ht
        exact ⟨o, h3, fun _ => by rw [hc, hm]⟩
      · exact ⟨⟨0, 0, ⟨0, 0, 0, 0, .empty⟩, 0, .empty⟩, ⟨by decide, by decide, by simp [P5.ok, maxLen], by decide, by decide⟩, fun h => absurd h hil⟩
    obtain ⟨Q, hQ⟩ := Classical.axiomOfChoice hex
    refine ⟨some a, len, cap, (List.range len).map Q, rfl, by omega, by simp, fun q hq => ?_, fun hlen => ?_⟩
    · obtain ⟨i, _, rfl⟩ := List.mem_map.1 hq
      exact (hQ i).1
    obtain ⟨b, off, spot⟩ := a
    have hspot : spot = none := by
      have h1 := (World.cells?_some ((hQ 0).2 hlen)).2.2 0 (by simp)
      simpa [Addr.add] using World.cell?_spot (h1.trans rfl)
    subst hspot
    have h0 := (World.cells?_some ((hQ 0).2 hlen)).2.2 0 (by simp)
    refine ⟨b, off, rfl, ?_, fun i hi' => ?_⟩
    · have := World.block_lt_of_cell? w _ (h0.trans rfl)
      simpa [Addr.add] using this
    · have hil : i < len := by simpa using hi'
      have h1 := (World.cells?_some ((hQ i).2 hil)).2.2
      have h2 : ((List.range len).map Q)[i] = Q i := by simp
      rw [h2]
      intro j hj
      have := h1 j (by simpa [Ac.cells] using hj)
      rw [add_addrA, add_addrA] at this
      rw [this, Array.getElem?_toList]
end
end Go.Proofs.YtdljphbfbiganaaGreatDoor.Lo
/- line: an end is made, of whatever channel and side; law 11's few. -/
namespace Go.Proofs.YtdljphbfbiganaaGreatDoor.Lo
open Go Go.RowKit Packet Mg Lg Ln
set_option linter.unusedVariables false

set_option maxRecDepth 100000 in
set_option maxHeartbeats 1000000 in
theorem lnew_g (ch sd : Int) (o : Bool) (h0 : 0 ≤ ch) (h3 : ch ≤ 3) (hs : sd = 0 ∨ sd = 1) (W : World) :
    Calls Tryz.prog 6 #[.int .i64 ch, .int .i64 sd, .bool o] W fun e w' => (∃ E M N, e = .returned (.tuple #[.pointer (some ⟨E, 0, none⟩), .int .i64 0]) ∧ LG w' E M N ⟨ch, sd, o, false, 1, 1, 1, [], []⟩ ∧ W.heap.size ≤ E ∧ W.heap.size ≤ M ∧ W.heap.size ≤ N) ∧ Below W.heap.size W w' := by
  have hmm := @run_makeMap Tryz.prog
  have g0 : ¬ ch < 0 := by omega
  have g1 : ¬ 4 ≤ ch := by omega
  have g2 : decide (ch < 0) = false := decide_eq_false g0
  have g3 : decide (4 ≤ ch) = false := decide_eq_false g1
  clear h0 h3
  rcases hs with rfl | rfl
  all_goals
    go_enter Tryz.func6, Tryz.ntmps6
    go_wp2
    go_ret2
    refine ⟨⟨W.heap.size + 2, rfl, W.heap.size, W.heap.size + 1, ⟨?_, ?_, ?_, by simp, fun x hx => (nomatch hx), fun x hx => (nomatch hx)⟩, by omega, Nat.le_refl _, by omega⟩, (((Below.refl _ _).alloc (Nat.le_refl _) _).alloc (by simp) _).alloc (by simp; omega) _⟩
    · exact heap_at _ _ _ (by simp)
    · refine MG.nil ?_
      rw [Below.heap_alloc _ _ _ (by simp; omega), Below.heap_alloc _ _ _ (by simp)]
      exact heap_alloc_new W _
    · refine MG.nil ?_
      rw [Below.heap_alloc _ _ _ (by simp)]
      exact heap_at _ _ _ (by simp)
def FewP (e : Ending) (qs : List Ac) (len : Nat) : Prop := ∃ b, e = .returned (.bool b) ∧ (b = true → (∀ q ∈ qs, q.p.d.size ≤ 200 ∧ q.a.size ≤ 200) ∧ len ≤ 60)
set_option maxRecDepth 20000 in
set_option maxHeartbeats 4000000 in
theorem few_any (A : Option Addr) (len cap : Nat) (qs : List Ac) (W : World) (hq : RdA W A len qs) (hl : len ≤ 9223372036854775807) :
    Calls Tryz.prog 4 #[.slice A len cap] W fun e w' => FewP e qs len ∧ Below W.heap.size W w' := by
  have hnI : (len : Int) ≤ 9223372036854775807 := by omega
  have HQ := Lib.hid hq
  clear hq
  go_enter Tryz.func4, Tryz.ntmps4
  go_wp2
  go_loopw [3] (fun v wr => ∃ i : Nat, v = .int .i64 (i : Int) ∧ i ≤ len ∧ Below W.heap.size W wr ∧ Hid (∀ q ∈ qs.take i, q.p.d.size ≤ 200 ∧ q.a.size ≤ 200)) (fun v _ => len - (intOf v).toNat)
  case atStart => exact ⟨0, rfl, Nat.zero_le _, Below.refl _ _, Lib.hid (by simp)⟩
  case round =>
    obtain ⟨i, rfl, hi, hB, HA⟩ := hrel
    have HB := Lib.hid hB
    clear hB
    by_cases hlt : i < len
    · have hi0 : (0 : Int) ≤ (i : Int) := by omega
      have hi1 : (i : Int) < (len : Int) := by omega
      obtain ⟨b9, off, hAq, hbl, hcs⟩ := HQ.out.cells (by omega)
      have hlq : i < qs.length := by have := HQ.out.many; omega
      have hat := (hcs i hlq).keep (HB.out.block b9 hbl)
      have hok := HQ.out.ok _ (List.getElem_mem hlq)
      have htk : qs.take (i + 1) = qs.take i ++ [qs[i]] := List.take_succ_eq_append_getElem hlq
      obtain ⟨q, hqq⟩ : ∃ q, q = qs[i] := ⟨_, rfl⟩
      rw [← hqq] at hat hok htk
      subst hAq
      clear hcs hqq hbl
      have HTk := Lib.hid htk
      clear htk
      obtain ⟨kd, sd, ⟨c, f, s, t, d⟩, h, a⟩ := q
      have q6 : wr.cell? ⟨b9, off + i * 9 + 6, none⟩ = some (.string d) := hat 6 (by decide)
      have q8 : wr.cell? ⟨b9, off + i * 9 + 8, none⟩ = some (.string a) := hat 8 (by decide)
      clear hat
      have ds : (d.size : Int) ≤ 9223372036854775807 := by have := hok.p.2.2.2.2; simp only [maxLen] at this; omega
      have asz : (a.size : Int) ≤ 9223372036854775807 := by have := hok.a; simp only [maxLen] at this; omega
      clear hok
      by_cases h1 : d.size ≤ 200
      · have h1i : ¬ (200 : Int) < (d.size : Int) := by omega
        by_cases h2 : a.size ≤ 200
        · have h2i : ¬ (200 : Int) < (a.size : Int) := by omega
          go_wp2
          go_roundw
          case rel => exact ⟨i + 1, by go_num, by omega, HB.out, Lib.hid (by rw [HTk.out]; intro q hq; rcases List.mem_append.1 hq with hq | hq; exact HA.out q hq; rw [List.mem_singleton] at hq; subst hq; exact ⟨h1, h2⟩)⟩
          case measure => simp [intOf]; omega
        · have h2i : (200 : Int) < (a.size : Int) := by omega
          go_wp2
          go_ret
          exact ⟨⟨false, rfl, fun h => by cases h⟩, HB.out⟩
      · have h1i : (200 : Int) < (d.size : Int) := by omega
        go_wp2
        go_ret
        exact ⟨⟨false, rfl, fun h => by cases h⟩, HB.out⟩
    · obtain rfl : i = len := by omega
      have hii : ¬ ((i : Int) < (i : Int)) := by omega
      have hal : ∀ q ∈ qs, q.p.d.size ≤ 200 ∧ q.a.size ≤ 200 := by
        have := HA.out
        rwa [List.take_of_length_le (by have := HQ.out.many; omega)] at this
      have HAl := Lib.hid hal
      clear hal
      by_cases h60 : i ≤ 60
      · have h60i : (i : Int) ≤ 60 := by omega
        go_wp2
        go_ret
        exact ⟨⟨true, rfl, fun _ => ⟨HAl.out, h60⟩⟩, HB.out⟩
      · have h60i : ¬ (i : Int) ≤ 60 := by omega
        go_wp2
        go_ret
        exact ⟨⟨false, by first | rfl | (simp; omega), fun h => by cases h⟩, HB.out⟩
end Go.Proofs.YtdljphbfbiganaaGreatDoor.Lo
