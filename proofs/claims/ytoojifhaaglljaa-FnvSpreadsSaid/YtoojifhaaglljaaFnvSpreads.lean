/- 'FnvSpreads' holds for every input, with no condition: how many of any keys stand in each shard. -/
import Derived.Test.YtoojifhaaglljaaFnvKey
import Derived.Test.YtoojifhaaglljaaRows2
import Derived.OpenShut
import Derived.ProofKit
import Derived.Deep.Slices
import Derived.ChangeArms
namespace Go.Proofs.Ytoojifhaaglljaa.fnvSpreads
open Go.RowKit Fnv

structure K3 where
  c : Int
  f : Int
  q : Int
/-- A slice that reads as keys. -/
def Rd (w : World) (A : Option Addr) (len : Nat) (K : Nat → K3) : Prop :=
  (∀ i, 0 ≤ (K i).q ∧ (K i).q < 18446744073709551616) ∧ (0 < len → ∃ b off, A = some ⟨b, off, none⟩ ∧ b < w.heap.size ∧ ∀ i, i < len →
    w.cell? ⟨b, off + i * 3, none⟩ = some (.int .i64 (K i).c) ∧ w.cell? ⟨b, off + i * 3 + 1, none⟩ = some (.int .i64 (K i).f) ∧ w.cell? ⟨b, off + i * 3 + 2, none⟩ = some (.int .u64 (K i).q))
theorem Rd.below {w w' : World} {A : Option Addr} {len : Nat} {K : Nat → K3} (h : Rd w A len K) (hb : Below w.heap.size w w') : Rd w' A len K := ⟨h.1, fun hl => by
  obtain ⟨b, off, rfl, hbl, hc⟩ := h.2 hl
  exact ⟨b, off, rfl, Nat.lt_of_lt_of_le hbl hb.size, fun i hi => ⟨(hb.cell (p := ⟨b, _, none⟩) hbl).trans (hc i hi).1, (hb.cell (p := ⟨b, _, none⟩) hbl).trans (hc i hi).2.1, (hb.cell (p := ⟨b, _, none⟩) hbl).trans (hc i hi).2.2⟩⟩⟩

def sh (K : Nat → K3) (n i : Nat) : Nat := (keyH (K i).c (K i).f (K i).q % (n : Int)).toNat
theorem sh_lt (K : Nat → K3) (n i : Nat) (hn : 1 ≤ n) : sh K n i < n := by
  have h1 := Int.emod_nonneg (keyH (K i).c (K i).f (K i).q) (show (n : Int) ≠ 0 by omega)
  have h2 := Int.emod_lt_of_pos (keyH (K i).c (K i).f (K i).q) (show 0 < (n : Int) by omega)
  unfold sh; omega
theorem sh_eq (K : Nat → K3) (n i : Nat) (hn : 1 ≤ n) : keyH (K i).c (K i).f (K i).q % (n : Int) = (sh K n i : Int) := by
  have h1 := Int.emod_nonneg (keyH (K i).c (K i).f (K i).q) (show (n : Int) ≠ 0 by omega)
  unfold sh; omega
def cnt (f : Nat → Nat) (s : Nat) : Nat → Nat | 0 => 0 | k + 1 => cnt f s k + if f k = s then 1 else 0
theorem cnt_le (f : Nat → Nat) (s k : Nat) : cnt f s k ≤ k := by induction k with | zero => exact Nat.le_refl _ | succ k ih => rw [cnt]; split <;> omega
def row (f : Nat → Nat) (n k : Nat) : List Value := (List.range n).map fun s => .int .i64 (cnt f s k : Int)
theorem row_len (f : Nat → Nat) (n k : Nat) : (row f n k).length = n := by simp [row]
theorem row_at (f : Nat → Nat) (n k s : Nat) (h : s < n) : (row f n k)[s]? = some (.int .i64 (cnt f s k : Int)) := by simp [row, h]
theorem row_succ (f : Nat → Nat) (n k : Nat) : row f n (k + 1) = (row f n k).set (f k) (.int .i64 ((cnt f (f k) k : Int) + 1)) := by
  apply List.ext_getElem?
  intro s
  by_cases hs : s < n
  · rw [row_at f n (k + 1) s hs, List.getElem?_set, row_at f n k s hs, row_len]
    by_cases h : f k = s
    · subst h
      simp [hs, cnt]
    · simp [h, cnt]
  · rw [List.getElem?_eq_none (by rw [row_len]; omega), List.getElem?_eq_none (by rw [List.length_set, row_len]; omega)]

def tot (f : Nat → Nat) (k : Nat) : Nat → Nat | 0 => 0 | s + 1 => tot f k s + cnt f s k
theorem tot_zero (f : Nat → Nat) (s : Nat) : tot f 0 s = 0 := by induction s with | zero => rfl | succ s ih => rw [tot, ih]; rfl
theorem tot_succ (f : Nat → Nat) (k s : Nat) : tot f (k + 1) s = tot f k s + if f k < s then 1 else 0 := by
  induction s with
  | zero => simp [tot]
  | succ s ih =>
    rw [tot, tot, ih, cnt]
    by_cases h1 : f k = s
    · have h2 : ¬ f k < s := by omega
      have h3 : f k < s + 1 := by omega
      rw [if_neg h2, if_pos h1, if_pos h3]; omega
    · by_cases h2 : f k < s
      · have h3 : f k < s + 1 := by omega
        rw [if_pos h2, if_neg h1, if_pos h3]; omega
      · have h3 : ¬ f k < s + 1 := by omega
        rw [if_neg h2, if_neg h1, if_neg h3]; omega
theorem tot_le (f : Nat → Nat) (k s : Nat) : tot f k s ≤ k := by
  induction k with
  | zero => rw [tot_zero]; exact Nat.le_refl _
  | succ k ih => rw [tot_succ]; split <;> omega
theorem tot_all (f : Nat → Nat) (k n : Nat) (h : ∀ j, f j < n) : tot f k n = k := by
  induction k with
  | zero => exact tot_zero _ _
  | succ k ih => rw [tot_succ, ih, if_pos (h k)]

theorem shard_k (K : Nat → K3) (n i : Nat) (hn : 1 ≤ n) (hn8 : n ≤ 8) (hq : 0 ≤ (K i).q ∧ (K i).q < 18446744073709551616) (w : World) :
    Calls Try.prog 19 #[.agg #[.int .i64 (K i).c, .int .i64 (K i).f, .int .u64 (K i).q], .int .i64 (n : Int)] w fun e w' => e = .returned (.int .i64 (sh K n i : Int)) ∧ Below w.heap.size w w' := by
  have h := shard_any (K i).c (K i).f (K i).q (n : Int) hq.1 hq.2 (by omega) (by omega) w
  rw [sh_eq K n i hn] at h
  exact h

set_option maxRecDepth 20000 in
set_option maxHeartbeats 1000000 in
theorem spread_any (A : Option Addr) (len cap n : Nat) (K : Nat → K3) (hn : 1 ≤ n) (hn8 : n ≤ 8) (hl : len ≤ 100) (w : World) (hr : Rd w A len K) :
    Calls Try.prog 23 #[.slice A len cap, .int .i64 (n : Int)] w fun e w' => ∃ u c, e = .returned (.slice (some ⟨u, 0, none⟩) n c) ∧ w'.ownsRow w.heap.size 3 1 (.slice (some ⟨u, 0, none⟩) n c) n (row (sh K n) n len) ∧ Below w.heap.size w w' := by
  obtain ⟨i0, hi, hz0, hz1, hz2⟩ := info_parts infoI
  have hn1 : (1 : Int) ≤ (n : Int) := by omega
  have hn9 : (n : Int) ≤ 8 := by omega
  go_enter Try.func23, Try.ntmps23
  go_wp2_with (at_make; refine wpList_make_full _ rfl _ _ 35 rfl w.heap.size 3 i0 (.int .i64 0) 1 Try.underlying35 hi hz0 hz1 .i64 .i64 (n : Int) (n : Int) n rfl rfl rfl rfl (by rw [hz2]; omega) (by unfold maxLen; omega) (Nat.le_refl _) ?_; intro w2 hown2 hg2)
  have em : (madeCells (Value.int .i64 0).cells (n * 1)).toList = row (sh K n) n 0 := by
    apply List.ext_getElem?
    intro j
    by_cases hj : j < n
    · rw [row_at _ _ _ _ hj]
      simp [madeCells, Value.cells, hj, cnt, Nat.mod_one]
    · rw [List.getElem?_eq_none (by simp [madeCells]; omega), List.getElem?_eq_none (by rw [row_len]; omega)]
  rw [em] at hown2
  have hB2 : Below w.heap.size w w2 := (Below.refl _ _).grown hg2 (Nat.le_refl _) (by intro k hk; cases hk)
  clear hg2 em
  have HR := Lib.hid hr
  clear hr
  go_loopw [17] (fun i wr => ∃ k : Nat, i = .int .i64 (k : Int) ∧ k ≤ len ∧ wr.ownsRow w.heap.size 3 1 (.slice (some ⟨w.heap.size, 0, none⟩) n n) n (row (sh K n) n k) ∧ Below w.heap.size w wr) (fun i _ => len - (intOf i).toNat)
  case atStart => exact ⟨0, rfl, Nat.zero_le _, hown2, hB2⟩
  case round =>
    obtain ⟨k, rfl, hk, hown, hB⟩ := hrel
    by_cases hlt : k < len
    · obtain ⟨b, off, rfl, hbl, hc⟩ := (HR.out.below hB).2 (by omega)
      obtain ⟨c0, c1, c2⟩ := hc k hlt
      have hlt1 : (k : Int) < (len : Int) := by omega
      have HS := Lib.hid (shard_k K n k hn hn8 (HR.out.1 k))
      have hs := sh_lt K n k hn
      clear hc
      go_wp2_with fail
      refine (HS.out _).mono ?_
      rintro e w1 ⟨rfl, hb⟩
      have hown1 := own_below hown hb
      have hd : w1.cell? ⟨w.heap.size, sh K n k, none⟩ = some (.int .i64 (cnt (sh K n) (sh K n k) k : Int)) := (hown1.cellAt _ (by omega)).trans (row_at _ _ _ _ hs)
      have hfz : w1.frozen? ⟨w.heap.size, sh K n k, none⟩ = false := hown1.frozenAt _
      have hst := (hown1.stored (sh K n k) (.int .i64 ((cnt (sh K n) (sh K n k) k : Int) + 1))).1
      rw [← row_succ] at hst
      have hcn := cnt_le (sh K n) (sh K n k) k
      have hB1 : Below w.heap.size w w1 := hB.trans (hb.mono hB.size)
      have H1 := Lib.hid (And.intro hst hB1)
      have hs0 : (0 : Int) ≤ (sh K n k : Int) := by omega
      have hs1 : (sh K n k : Int) < (n : Int) := by omega
      have hx0 : (0 : Int) ≤ (cnt (sh K n) (sh K n k) k : Int) := by omega
      have hx1 : (cnt (sh K n) (sh K n k) k : Int) ≤ 100 := by omega
      clear hst hB1 hown1 hb c0 c1 c2 hs hcn
      generalize cnt (sh K n) (sh K n k) k = x at *
      go_wp2
      exact ⟨⟨k + 1, by go_num, by omega, H1.out.1, H1.out.2.setCell (p := ⟨w.heap.size, _, none⟩) (Nat.le_refl _) _⟩, by simp [intOf]; omega⟩
    · obtain rfl : k = len := by omega
      go_wp2
      go_ret
      exact ⟨_, _, rfl, hown, hB⟩

theorem spread_none (A : Option Addr) (len cap : Nat) (n : Int) (h : n < 1 ∨ 8 < n) (w : World) :
    Calls Try.prog 23 #[.slice A len cap, .int .i64 n] w fun e w' => e = .returned (.slice none 0 0) ∧ w' = w := by
  by_cases h1 : n < 1
  · go_enter Try.func23, Try.ntmps23
    go_wp2
    go_ret
    exact ⟨rfl, rfl⟩
  · have h8 : 8 < n := by omega
    go_enter Try.func23, Try.ntmps23
    go_wp2
    go_ret
    exact ⟨rfl, rfl⟩

theorem ref_k (K : Nat → K3) (n i : Nat) (hn : 1 ≤ n) (hn8 : n ≤ 8) (hq : 0 ≤ (K i).q ∧ (K i).q < 18446744073709551616) (w : World) :
    Calls Try.prog 22 #[.agg #[.int .i64 (K i).c, .int .i64 (K i).f, .int .u64 (K i).q], .int .i64 (n : Int)] w fun e w' => e = .returned (.int .i64 (sh K n i : Int)) ∧ Below w.heap.size w w' := by
  have h := ref_shard_any (K i).c (K i).f (K i).q (n : Int) hq.1 hq.2 (by omega) (by omega) w
  rw [sh_eq K n i hn] at h
  exact h

set_option maxHeartbeats 1000000 in
theorem walk_long (A : Option Addr) (len cap : Nat) (n : Int) (h : 100 < len) (w : World) :
    Calls Try.prog 5 #[.slice A len cap, .int .i64 n] w fun e w' => e = .returned (.bool true) ∧ Below w.heap.size w w' := by
  have hp : (100 : Int) < (len : Int) := by omega
  go_enter Try.func5, Try.ntmps5
  go_wp2_with fail
  refine (awake_any _).mono ?_
  rintro e w1 ⟨rfl, rfl⟩
  go_wp2
  go_ret
  exact ⟨rfl, Below.refl _ _⟩

set_option maxHeartbeats 1000000 in
theorem walk_none (A : Option Addr) (len cap : Nat) (n : Int) (hl : len ≤ 100) (h : n < 1 ∨ 8 < n) (w : World) :
    Calls Try.prog 5 #[.slice A len cap, .int .i64 n] w fun e w' => e = .returned (.bool true) ∧ Below w.heap.size w w' := by
  have hp : (len : Int) ≤ 100 := by omega
  have HN := Lib.hid (spread_none A len cap n h)
  by_cases h0 : n < 1
  · clear h
    go_enter Try.func5, Try.ntmps5
    go_wp2_with fail
    refine (HN.out _).mono ?_
    rintro e w1 ⟨rfl, rfl⟩
    go_wp2_with fail
    refine (awake_any _).mono ?_
    rintro e w2 ⟨rfl, rfl⟩
    go_wp2
    go_ret
    exact ⟨rfl, Below.refl _ _⟩
  · have h8 : 8 < n := by omega
    clear h
    go_enter Try.func5, Try.ntmps5
    go_wp2_with fail
    refine (HN.out _).mono ?_
    rintro e w1 ⟨rfl, rfl⟩
    go_wp2_with fail
    refine (awake_any _).mono ?_
    rintro e w2 ⟨rfl, rfl⟩
    go_wp2
    go_ret
    exact ⟨rfl, Below.refl _ _⟩

set_option maxRecDepth 20000 in
set_option maxHeartbeats 2000000 in
theorem walk_some (A : Option Addr) (len cap n : Nat) (K : Nat → K3) (hn : 1 ≤ n) (hn8 : n ≤ 8) (hl : len ≤ 100) (w : World) (hr : Rd w A len K) :
    Calls Try.prog 5 #[.slice A len cap, .int .i64 (n : Int)] w fun e w' => e = .returned (.bool true) ∧ Below w.heap.size w w' := by
  have hp : (len : Int) ≤ 100 := by omega
  have hn1 : (1 : Int) ≤ (n : Int) := by omega
  have hn9 : (n : Int) ≤ 8 := by omega
  have HS := Lib.hid (spread_any A len cap n K hn hn8 hl w hr)
  have HR := Lib.hid hr
  clear hr
  go_enter Try.func5, Try.ntmps5
  go_wp2_with fail
  refine HS.out.mono ?_
  rintro e w1 ⟨u, c, rfl, hown, hB⟩
  go_wp2
  go_loopw [6, 7] (fun t i wr => ∃ j : Nat, i = .int .i64 (j : Int) ∧ j ≤ n ∧ t = .int .i64 (tot (sh K n) len j : Int) ∧ wr.ownsRow w.heap.size 3 1 (.slice (some ⟨u, 0, none⟩) n c) n (row (sh K n) n len) ∧ Below w.heap.size w wr) (fun _ i _ => n - (intOf i).toNat)
  case atStart => exact ⟨0, rfl, Nat.zero_le _, rfl, hown, hB⟩
  case round =>
    clear hown hB
    obtain ⟨j, rfl, hj, rfl, hown, hB⟩ := hrel
    by_cases hlt : j < n
    · have hj0 : (0 : Int) ≤ (j : Int) := by omega
      have hj1 : (j : Int) < (n : Int) := by omega
      go_wp2
      go_loopw [8, 9] (fun m i wr => ∃ k : Nat, i = .int .i64 (k : Int) ∧ k ≤ len ∧ m = .int .i64 (cnt (sh K n) j k : Int) ∧ wr.ownsRow w.heap.size 3 1 (.slice (some ⟨u, 0, none⟩) n c) n (row (sh K n) n len) ∧ Below w.heap.size w wr) (fun _ i _ => len - (intOf i).toNat)
      case atStart => exact ⟨0, rfl, Nat.zero_le _, rfl, hown, hB⟩
      case round =>
        clear hown hB
        obtain ⟨k, rfl, hk, rfl, hown, hB⟩ := hrel
        by_cases hkl : k < len
        · obtain ⟨b, off, rfl, hbl, hc⟩ := (HR.out.below hB).2 (by omega)
          obtain ⟨c0, c1, c2⟩ := hc k hkl
          have hlt1 : (k : Int) < (len : Int) := by omega
          have HK := Lib.hid (ref_k K n k hn hn8 (HR.out.1 k))
          have hcn := cnt_le (sh K n) j k
          have hx0 : (0 : Int) ≤ (cnt (sh K n) j k : Int) := by omega
          have hx1 : (cnt (sh K n) j k : Int) ≤ 100 := by omega
          have HE := Lib.hid (show cnt (sh K n) j (k + 1) = cnt (sh K n) j k + if sh K n k = j then 1 else 0 from rfl)
          clear hc hcn
          go_wp2_with fail
          refine (HK.out _).mono ?_
          rintro e w3 ⟨rfl, hb⟩
          have H3 := Lib.hid (And.intro (own_below hown hb) (hB.trans (hb.mono hB.size)))
          clear c0 c1 c2 hb
          by_cases hs : sh K n k = j
          · have hsb : ((sh K n k : Int) == (j : Int)) = true := by simp [hs]
            go_wp2
            exact ⟨⟨k + 1, by go_num, by omega, by rw [HE.out, if_pos hs]; go_num, H3.out.1, H3.out.2⟩, by simp [intOf]; omega⟩
          · have hsb : ((sh K n k : Int) == (j : Int)) = false := by simp; omega
            go_wp2
            exact ⟨⟨k + 1, by go_num, by omega, by rw [HE.out, if_neg hs]; rfl, H3.out.1, H3.out.2⟩, by simp [intOf]; omega⟩
        · obtain rfl : k = len := by omega
          have hd := (hown.cellAt j (by omega)).trans (row_at (sh K n) n k j hlt)
          have hcn := cnt_le (sh K n) j k
          have htn := tot_le (sh K n) k j
          have hx0 : (0 : Int) ≤ (cnt (sh K n) j k : Int) := by omega
          have hx1 : (cnt (sh K n) j k : Int) ≤ 100 := by omega
          have hy0 : (0 : Int) ≤ (tot (sh K n) k j : Int) := by omega
          have hy1 : (tot (sh K n) k j : Int) ≤ 100 := by omega
          go_wp2
          exact ⟨⟨j + 1, by go_num, by omega, by rw [tot]; go_num, hown, hB⟩, by simp [intOf]; omega⟩
    · obtain rfl : j = n := by omega
      have ht : tot (sh K j) len j = len := tot_all _ _ _ fun i => sh_lt K j i hn
      rw [ht]
      go_wp2_with fail
      refine (awake_any _).mono ?_
      rintro e w2 ⟨rfl, rfl⟩
      go_wp2
      go_ret
      exact ⟨rfl, hB⟩

section
open Go.Deep Go.WideShapes Go.ChangeShapes
theorem add_addr (b off k : Nat) : (⟨b, off, none⟩ : Addr).add k = ⟨b, off + k, none⟩ := by unfold Addr.add; by_cases h : k = 0 <;> simp [h]
theorem cells_int : Try.prog.cellsOf 3 = 1 := by kernel_rfl
theorem cells_u64 : Try.prog.cellsOf 23 = 1 := by kernel_rfl
theorem cells_key : Try.prog.cellsOf 29 = 3 := by kernel_rfl
variable {H : Type} {enc : TypeId × Value → H} {w : World} {base : Nat} {spare : Nat → Bool} {held : Bool}

theorem field_at {t : TypeId} {fs : Array Field} {n : Nat} {cs : List Value} {xs : List (DataW H × List MemPlace)} (hlen : xs.length = fs.size)
    (h : ∀ (i : Nat) (f : Field), fs[i]? = some f → DataW.trod enc Try.prog w base spare held n f.type ((cs.drop f.offset).take (Try.prog.cellsOf f.type)) = xs[i]?)
    (i : Nat) (f : Field) (hf : fs[i]? = some f) (_ht : f.type = t) : ∃ y, DataW.trod enc Try.prog w base spare held n f.type ((cs.drop f.offset).take (Try.prog.cellsOf f.type)) = some y := by
  have hi : i < fs.size := (Array.getElem?_eq_some_iff.1 hf).1
  exact ⟨xs[i]'(by omega), (h i f hf).trans (List.getElem?_eq_getElem (by omega))⟩

set_option maxRecDepth 100000 in
theorem open_key {fuel : Nat} {cs : List Value} {x : DataW H × List MemPlace} (h : DataW.trod enc Try.prog w base spare held fuel 29 cs = some x) :
    ∃ k : K3, cs = [.int .i64 k.c, .int .i64 k.f, .int .u64 k.q] ∧ 0 ≤ k.q ∧ k.q < 18446744073709551616 := by
  obtain ⟨xs, n, _, _, hcl, hlen, hf⟩ := DataW.trod_struct Try.underlying29 h
  rw [cells_key] at hcl
  obtain ⟨y0, h0⟩ := field_at hlen hf 0 _ rfl rfl
  obtain ⟨y1, h1⟩ := field_at hlen hf 1 _ rfl rfl
  obtain ⟨y2, h2⟩ := field_at hlen hf 2 _ rfl rfl
  obtain ⟨a0, e0, _, w0⟩ := DataW.trod_int Try.underlying3 h0
  obtain ⟨a1, e1, _, w1⟩ := DataW.trod_int Try.underlying3 h1
  obtain ⟨a2, e2, _, w2⟩ := DataW.trod_int Try.underlying23 h2
  have hq := bounds_u64 w2
  refine ⟨⟨a0, a1, a2⟩, ?_, hq.1, by show a2 < _; omega⟩
  have e0' : (cs.drop 0).take 1 = [.int .i64 a0] := e0
  have e1' : (cs.drop 1).take 1 = [.int .i64 a1] := e1
  have e2' : (cs.drop 2).take 1 = [.int .u64 a2] := e2
  match cs, hcl with
  | [b0, b1, b2], _ => simp at e0' e1' e2'; subst e0' e1' e2'; rfl

set_option maxRecDepth 100000 in
theorem open_keys {r : Reach} {b0 : Nat} {v : Value} {d : DataW H} {p : List MemPlace} (ok : Value.okWide Try.prog w r b0 34 v) (h : DataW.Trod enc Try.prog w base spare held 34 v d p) :
    ∃ A len cap K, v = .slice A len cap ∧ len ≤ maxLen ∧ Rd w A len K := by
  obtain ⟨a0, len, cap, rfl⟩ := okWide_slice Try.underlying34 ok
  obtain ⟨fuel, hf⟩ := h
  rcases open_slice Try.underlying34 hf with ⟨hcs, _⟩ | ⟨a, len', cap', m, n, D, Pl, hcs, hb, hl, hm, hmm, hx, hi⟩
  · simp [Value.cells] at hcs
    obtain ⟨rfl, rfl, rfl⟩ := hcs
    exact ⟨none, 0, 0, fun _ => ⟨0, 0, 0⟩, rfl, by decide, fun _ => ⟨Int.le_refl _, by show (0 : Int) < _; decide⟩, fun h => absurd h (by omega)⟩
  · simp [Value.cells] at hcs
    obtain ⟨rfl, rfl, rfl⟩ := hcs
    have hml : len ≤ m := by rw [hmm]; split <;> omega
    have hex : ∀ i : Nat, ∃ q : K3, (0 ≤ q.q ∧ q.q < 18446744073709551616) ∧ (i < len → w.cells? base (a.add (i * 3)) 3 = some [.int .i64 q.c, .int .i64 q.f, .int .u64 q.q]) := fun i => by
      by_cases hil : i < len
      · obtain ⟨cs', hc, ht⟩ := hi i (by omega)
        rw [cells_key] at hc
        obtain ⟨q, hq, h0, h1⟩ := open_key ht
        exact ⟨q, ⟨h0, h1⟩, fun _ => hq ▸ hc⟩
      · exact ⟨⟨0, 0, 0⟩, ⟨by decide, by decide⟩, fun h => absurd h hil⟩
    obtain ⟨Q, hQ⟩ := Classical.axiomOfChoice hex
    refine ⟨some a, len, cap, Q, rfl, by omega, fun i => (hQ i).1, fun hlen => ?_⟩
    obtain ⟨b, off, spot⟩ := a
    have hspot : spot = none := by
      have h1 := (World.cells?_some ((hQ 0).2 hlen)).2.2 0 (by decide)
      simpa [Addr.add] using World.cell?_spot (h1.trans rfl)
    subst hspot
    have h0 := (World.cells?_some ((hQ 0).2 hlen)).2.2 0 (by decide)
    refine ⟨b, off, rfl, ?_, fun i hil => ?_⟩
    · have := World.block_lt_of_cell? w _ (h0.trans rfl)
      simpa [Addr.add] using this
    · have h1 := (World.cells?_some ((hQ i).2 hil)).2.2
      have g0 := h1 0 (by decide)
      have g1 := h1 1 (by decide)
      have g2 := h1 2 (by decide)
      rw [add_addr, add_addr] at g0 g1 g2
      exact ⟨g0, g1, g2⟩

set_option maxRecDepth 100000 in
theorem walk {v : Value} {d : DataW H} {p : List MemPlace}
    (ok : Value.okWide Try.prog w .any base 34 v) (h : DataW.Trod enc Try.prog w 0 spare held 34 v d p) (n : Int) (_ : (Lit.int .i64 n).wf = true) :
    Calls Try.prog 5 #[v, .int .i64 n] w fun e w' => e = .returned (.bool true) ∧ Below w.heap.size w w' := by
  obtain ⟨A, len, cap, K, rfl, hl, hr⟩ := open_keys ok h
  by_cases hc : 100 < len
  · exact walk_long A len cap n hc w
  · by_cases hn : n < 1 ∨ 8 < n
    · exact walk_none A len cap n (by omega) hn w
    · obtain ⟨m, rfl⟩ : ∃ m : Nat, n = (m : Int) := ⟨n.toNat, by omega⟩
      exact walk_some A len cap m K (by omega) (by omega) (by omega) w hr
end
end Go.Proofs.Ytoojifhaaglljaa.fnvSpreads
