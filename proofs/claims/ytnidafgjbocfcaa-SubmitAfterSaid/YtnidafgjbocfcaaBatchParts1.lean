/- batch's own iterator over the parts of a row of messages. -/
import Derived.Test.YtnidafgjbocfcaaMsgRows
import Derived.Test.YtnidafgjbocfcaaRoundP
import Derived.RangeFuncBox
namespace Go.Proofs.Ytnidafgjbocfcaa.Msg
open Go Go.RowKit Go.Shelf
attribute [local go_sem] Oper.semAt_some

/-- The parts of a row: most in each, but in the last one. -/
def chunks (most : Nat) : Nat → List M7 → List (List M7)
  | 0, _ => []
  | f + 1, l => if l = [] then [] else l.take most :: chunks most f (l.drop most)

theorem chunks_nil (most f : Nat) : chunks most f [] = [] := by cases f <;> rfl
theorem chunks_more {most : Nat} (hm : 1 ≤ most) : ∀ (f g : Nat) (l : List M7), l.length ≤ f → l.length ≤ g → chunks most f l = chunks most g l
  | 0, g, l, h1, _ => by
    have : l = [] := List.eq_nil_of_length_eq_zero (by omega)
    subst this
    rw [chunks_nil, chunks_nil]
  | f + 1, 0, l, _, h2 => by
    have : l = [] := List.eq_nil_of_length_eq_zero (by omega)
    subst this
    rw [chunks_nil, chunks_nil]
  | f + 1, g + 1, l, h1, h2 => by
    unfold chunks
    by_cases hl : l = []
    · rw [if_pos hl, if_pos hl]
    · have : 1 ≤ l.length := by
        cases l with
        | nil => exact absurd rfl hl
        | cons _ _ => simp
      rw [if_neg hl, if_neg hl, chunks_more hm f g (l.drop most) (by rw [List.length_drop]; omega) (by rw [List.length_drop]; omega)]

/-- All parts of a row. -/
def partsOf (most : Nat) (l : List M7) : List (List M7) := chunks most l.length l
theorem partsOf_nil (most : Nat) : partsOf most [] = [] := rfl
theorem partsOf_cons {most : Nat} (hm : 1 ≤ most) {l : List M7} (hl : 0 < l.length) : partsOf most l = l.take most :: partsOf most (l.drop most) := by
  unfold partsOf
  rw [chunks_more hm l.length (l.length + 1) l (Nat.le_refl _) (by omega)]
  have hne : l ≠ [] := fun e => by subst e; simp at hl
  rw [chunks, if_neg hne, chunks_more hm l.length (l.drop most).length (l.drop most) (by rw [List.length_drop]; omega) (Nat.le_refl _)]

section
variable {w : World} {A : Option Addr} {len n : Nat} {ms : List M7}
theorem Rd.take (h : Rd w A len ms) (hn : n ≤ len) : Rd w A n (ms.take n) := by
  refine ⟨by rw [List.length_take]; have := h.1; omega, fun hl => ?_⟩
  obtain ⟨b, off, rfl, hb, hc⟩ := h.2 (by omega)
  refine ⟨b, off, rfl, hb, fun i hi j v hv => hc i (by omega) j v ?_⟩
  rw [← hv]
  simp [List.getD_eq_getElem?_getD, hi]
theorem Rd.drop (h : Rd w A len ms) (hn : n ≤ len) : Rd w (A.map (·.add (n * 7))) (len - n) (ms.drop n) := by
  refine ⟨by rw [List.length_drop]; have := h.1; omega, fun hl => ?_⟩
  obtain ⟨b, off, rfl, hb, hc⟩ := h.2 (by omega)
  refine ⟨b, off + n * 7, ?_, hb, fun i hi j v hv => ?_⟩
  · show some (Addr.add _ _) = _
    unfold Addr.add
    by_cases h0 : n * 7 = 0 <;> simp [h0]
  · have := hc (n + i) (by omega) j v (by rw [← hv]; simp [List.getD_eq_getElem?_getD, List.getElem?_drop])
    rw [show off + n * 7 + i * 7 + j = off + (n + i) * 7 + j from by omega]
    exact this
theorem Rd.none (A : Option Addr) : Rd w A 0 [] := ⟨rfl, fun h => absurd h (by omega)⟩
end

/-- What a round that goes on keeps: what lay before, and the iterator's two boxes. -/
def KpB (n₀ Bl Bm : Nat) (W W' : World) : Prop := Below n₀ W W' ∧ (∀ v, Boxed W Bl 23 v → Boxed W' Bl 23 v) ∧ ∀ v, Boxed W Bm 3 v → Boxed W' Bm 3 v

/-- A part: its slice, its messages. -/
abbrev El (w : World) := { q : Value × List M7 // ∃ A c, q.1 = .slice A q.2.length c ∧ Rd w A q.2.length q.2 ∧ q.2.length ≤ 1000000 }

theorem cut_hi (A : Option Addr) (len cap n : Nat) (h : n ≤ cap) (W : World) : (Instr.slice 23 (.slice A len cap) none (some (.int .i64 (n : Int))) none).run Try.prog W = .ok (.slice A n cap) W := by
  simp [Instr.slice, Instr.sliceBounds, Instr.sliceBound, go_sem, Try.sizeOf80]
  intro h2
  omega

theorem cut_lo (A : Option Addr) (len cap n : Nat) (h : n ≤ len) (W : World) : (Instr.slice 23 (.slice A len cap) (some (.int .i64 (n : Int))) none none).run Try.prog W = .ok (.slice (if cap = n then A else A.map (·.add (n * 7))) (len - n) (cap - n)) W := by
  simp [Instr.slice, Instr.sliceBounds, Instr.sliceBound, go_sem, Try.sizeOf80]
  intro h2
  omega

theorem rd_rest {w : World} {A : Option Addr} {len cap n : Nat} {ms : List M7} (h : Rd w A len ms) (hn : n ≤ len) (hc : len ≤ cap) : Rd w (if cap = n then A else A.map (·.add (n * 7))) (len - n) (ms.drop n) := by
  by_cases he : cap = n
  · have h0 : len - n = 0 := by omega
    have hd : ms.drop n = [] := List.drop_eq_nil_of_le (by have := h.1; omega)
    rw [h0, hd]
    exact Rd.none _
  · rw [if_neg he]
    exact h.drop hn

theorem _root_.Go.Boxed.other' {W : World} {B B' : Nat} {t : TypeId} {v : Value} (h : Boxed W B t v) (hne : B ≠ B') (u : Value) : Boxed (W.setCell ⟨B', 0, none⟩ u) B t v := h.kept (grownBy_setCell' W B' u) (fun e => hne (by cases e; rfl))

set_option maxRecDepth 100000 in
set_option maxHeartbeats 2000000 in
theorem parts_iter (n : Nat) (hn : 1 ≤ n) (w w' : World) (A : Option Addr) (len cap : Nat) (ms : List M7) (most : Nat) (hm : 1 ≤ most) (hmm : most ≤ 9223372036854775807) (hr : Rd w A len ms) (hcap : len ≤ cap) (hcm : cap ≤ 9223372036854775807) (hl : len ≤ 1000000) (Bl Bm : Nat)
    (hne : Bl ≠ Bm) (hBl : Boxed w' Bl 23 (.slice A len cap)) (hBm : Boxed w' Bm 3 (.int .i64 (most : Int))) (J : List (El w) → World → Prop)
    (hJs : ∀ pre W u, J pre W → J pre (W.setCell ⟨Bl, 0, none⟩ u)) :
    Iter Fence.wide n Try.prog 76 #[.pointer (some ⟨Bl, 0, none⟩), .pointer (some ⟨Bm, 0, none⟩)] (fun x : El w => #[x.1.1]) (KpB w.heap.size Bl Bm) J (fun xs => xs.map (fun x => x.1.2) = partsOf most ms) len w' := by
  intro k W1 R hB1 hR hY h0 hr0
  have hb1 : Boxed W1 Bl 23 (.slice A len cap) := (hB1.block Bl hBl.lt).trans hBl
  have hm1 : Boxed W1 Bm 3 (.int .i64 (most : Int)) := (hB1.block Bm hBm.lt).trans hBm
  refine callsIn_of_wp Try.func76 rfl trivial ?_
  simp only [Try.ntmps76, List.size_toArray, List.length_cons, List.length_nil, Nat.reduceAdd, Nat.reduceSub, Array.replicate_succ, Array.replicate_zero, List.push_toArray, List.append_toArray, List.nil_append, List.cons_append]
  gi_wp2
  gi_loopw [4] (fun _ wr => ∃ (pre : List (El w)) (rest : List M7) (A2 : Option Addr) (n2 c2 : Nat), Hid (pre.map (fun x => x.1.2) ++ partsOf most rest = partsOf most ms ∧ pre.length + n2 ≤ len) ∧ Hid (Rd w A2 n2 rest ∧ J pre wr ∧ R wr) ∧ n2 ≤ c2 ∧ c2 ≤ 9223372036854775807 ∧ Boxed wr Bl 23 (.slice A2 n2 c2) ∧ Boxed wr Bm 3 (.int .i64 (most : Int)))
    (fun _ wr => match wr.cell? ⟨Bl, 0, none⟩ with | some (.slice _ n _) => n | _ => 0)
  case atStart => exact ⟨[], ms, A, len, cap, Lib.hid ⟨rfl, by simp⟩, Lib.hid ⟨hr, h0, hr0⟩, hcap, hcm, hb1, hm1⟩
  case round =>
    obtain ⟨pre, rest, A2, n2, c2, hp, hx, hc1, hc2, hbl, hbm⟩ := hrel
    have q0 := hbl.cell
    have q1 := hbm.cell
    by_cases hz : 0 < n2
    · have hrl := hx.out.1.1
      by_cases hq : most ≤ n2
      · have hlen : (rest.take most).length = most := by rw [List.length_take]; have := hx.out.1.1; omega
        have hx1 : Rd w A2 most (rest.take most) := hx.out.1.take (by omega)
        have hg := Lib.hid (partsOf_cons hm (l := rest) (by omega))
        obtain ⟨x, hxe⟩ : ∃ x : El w, x.1 = (.slice A2 most c2, rest.take most) := ⟨⟨(.slice A2 most c2, rest.take most), A2, c2, by show Value.slice A2 most c2 = .slice A2 (rest.take most).length c2; rw [hlen], by show Rd w A2 (rest.take most).length (rest.take most); rw [hlen]; exact hx1, by show (rest.take most).length ≤ 1000000; have := hp.out.2; omega⟩, rfl⟩
        obtain ⟨fn, tmps, assign, body, hy, hRd⟩ := hY pre x wr hx.out.2.1 hx.out.2.2 (by have := hp.out.2; omega)
        rw [hxe] at hy
        dsimp only at hy
        have HD := Lib.hid hRd
        have HE := Lib.hid hxe
        have HB := Lib.hid (And.intro hbl hbm)
        have HY := Lib.hid (And.intro hR hJs)
        have hcmp : (most : Int) ≤ (n2 : Int) := by omega
        have s1 := cut_hi A2 n2 c2 most (by omega)
        have s2 := cut_lo A2 n2 c2 most (by omega)
        clear hRd hbl hbm hR hJs hY hx1 hxe
        gi_wp2
        refine HD.out.mono ?_
        rintro e W3 ⟨rfl, hk3, hJ3, hR3⟩
        have hb3 := hk3.2.1 _ HB.out.1
        have hm3 := hk3.2.2 _ HB.out.2
        have q3 := hb3.cell
        have f3 := hb3.frozen
        have H3 := Lib.hid (And.intro hJ3 (And.intro hR3 (And.intro hb3 hm3)))
        clear hk3 hJ3 hR3 hb3 hm3
        gi_wp2
        go_roundw
        case rel =>
          refine ⟨pre ++ [x], rest.drop most, _, n2 - most, c2 - most, Lib.hid ⟨?_, ?_⟩, Lib.hid ⟨rd_rest hx.out.1 (by omega) hc1, HY.out.2 _ _ _ H3.out.1, HY.out.1 _ _ H3.out.2.1 (KeepsOthers.setCell _ _ _)⟩, by omega, by omega, H3.out.2.2.1.set _, H3.out.2.2.2.other' (fun e => hne e.symm) _⟩
          · have := hp.out.1
            rw [hg.out] at this
            rw [List.map_append, ← this, List.map_singleton, HE.out]
            simp
          · have := hp.out.2
            rw [List.length_append, List.length_singleton]
            omega
        case measure =>
          have h4 := (H3.out.2.2.1.set (.slice (if c2 = most then A2 else A2.map (·.add (most * 7))) (n2 - most) (c2 - most))).cell
          rw [q0, h4]
          show n2 - most < n2
          omega
      · have hd1 : rest.drop most = rest.drop n2 := by rw [List.drop_eq_nil_of_le (by omega), List.drop_eq_nil_of_le (by omega)]
        have hlen : (rest.take most).length = n2 := by rw [List.length_take]; omega
        have hx1 : Rd w A2 n2 (rest.take most) := by rw [List.take_of_length_le (by omega)]; exact hx.out.1
        have hg := Lib.hid (partsOf_cons hm (l := rest) (by omega))
        obtain ⟨x, hxe⟩ : ∃ x : El w, x.1 = (.slice A2 n2 c2, rest.take most) := ⟨⟨(.slice A2 n2 c2, rest.take most), A2, c2, by show Value.slice A2 n2 c2 = .slice A2 (rest.take most).length c2; rw [hlen], by show Rd w A2 (rest.take most).length (rest.take most); rw [hlen]; exact hx1, by show (rest.take most).length ≤ 1000000; have := hp.out.2; omega⟩, rfl⟩
        obtain ⟨fn, tmps, assign, body, hy, hRd⟩ := hY pre x wr hx.out.2.1 hx.out.2.2 (by have := hp.out.2; omega)
        rw [hxe] at hy
        dsimp only at hy
        have HD := Lib.hid hRd
        have HE := Lib.hid hxe
        have HD1 := Lib.hid hd1
        clear hd1
        have HB := Lib.hid (And.intro hbl hbm)
        have HY := Lib.hid (And.intro hR hJs)
        have hcmp : (n2 : Int) < (most : Int) := by omega
        have s1 := cut_hi A2 n2 c2 n2 (by omega)
        have s2 := cut_lo A2 n2 c2 n2 (by omega)
        clear hRd hbl hbm hR hJs hY hx1 hxe
        gi_wp2
        refine HD.out.mono ?_
        rintro e W3 ⟨rfl, hk3, hJ3, hR3⟩
        have hb3 := hk3.2.1 _ HB.out.1
        have hm3 := hk3.2.2 _ HB.out.2
        have q3 := hb3.cell
        have f3 := hb3.frozen
        have H3 := Lib.hid (And.intro hJ3 (And.intro hR3 (And.intro hb3 hm3)))
        clear hk3 hJ3 hR3 hb3 hm3
        gi_wp2
        go_roundw
        case rel =>
          refine ⟨pre ++ [x], rest.drop most, _, 0, c2 - n2, Lib.hid ⟨?_, ?_⟩, Lib.hid ⟨by have := rd_rest hx.out.1 (Nat.le_refl n2) hc1; rw [Nat.sub_self] at this; rw [HD1.out]; exact this, HY.out.2 _ _ _ H3.out.1, HY.out.1 _ _ H3.out.2.1 (KeepsOthers.setCell _ _ _)⟩, by omega, by omega, H3.out.2.2.1.set _, H3.out.2.2.2.other' (fun e => hne e.symm) _⟩
          · have := hp.out.1
            rw [hg.out] at this
            rw [List.map_append, ← this, List.map_singleton, HE.out]
            simp
          · have := hp.out.2
            rw [List.length_append, List.length_singleton]
            omega
        case measure =>
          have h4 := (H3.out.2.2.1.set (.slice (if c2 = n2 then A2 else A2.map (·.add (n2 * 7))) 0 (c2 - n2))).cell
          rw [q0, h4]
          show 0 < n2
          omega
    · obtain rfl : n2 = 0 := by omega
      gi_wp2
      go_end0
      refine ⟨⟨_, rfl⟩, pre, ?_, hx.out.2⟩
      have h1 := hp.out.1
      have h2 : rest = [] := List.eq_nil_of_length_eq_zero hx.out.1.1
      subst h2
      simpa [partsOf_nil] using h1
end Go.Proofs.Ytnidafgjbocfcaa.Msg
