/- Pools of transactions: Has, the code's and the page's. -/
import Derived.Test.YtjjomlideieofaaPoolQ2
namespace Go.Proofs.Ytjjomlideieofaa.Msg
open Go Go.RowKit

/-- Has one of them a message? -/
def hasW (x : M7) (l : List (Int × Int × Int × Nat × List M7)) : Bool := l.any fun p => decide (place p.2.2.2.2 x p.2.2.2.1 0 ≠ -1)
theorem hasW_snoc (x : M7) (ts : List T4) (k : Nat) (h : k < ts.length) : hasW x ((ts.take (k + 1)).map W5) = (hasW x ((ts.take k).map W5) || decide (place ts[k].ms x ts[k].len 0 ≠ -1)) := by
  rw [List.take_succ_eq_append_getElem h, List.map_append, hasW, List.any_append]
  simp [hasW, W5]
theorem hasW_at (x : M7) (ts : List T4) (k : Nat) (h : k < ts.length) (hp : place ts[k].ms x ts[k].len 0 ≠ -1) : hasW x (ts.map W5) = true := by
  rw [hasW, List.any_eq_true]
  exact ⟨W5 ts[k], List.mem_map.2 ⟨ts[k], List.getElem_mem h, rfl⟩, decide_eq_true hp⟩

/-- What Has's test reads. -/
abbrev PH (w : World) (H g K : Nat) (x : M7) (t : T4) (W : World) : Prop :=
  (Below w.heap.size w W ∧ H < w.heap.size ∧ g < w.heap.size) ∧ W.cell? ⟨g, K + 3, none⟩ = some (.slice t.A t.len t.cap) ∧
  W.cell? ⟨H, 0, none⟩ = some (.int .i64 x.k) ∧ W.cell? ⟨H, 1, none⟩ = some (.int .i64 x.c) ∧ W.cell? ⟨H, 2, none⟩ = some (.int .i64 x.f) ∧ W.cell? ⟨H, 3, none⟩ = some (.int .u64 x.s) ∧ W.cell? ⟨H, 4, none⟩ = some (.int .u64 x.t) ∧ W.cell? ⟨H, 5, none⟩ = some (.string x.d) ∧ W.cell? ⟨H, 6, none⟩ = some (.string x.a)
theorem PH.drew {w W : World} {H g K : Nat} {x : M7} {t : T4} (h : PH w H g K x t W) : PH w H g K x t W.drew := ⟨⟨h.1.1.drew, h.1.2⟩, h.2⟩
theorem PH.drewN {w W : World} {H g K : Nat} {x : M7} {t : T4} (h : PH w H g K x t W) (q : Nat) : PH w H g K x t (W.drewN q) := ⟨⟨below_drewN h.1.1 q, h.1.2⟩, h.2⟩
theorem PH.call {w W W1 : World} {H g K : Nat} {x : M7} {t : T4} (h : PH w H g K x t W) (hb : Below W.heap.size W W1) : PH w H g K x t W1 := by
  obtain ⟨⟨h0, h1, h2⟩, h3⟩ := h
  have hc : ∀ i, W1.cell? ⟨H, i, none⟩ = W.cell? ⟨H, i, none⟩ := fun i => hb.cell (p := ⟨H, i, none⟩) (Nat.lt_of_lt_of_le h1 h0.size)
  have hc2 : ∀ i, W1.cell? ⟨g, i, none⟩ = W.cell? ⟨g, i, none⟩ := fun i => hb.cell (p := ⟨g, i, none⟩) (Nat.lt_of_lt_of_le h2 h0.size)
  refine ⟨⟨h0.trans (hb.mono h0.size), h1, h2⟩, ?_⟩
  simp only [hc, hc2]
  exact h3

set_option maxRecDepth 100000 in
set_option maxHeartbeats 4000000 in
theorem phas_any {w : World} {base g first : Nat} {most : Int} {ts : List T4} (h : Pl w base g first most ts) (hms : ∀ t ∈ ts, t.len ≤ 1000 ∧ t.ms.length = t.len) (x : M7) :
    Calls Try.prog 21 #[.pointer (some ⟨g, 0, none⟩), .agg #[.int .i64 x.k, .int .i64 x.c, .int .i64 x.f, .int .u64 x.s, .int .u64 x.t, .string x.d, .string x.a]] w fun e w' => e = .returned (.bool (hasW x (ts.map W5))) ∧ Below w.heap.size w w' := by
  have hle := h.le
  have hb0 : Below w.heap.size w (w.alloc (.cells #[.int .i64 x.k, .int .i64 x.c, .int .i64 x.f, .int .u64 x.s, .int .u64 x.t, .string x.d, .string x.a] TM)) := (Below.refl _ _).alloc (Nat.le_refl _) _
  have HP := Lib.hid (h.below hb0)
  obtain ⟨n, hn⟩ : ∃ n, n = ts.length := ⟨_, rfl⟩
  have HL := Lib.hid (plen_any (h.below hb0))
  rw [← hn] at HL hle
  have HN := Lib.hid hn
  have HM := Lib.hid hms
  have HW := Lib.hid hb0
  have HBX := Lib.hid (show BoxM (w.alloc (.cells #[.int .i64 x.k, .int .i64 x.c, .int .i64 x.f, .int .u64 x.s, .int .u64 x.t, .string x.d, .string x.a] TM)) w.heap.size x from heap_alloc_new w _)
  have hgl : g < w.heap.size := h.g_lt
  clear h hn hms hb0
  go_enter Try.func21, Try.ntmps21
  obtain ⟨w0, hw0⟩ : ∃ W : World, W = w.alloc (.cells #[.int .i64 x.k, .int .i64 x.c, .int .i64 x.f, .int .u64 x.s, .int .u64 x.t, .string x.d, .string x.a] TM) := ⟨_, rfl⟩
  rw [← hw0] at HL HW HBX HP
  have h0s : w.heap.size < w0.heap.size := by rw [hw0]; simp
  go_wp2_with fail
  rw [← hw0]
  clear hw0
  refine HL.out.mono ?_
  rintro e w' ⟨rfl, hw'⟩
  obtain rfl := hw'.symm
  go_wp2
  go_loopw [8] (fun i wr => ∃ k : Nat, i = .int .i64 (k : Int) ∧ k ≤ n ∧ Hid (hasW x ((ts.take k).map W5) = false) ∧ Below w0.heap.size w0 wr) (fun i _ => n - (intOf i).toNat)
  case atStart => exact ⟨0, rfl, Nat.zero_le _, Lib.hid rfl, Below.refl _ _⟩
  case round =>
    obtain ⟨k, rfl, hk, hf, hb⟩ := hrel
    have HB := Lib.hid hb
    by_cases hlt : k < n
    · have hkt : k < ts.length := by have := HN.out; omega
      have hi0 : (0 : Int) ≤ (k : Int) := by omega
      have hkn : (k : Int) < (n : Int) := by omega
      have hPw := Lib.hid (HP.out.below hb)
      have HC := Lib.hid (hasW_snoc x ts k hkt)
      have HAt := Lib.hid (hasW_at x ts k hkt)
      obtain ⟨K, hK⟩ : ∃ K, K = (first + k) % 32 * 4 := ⟨_, rfl⟩
      have a3 := hPw.out.at k hkt 3 (by omega)
      have hrow := hPw.out.rows _ (List.getElem_mem hkt)
      have hml := HM.out _ (List.getElem_mem hkt)
      have HPl := Lib.hid (fun (q : Nat) => place_any (w := wr.drewN q) (show Pl (wr.drewN q) base g first most ts from ⟨hPw.out.hg, hPw.out.lt, hPw.out.le, hPw.out.blk, hPw.out.rows⟩) k (by omega))
      have HPl1 := Lib.hid (place_any (w := wr.drew) (show Pl wr.drew base g first most ts from ⟨hPw.out.hg, hPw.out.lt, hPw.out.le, hPw.out.blk, hPw.out.rows⟩) k (by omega))
      rw [← hK] at a3 HPl HPl1
      generalize ts[k] = t at a3 hrow hml HC HAt
      simp [T4.cells] at a3
      have HRd := Lib.hid (row_at hrow hml.2)
      have hl64 : t.len ≤ 9223372036854775807 := by omega
      obtain ⟨x0, x1, x2, x3, x4, x5, x6⟩ := (show BoxM wr w.heap.size x from (hb.block _ h0s).trans HBX.out).cells
      have hPH : PH wr w.heap.size g K x t wr := ⟨⟨Below.refl _ _, Nat.lt_of_lt_of_le h0s hb.size, Nat.lt_of_lt_of_le (by omega) hb.size⟩, a3, x0, x1, x2, x3, x4, x5, x6⟩
      have HF := Lib.hid (fun (W : World) (hW : Rd W t.A t.len t.ms) => find_any t.A t.len t.cap t.ms x W hW hl64)
      obtain ⟨z, hz⟩ : ∃ z, z = place t.ms x t.len 0 := ⟨_, rfl⟩
      rw [← hz] at HF HC HAt
      unfold M7.cells at HF
      clear hb a3 hrow hml x0 x1 x2 x3 x4 x5 x6 hPw hz hK
      by_cases hz1 : z = -1
      · subst hz1
        go_wp2
        go_region_held3 (fun W => (Below wr.heap.size wr W ∧ w.heap.size < wr.heap.size ∧ g < wr.heap.size) ∧ W.cell? ⟨g, K + 3, none⟩ = some (.slice t.A t.len t.cap) ∧
            W.cell? ⟨w.heap.size, 0, none⟩ = some (.int .i64 x.k) ∧ W.cell? ⟨w.heap.size, 1, none⟩ = some (.int .i64 x.c) ∧ W.cell? ⟨w.heap.size, 2, none⟩ = some (.int .i64 x.f) ∧ W.cell? ⟨w.heap.size, 3, none⟩ = some (.int .u64 x.s) ∧ W.cell? ⟨w.heap.size, 4, none⟩ = some (.int .u64 x.t) ∧ W.cell? ⟨w.heap.size, 5, none⟩ = some (.string x.d) ∧ W.cell? ⟨w.heap.size, 6, none⟩ = some (.string x.a))
          (with_reducible first | assumption | exact hPH | exact PH.drew hPH | exact hPH2 | exact hPH3)
          (first
            | (go_at_call 55; ((with_reducible refine (HPl1.out).mono ?_); rintro e wp ⟨rfl, q2, rfl⟩; have hPH2 := PH.drewN hPH (1 + q2)))
            | (go_at_call 56; ((with_reducible refine (HF.out _ (HRd.out.below (And.left (And.left hPH2)))).mono ?_); rintro e wf ⟨rfl, hbF⟩; have hPH3 := PH.call hPH2 hbF)))
        have HBF := Lib.hid (HB.out.trans (hPH3.1.1.mono HB.out.size))
        go_wp2
        exact ⟨⟨k + 1, by go_num, by omega, Lib.hid (by rw [HC.out, hf.out]; rfl), HBF.out⟩, by simp [intOf]; omega⟩
      · have hzb : (z != -1) = true := by simpa using hz1
        go_wp2
        go_region_held3 (fun W => (Below wr.heap.size wr W ∧ w.heap.size < wr.heap.size ∧ g < wr.heap.size) ∧ W.cell? ⟨g, K + 3, none⟩ = some (.slice t.A t.len t.cap) ∧
            W.cell? ⟨w.heap.size, 0, none⟩ = some (.int .i64 x.k) ∧ W.cell? ⟨w.heap.size, 1, none⟩ = some (.int .i64 x.c) ∧ W.cell? ⟨w.heap.size, 2, none⟩ = some (.int .i64 x.f) ∧ W.cell? ⟨w.heap.size, 3, none⟩ = some (.int .u64 x.s) ∧ W.cell? ⟨w.heap.size, 4, none⟩ = some (.int .u64 x.t) ∧ W.cell? ⟨w.heap.size, 5, none⟩ = some (.string x.d) ∧ W.cell? ⟨w.heap.size, 6, none⟩ = some (.string x.a))
          (with_reducible first | assumption | exact hPH | exact PH.drew hPH | exact hPH2 | exact hPH3)
          (first
            | (go_at_call 55; ((with_reducible refine (HPl1.out).mono ?_); rintro e wp ⟨rfl, q2, rfl⟩; have hPH2 := PH.drewN hPH (1 + q2)))
            | (go_at_call 56; ((with_reducible refine (HF.out _ (HRd.out.below (And.left (And.left hPH2)))).mono ?_); rintro e wf ⟨rfl, hbF⟩; have hPH3 := PH.call hPH2 hbF)))
        have HBF := Lib.hid (HB.out.trans (hPH3.1.1.mono HB.out.size))
        go_wp2
        go_ret
        exact ⟨by rw [HAt.out hz1]; rfl, HW.out.trans (HBF.out.mono (Nat.le_of_lt h0s))⟩
    · obtain rfl : k = n := by omega
      go_wp2
      go_ret
      refine ⟨?_, HW.out.trans (HB.out.mono (Nat.le_of_lt h0s))⟩
      have h9 := hf.out
      rw [HN.out, List.take_length] at h9
      rw [h9]
      rfl
set_option maxRecDepth 100000 in
set_option maxHeartbeats 4000000 in
theorem rhas_any {w : World} {base g c : Nat} {most : Int} {A : Option Addr} {qs : List T4} (h : Rp w base g most A c qs) (hl : qs.length ≤ 32) (hq : ∀ q ∈ qs, Rd w q.A q.len q.ms ∧ q.len ≤ 1000000) (x : M7) :
    Calls Try.prog 22 #[.pointer (some ⟨g, 0, none⟩), .agg #[.int .i64 x.k, .int .i64 x.c, .int .i64 x.f, .int .u64 x.s, .int .u64 x.t, .string x.d, .string x.a]] w fun e w' => e = .returned (.bool (hasW x (qs.map W5))) ∧ Below w.heap.size w w' := by
  have hb0 : Below w.heap.size w (w.alloc (.cells #[.int .i64 x.k, .int .i64 x.c, .int .i64 x.f, .int .u64 x.s, .int .u64 x.t, .string x.d, .string x.a] TM)) := (Below.refl _ _).alloc (Nat.le_refl _) _
  have hp := h.below hb0
  have HX := Lib.hid hp.rdx
  obtain ⟨c0, c1⟩ := hp.cells
  have HQ := Lib.hid fun q hm => And.intro ((hq q hm).1.below hb0) (hq q hm).2
  obtain ⟨x0, x1, x2, x3, x4, x5, x6⟩ := (show BoxM (w.alloc (.cells #[.int .i64 x.k, .int .i64 x.c, .int .i64 x.f, .int .u64 x.s, .int .u64 x.t, .string x.d, .string x.a] TM)) w.heap.size x from heap_alloc_new w _).cells
  obtain ⟨n, hn⟩ : ∃ n, n = qs.length := ⟨_, rfl⟩
  rw [← hn] at c0 hl
  have HN := Lib.hid hn
  have HW := Lib.hid hb0
  have heq : ∀ m W, (binOp .eql 27 (.agg #[.int .i64 m.k, .int .i64 m.c, .int .i64 m.f, .int .u64 m.s, .int .u64 m.t, .string m.d, .string m.a]) (.agg #[.int .i64 x.k, .int .i64 x.c, .int .i64 x.f, .int .u64 x.s, .int .u64 x.t, .string x.d, .string x.a])).run Try.prog W = .ok (.bool (same m x)) W := fun m W => eq_run m x W
  clear h hp hn hb0 hq
  go_enter Try.func22, Try.ntmps22
  obtain ⟨w0, hw0⟩ : ∃ W : World, W = w.alloc (.cells #[.int .i64 x.k, .int .i64 x.c, .int .i64 x.f, .int .u64 x.s, .int .u64 x.t, .string x.d, .string x.a] TM) := ⟨_, rfl⟩
  rw [← hw0] at HX HW HQ c0 c1 x0 x1 x2 x3 x4 x5 x6
  go_wp2
  rw [← hw0]
  clear hw0
  go_loopw [5] (fun i wr => ∃ k : Nat, i = .int .i64 (k : Int) ∧ k ≤ n ∧ Hid (hasW x ((qs.take k).map W5) = false) ∧ ∃ q, wr = w0.drewN q) (fun i _ => n - (intOf i).toNat)
  case atStart => exact ⟨0, rfl, Nat.zero_le _, Lib.hid rfl, 0, rfl⟩
  case round =>
    obtain ⟨k, rfl, hk, hf, q, rfl⟩ := hrel
    by_cases hlt : k < n
    · have hkt : k < qs.length := by have := HN.out; omega
      have hi0 : (0 : Int) ≤ (k : Int) := by omega
      have hkn : (k : Int) < (n : Int) := by omega
      have HC := Lib.hid (hasW_snoc x qs k hkt)
      have HAt := Lib.hid (hasW_at x qs k hkt)
      obtain ⟨b, off, rfl, hbl, a0, a1, a2, a3⟩ := HX.out.at hkt
      have hrd := HQ.out _ (List.getElem_mem hkt)
      generalize qs[k] = t at a0 a1 a2 a3 hrd HC HAt
      have HRd := Lib.hid hrd.1
      have hl64 := hrd.2
      clear hrd a0 a1 a2
      go_wp2
      go_loopw [6] (fun j wr => ∃ l : Nat, j = .int .i64 (l : Int) ∧ l ≤ t.len ∧ Hid (place t.ms x t.len 0 = place t.ms x (t.len - l) l) ∧ ∃ q, wr = w0.drewN q) (fun j _ => t.len - (intOf j).toNat)
      case atStart => exact ⟨0, rfl, Nat.zero_le _, Lib.hid rfl, _, rfl⟩
      case round =>
        obtain ⟨l, rfl, hl2, hpl, q3, rfl⟩ := hrel
        by_cases hll : l < t.len
        · obtain ⟨b2, off2, hA2, _, hc⟩ := HRd.out.at (Below.refl _ _) (by omega)
          rw [hA2] at a3
          have hck := hc l hll
          clear hc
          obtain ⟨m, hm⟩ : ∃ m, t.ms.getD l m0 = m := ⟨_, rfl⟩
          rw [hm] at hck
          obtain ⟨d0, d1, d2, d3, d4, d5, d6⟩ := hck
          have HM := Lib.hid hm
          have hem := heq m
          have hj0 : (0 : Int) ≤ (l : Int) := by omega
          have hj1 : (l : Int) < (t.len : Int) := by omega
          clear hm
          by_cases hs : same m x = true
          · rw [hs] at hem
            go_wp2
            go_quiet (fail)
            go_wp2
            go_ret
            have hne : place t.ms x t.len 0 ≠ -1 := by
              rw [hpl.out, show t.len - l = t.len - l - 1 + 1 from by omega, place]
              have hm2 := HM.out
              unfold m0 at hm2
              rw [hm2, if_pos hs]
              omega
            exact ⟨by rw [HAt.out hne]; rfl, below_drewN (below_drewN HW.out _) _⟩
          · have hs' : same m x = false := by simpa using hs
            rw [hs'] at hem
            go_wp2
            go_quiet (fail)
            go_wp2
            refine ⟨⟨l + 1, by go_num, by omega, Lib.hid ?_, _, rfl⟩, by simp [intOf]; omega⟩
            have hm2 := HM.out
            unfold m0 at hm2
            rw [hpl.out, show t.len - l = t.len - (l + 1) + 1 from by omega, place, hm2, if_neg hs]
        · have hend : place t.ms x t.len 0 = -1 := by rw [hpl.out, show t.len - l = 0 by omega]; rfl
          have hj1 : ¬ (l : Int) < (t.len : Int) := by omega
          have HE := Lib.hid hend
          clear hend
          go_wp2
          exact ⟨⟨k + 1, by go_num, by omega, Lib.hid (by rw [HC.out, hf.out, HE.out]; rfl), _, rfl⟩, by simp [intOf]; omega⟩
    · obtain rfl : k = n := by omega
      go_wp2
      go_ret
      refine ⟨?_, below_drewN HW.out _⟩
      have h9 := hf.out
      rw [HN.out, List.take_length] at h9
      rw [h9]
      rfl
end Go.Proofs.Ytjjomlideieofaa.Msg
